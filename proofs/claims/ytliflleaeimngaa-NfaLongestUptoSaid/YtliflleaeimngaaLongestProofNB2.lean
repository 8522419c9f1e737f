/-
  Parts of the proof.
-/
import Derived.Test.YtliflleaeimngaaLongestProofNA0
import Derived.Test.YtliflleaeimngaaLongestProofNB0
import Derived.BigQuiet
import Derived.Test.YtliflleaeimngaaLongestProofNB1
import Derived.Deep.RegionHeld3
import Derived.Deep.DrawnRows
import Derived.Test.YtliflleaeimngaaProg
import Derived.WalkKit
import Derived.WalkSpells
import Derived.WalkLawsBesides
import Derived.Below
import Derived.Laws.AppendOwn
import Derived.Laws.MakeOwn
import Derived.Laws.CopyOwn
import Derived.ProofKit
import Derived.OpenShut
import Derived.Stop.Joined
import Derived.ChangeOld
import Derived.ChangeSlices
import Derived.Carry
import Derived.Maps.AppendAt
import Derived.OwnWalk
import Derived.Deep.RegionLaw
import Derived.Deep.RegionWith
import Derived.Deep.DeepCutAuto
import Derived.Deep.MidRow
import Derived.RangeFuncRecord
import Derived.Deep.RegionHeld
set_option linter.unusedSimpArgs false
set_option maxRecDepth 100000
set_option maxHeartbeats 8000000
namespace Go.Proofs.Ytliflleaeimngaa
open Go Go.RowKit
def dN(W:World):Type:={ w:World // Below W.heap.size W w }
theorem dM{P:Program}{id:Nat}{Q:Exit->Act->World->Prop}{a:Act}{w:World}{l:List Oper}(hm:P.follows .mixedOrders=true)(hB:Region.lexB .any l.toArray=true)
  (h:wpQuiet P l.toArray (fun w'=>∃ x:dN w,w'=x.val) (fun a'=>∀ w',(∃ x:dN w,w'=x.val)->Q .normal a' w') l a):(Code.region id l.toArray true).wp P Q a w:=
 wp_region_quiet (C:=fun w'=>∃ x:dN w,w'=x.val) hm hB ⟨⟨w.drew,(Below.refl _ _).drew⟩,rfl⟩ (by simpa using h)
theorem dU{P:Program}{f:FuncId}{args:Array Value}{W:World}{x:dN W}{v:Value}
  (h:Calls P f args x.val fun e w'=>e=.returned v/\Below x.val.heap.size x.val w'):Calls P f args x.val fun e w''=>e=.returned v/\∃ y:dN W,w''=y.val:=
 h.mono fun _ w' ⟨he,hb⟩=>⟨he,⟨w',x.2.trans (hb.mono x.2.size)⟩,rfl⟩
theorem gF{W:World}(x:dN W)(b o:Nat)(h:b<W.heap.size):x.val.cell? ⟨b,o,none⟩=W.cell? ⟨b,o,none⟩:=x.2.cell (p:=⟨b,o,none⟩) h
section
attribute [local go_sem] fM fL fK fJ cR gF aQ dV aM
attribute [local go_sem ↓] Go.wp_at_zero Go.wp_at_succ
def aO(s:bH)(b:Int):Bool:=!decide (bE s (aP b)=0#256)
theorem iK(s:bH)(b:Int)(w:World) :
  Calls Try.prog 41 #[.agg #[.int .u64 (aB (s) 0),.int .u64 (aB (s) 1),.int .u64 (aB (s) 2),.int .u64 (aB (s) 3)],.int .i64 b] w fun e w'=>e=.returned (.bool (aO s b))/\Below w.heap.size w w':=by
 go_enter Try.func41,Try.ntmps41
 go_wp2
 refine dM (by kernel_rfl) (by kernel_rfl) ?_
 repeat (go_big_quiet_step (first | exact rfl |(go_at_call 51;exact dU (gC _ _)) |(go_at_call 50;exact dU (iO _ _ _))))
 refine wpQuiet_nil ?_
 rintro _ ⟨x,rfl⟩
 go_wp2
 go_ret
 exact⟨rfl,((Below.refl _ _).alloc (k9 _) _).trans (x.2.mono (by simp))⟩
end
theorem lz9{n:Nat}:n<=n:=k9 n
theorem bz9{w:World}{o:Obj}:Below w.heap.size w (w.alloc o):=(Below.refl w.heap.size w).alloc (k9 w.heap.size) o
def bO(l:List Int):List Value:=l.map (Value.int .i64)
theorem cY(l:List Int):(bO l).length=l.length:=by simp [bO]
theorem dJ{l:List Int}{i:Nat}{x:Int}(h:l[i]?=some x):(bO l)[i]?=some (.int .i64 x):=by simp [bO,h]
theorem hH(a b:List Int):bO (a++b)=bO a++bO b:=by simp [bO]
structure Fr(S:Nat->Prop)(w w':World):Prop where
 os:w'.os=w.os
 tape:w'.tape=w.tape
 output:w'.output=w.output
 size:w.heap.size<=w'.heap.size
 block:∀ k,k<w.heap.size->¬ S k->w'.heap[k]?=w.heap[k]?
theorem Fr.refl(S:Nat->Prop)(w:World):Fr S w w:=⟨rfl,rfl,rfl,k9 _,fun _ _ _=>rfl⟩
theorem Fr.trans{S:Nat->Prop}{a b c:World}(h:Fr S a b)(k:Fr S b c):Fr S a c:=
 ⟨k.os.trans h.os,k.tape.trans h.tape,k.output.trans h.output,k6 h.size k.size,fun i hi hs=>(k.block i (j9 hi h.size) hs).trans (h.block i hi hs)⟩
theorem Fr.below{S:Nat->Prop}{a b:World}{n:Nat}(h:Fr S a b)(hn:n<=a.heap.size)(hs:∀ k,S k->n<=k):Below n a b:=
 ⟨h.os,h.tape,h.output,h.size,fun i hi=>h.block i (j9 hi hn) (fun q=>by have:=hs i q;omega)⟩
theorem Fr.of_below{S:Nat->Prop}{a b:World}(h:Below a.heap.size a b):Fr S a b:=⟨h.os,h.tape,h.output,h.size,fun i hi _=>h.block i hi⟩
theorem Fr.alloc{S:Nat->Prop}{a w:World}(h:Fr S a w)(o:Obj):Fr S a (w.alloc o):=h.trans (Fr.of_below ((Below.refl _ _).alloc lz9 o))
theorem Fr.drew{S:Nat->Prop}{a w:World}(h:Fr S a w):Fr S a w.drew:=h.trans (Fr.of_below (Below.refl _ _).drew)
theorem Fr.setCell{S:Nat->Prop}{a w:World}(h:Fr S a w){p:Addr}(hp:S p.block)(u:Value):Fr S a (w.setCell p u):=
 h.trans ⟨rfl,rfl,rfl,by simp [World.setCell],fun k _ hk=>Below.heap_setCell _ _ _ _ (fun e=>hk (e ▸ hp))⟩
theorem Fr.setNew{S:Nat->Prop}{a w:World}(h:Fr S a w){p:Addr}(hp:a.heap.size<=p.block)(u:Value):Fr S a (w.setCell p u):=
 ⟨h.os,h.tape,h.output,by have:=h.size;simp [World.setCell];exact this,fun k hk hs=>(Below.heap_setCell _ _ _ _ (by omega)).trans (h.block k hk hs)⟩
theorem Fr.grown{S:Nat->Prop}{a w w':World}{row:Option Nat}(h:Fr S a w)(hg:w.grownBy w' row)(hr:∀ k,row=some k->S k):Fr S a w':=
 h.trans ⟨hg.os,hg.tape,hg.output,hg.size,fun k hk hs=>hg.block k hk (fun e=>hs (hr k e.symm))⟩
theorem aC{w:World}{k:Nat}{o:Obj}(h:w.heap[k]?=some o):k<w.heap.size:=(k8.1 h).1
theorem aG{w:World}{k:Nat}{cur:Array Value}{t:TypeId}{fr:Nat×Nat}(h:w.heap[k]?=some (.cells cur t fr))(j:Nat)(v:Value):(w.setCell ⟨k,j,none⟩ v).heap[k]?=some (.cells (cur.setIfInBounds j v) t fr):=by
 simp [World.setCell,Array.getElem?_modify,h]
theorem rT{W:World}{x y:Nat}{c c':Array Value}{t t':TypeId}{f f':Nat×Nat}(h:W.heap[x]?=some (.cells c t f))(h':W.heap[y]?=some (.cells c' t' f'))(ht:t≠t'):x≠y:=fun e=>by
 rw [e,h'] at h
 injection h with h
 injection h with _ h _
 exact ht h.symm
theorem aA{W:World}{wb:Nat}{c:Array Value}{t:TypeId}(h:W.heap[wb]?=some (.cells c t (0,0))){i:Nat}{v:Value}(hi:c[i]?=some v):W.cell? ⟨wb,i,none⟩=some v:=by simp [World.cell?,h,hi]
theorem aH{W:World}{wb:Nat}{c:Array Value}{t:TypeId}(h:W.heap[wb]?=some (.cells c t (0,0)))(i:Nat):W.frozen? ⟨wb,i,none⟩=false:=by simp [World.frozen?,h]
theorem aF{n:Nat}{a b c:World}(h:Below n a b)(k:Below b.heap.size b c)(hn:n<=a.heap.size):Below n a c:=h.trans (k.mono (k6 hn h.size))
def Ext(W:World):Type:={ w:World // wBl W w }
theorem eW{P:Program}{id:Nat}{Q:Exit->Act->World->Prop}{a:Act}{w:World}{l:List Oper}(hm:P.follows .mixedOrders=true)(hB:Region.lexB .any l.toArray=true)
  (h:wpQuiet P l.toArray (fun w'=>∃ x:Ext w,w'=x.val) (fun a'=>∀ w',(∃ x:Ext w,w'=x.val)->Q .normal a' w') l a):(Code.region id l.toArray true).wp P Q a w:=
 wp_region_quiet (C:=fun w'=>∃ x:Ext w,w'=x.val) hm hB ⟨⟨w.drew,(Below.refl _ _).drew⟩,rfl⟩ (by simpa using h)
theorem wx9{P:Program}{id:Nat}{Q:Exit->Act->World->Prop}{a:Act}{w:World}{l:List Oper}(h:wpQuiet P l.toArray (fun w'=>∃ x:Ext w,w'=x.val) (fun a'=>∀ w',(∃ x:Ext w,w'=x.val)->Q .normal a' w') l a)(hm:P.follows .mixedOrders=true:=by kernel_rfl)(hB:Region.lexB .any l.toArray=true:=by kernel_rfl):(Code.region id l.toArray true).wp P Q a w:=eW hm hB h
theorem bJ{P:Program}{f:FuncId}{args:Array Value}{W:World}{x:Ext W}{v:Value}
  (h:Calls P f args x.val fun e w'=>e=.returned v/\Below x.val.heap.size x.val w'):Calls P f args x.val fun e w''=>e=.returned v/\∃ y:Ext W,w''=y.val:=
 h.mono fun _ w' ⟨he,hb⟩=>⟨he,⟨w',x.2.trans (hb.mono x.2.size)⟩,rfl⟩
theorem bI{W:World}(x:Ext W)(b o:Nat)(h:b<W.heap.size):x.val.cell? ⟨b,o,none⟩=W.cell? ⟨b,o,none⟩:=x.2.cell (p:=⟨b,o,none⟩) h
theorem bS{W w1:World}(h:∃ x:Ext W,w1=x.val):wBl W w1:=by
 obtain⟨x,rfl⟩:=h
 exact x.2
section
def bZ(l:List Oper)(o:Oper):Bool:=
 (l.zipIdx.all fun x=>x.1.after.all (fun e=>decide (e.on<x.2))&&(match x.1.guard with | none=>true | some g=>decide (g.1<l.length))) &&
 o.guard.isNone&&o.after.all (fun e=>decide (e.on<l.length))&&(List.range l.length).all fun j=>o.after.any fun e=>Region.binds .any e&&e.on==j
section
variable {P:Program} {l:List Oper} {o:Oper} {Q:Exit->Act->World->Prop}
def Q1(P:Program)(l:List Oper)(o:Oper)(Q:Exit->Act->World->Prop):Exit->Act->World->Prop
 | .normal,a,w=>wpList P (l++[o]).toArray Q [o] a w
 | e,a,w=>Q e a w
theorem kG{j:Nat}(h:j<l.length):(l++[o]).toArray[j]?=l.toArray[j]?:=by
 simp [List.getElem?_append_left h]
theorem eM:(l++[o]).toArray[l.length]?=some o:=by simp
theorem cT(h:bZ l o=true){j:Nat}{x:Oper}(hx:l.toArray[j]?=some x):(∀ e∈x.after,e.on<j)/\∀ g b,x.guard=some (g,b)->g<l.length:=by
 unfold bZ at h
 simp only [o5,List.all_eq_true] at h
 have hm:(x,j)∈l.zipIdx:=by
  rw [List.mem_zipIdx_iff_getElem?];simpa using hx
 have:=h.1.1.1 (x,j) hm
 refine⟨fun e he=>?_,fun g b hg=>?_⟩
 ·have h1:=this.1
  rw [Array.all_eq_true_iff_forall_mem] at h1
  simpa using h1 e he
 ·have h2:=this.2
  simp only [hg] at h2
  simpa using h2
theorem gZ(h:bZ l o=true):o.guard=none:=by
 unfold bZ at h
 simp only [o5] at h
 simpa using h.1.1.2
theorem qE(h:bZ l o=true):∀ e∈o.after,e.on<l.length:=by
 unfold bZ at h
 simp only [o5] at h
 have h1:=h.1.2
 rw [Array.all_eq_true_iff_forall_mem] at h1
 intro e he
 simpa using h1 e he
theorem oY(h:bZ l o=true){j:Nat}(hj:j<l.length):∃ e∈o.after,Region.binds .any e=true/\e.on=j:=by
 unfold bZ at h
 simp only [o5,List.all_eq_true] at h
 have:=h.2 j (by simpa using hj)
 rw [<- Array.any_toList,List.any_eq_true] at this
 obtain⟨e,he,hb⟩:=this
 simp at hb
 exact⟨e,by simpa using he,hb.1,hb.2⟩
theorem cM{listed:Array Bool}{j:Nat}(d:Bool)(hj:j<listed.size):(listed.push false).getD j d=listed.getD j d:=by
 simp [Array.getD_eq_getD_getElem?,Array.getElem?_push,Nat.ne_of_lt hj]
theorem fY{listed:Array Bool}(d:Bool):(listed.push false).getD listed.size d=false:=by
 simp [Array.getD_eq_getD_getElem?]
theorem eK(h:bZ l o=true){listed:Array Bool}(hs:listed.size=l.length){j:Nat}(hj:j<l.length) :
  j∈Region.ready .any (l++[o]).toArray (listed.push false)↔j∈Region.ready .any l.toArray listed:=by
 rw [mem_ready,mem_ready,kG hj,cM _ (by omega)]
 refine and_congr_right fun _=>exists_congr fun x=>and_congr_right fun hx=>?_
 have he:=(cT h hx).1
 refine forall_congr' fun e=>forall_congr' fun hm=>forall_congr' fun _=>?_
 have:=he e hm
 rw [cM _ (by omega)]
theorem eT(h:bZ l o=true){listed:Array Bool}(hs:listed.size=l.length)(hr:Region.ready .any l.toArray listed=[]) :
  ∀ j,j<l.length->listed.getD j false=true:=by
 intro j
 induction j using Nat.strongRecOn with
 | _ j ih=>
  intro hj
  have hx:l.toArray[j]?=some l[j]:=by simp [hj]
  have hn:¬ j∈Region.ready .any l.toArray listed:=by rw [hr];simp
  rw [mem_ready] at hn
  have hge:listed.getD j true=true:=by
   rcases hb:listed.getD j true with _ | _
   ·exact absurd ⟨hb,_,hx,fun e he _=>ih e.on ((cT h hx).1 e he) (by have:=(cT h hx).1 e he;omega)⟩ hn
   ·rfl
  have hlt:j<listed.size:=by omega
  simpa [Array.getD_eq_getD_getElem?,hlt] using hge
theorem eP(h:bZ l o=true){listed:Array Bool}(hs:listed.size=l.length)(hr:Region.ready .any l.toArray listed=[]) :
  l.length∈Region.ready .any (l++[o]).toArray (listed.push false):=by
 rw [mem_ready]
 refine⟨by rw [<- hs];exact fY _,o,eM,fun e he _=>?_⟩
 have:=qE h e he
 rw [cM _ (by omega)]
 exact eT h hs hr _ this
theorem eX(h:bZ l o=true){listed:Array Bool}(hs:listed.size=l.length)
  (hl:l.length∈Region.ready .any (l++[o]).toArray (listed.push false)):Region.ready .any l.toArray listed=[]:=by
 rw [mem_ready] at hl
 obtain⟨_,x,hx,ha⟩:=hl
 rw [eM] at hx
 cases hx
 rw [List.eq_nil_iff_forall_not_mem]
 intro j hj
 rw [mem_ready] at hj
 obtain⟨hu,x,hx,_⟩:=hj
 have hlt:j<l.length:=by
  have:=(k8.1 hx).1
  simpa using this
 obtain⟨e,he,hb,rfl⟩:=oY h hlt
 have:=ha e he hb
 rw [cM _ (by omega)] at this
 have hlt':e.on<listed.size:=by omega
 simp [Array.getD_eq_getD_getElem?,hlt'] at this hu
 rw [this] at hu
 cases hu
theorem fF(h:bZ l o=true){listed:Array Bool}(hs:listed.size=l.length)(hr:Region.ready .any l.toArray listed=[]) :
  Region.ready .any (l++[o]).toArray ((listed.push false).setIfInBounds l.length true)=[]:=by
 rw [List.eq_nil_iff_forall_not_mem]
 intro j hj
 rw [mem_ready] at hj
 obtain⟨hu,x,hx,_⟩:=hj
 have hlt:j<l.length+1:=by
  have:=(k8.1 hx).1
  simpa using this
 by_cases e:j=l.length
 ·subst e
  simp [Array.getD_eq_getD_getElem?,hs] at hu
 ·have hj':j<l.length:=by omega
  have:=eT h hs hr j hj'
  have hlt':j<listed.size:=by omega
  have hne:¬ l.length=j:=fun h=>e h.symm
  simp [Array.getD_eq_getD_getElem?,hne,Array.getElem?_push,Nat.ne_of_lt hlt',hlt'] at this hu
  rw [this] at hu
  cases hu
theorem lH(h:bZ l o=true){j:Nat}{x:Oper}(hx:l.toArray[j]?=some x)(tmps:Array Value) :
  Region.wanted x (yielded (l++[o]).toArray tmps)=Region.wanted x (yielded l.toArray tmps):=by
 unfold Region.wanted
 cases hg:x.guard with
 | none=>rfl
 | some g=>
  obtain⟨g,b⟩:=g
  have:=(cT h hx).2 g b hg
  simp only [yielded,kG this]
theorem Oper.wp_q1{x:Oper}{a:Act}{w:World}{K K':Act->World->Prop}(hK:∀ a w,K a w->K' a w)(hh:x.wp P a w K (Q1 P l o Q)):x.wp P a w K' Q:=by
 unfold Oper.wp at *
 generalize (execOp a.eval x).run P w=r at *
 cases r with
 | ok n w'=>
  cases n <;> simp only [Oper.upon] at hh ⊢ <;>
   first
    | exact hK _ _ hh
    | exact Calls.mono hh (fun e w'' he=>by cases e <;> first | exact hK _ _ he | exact he)
    | exact Rows.mono hh (fun _ _ he=>hK _ _ he)
 | halt x w'=>cases x <;> simp only [Oper.upon] at hh ⊢ <;> exact hh
theorem qT(h:bZ l o=true){i:Nat}(hi:i<l.length){a:Act}{w:World}{K K':Act->World->Prop}(hK:∀ a w,K a w->K' a w)
  (hh:wpOp P l.toArray (Q1 P l o Q) i K a w):wpOp P (l++[o]).toArray Q i K' a w:=by
 unfold wpOp at *
 rw [kG hi]
 have hx:l.toArray[i]?=some l[i]:=by simp [hi]
 simp only [hx] at hh ⊢
 rw [lH h hx]
 split
 ·rename_i hw
  rw [if_pos hw] at hh
  exact hh.imp (Oper.wp_q1 hK) (fun g=>⟨g.1,g.2⟩)
 ·rename_i hw
  rw [if_neg hw] at hh
  exact hK _ _ hh
theorem fA(h:bZ l o=true){a:Act}{w:World}{K:Act->World->Prop}(hK:∀ a w,Q .normal a w->K a w)(hh:Q1 P l o Q .normal a w) :
  wpOp P (l++[o]).toArray Q l.length K a w:=by
 unfold wpOp
 rw [eM]
 have hw:∀ y,Region.wanted o y=true:=fun y=>by unfold Region.wanted;rw [gZ h]
 have hh':wpList P (l++[o]).toArray Q [o] a w:=hh
 unfold wpList at hh'
 rw [if_pos (hw _)] at hh'
 simp only [hw,if_true]
 exact hh'.imp (Oper.wp_mono hK) id
theorem pV{listed:Array Bool}{i:Nat}(hi:i<listed.size):(listed.setIfInBounds i true).push false=(listed.push false).setIfInBounds i true:=by
 apply Array.ext'
 simp [List.set_append_left _ _ (show i<listed.toList.length by simpa using hi)]
theorem iP(h:bZ l o=true):∀ (fuel:Nat) (listed:Array Bool) (a:Act) (w:World),listed.size=l.length ->
  wpAny P .any l.toArray (Q1 P l o Q) fuel listed a w->wpAny P .any (l++[o]).toArray Q (fuel+1) (listed.push false) a w:=by
 intro fuel
 induction fuel with
 | zero=>
  rintro listed a w hs ⟨hr,hq⟩
  refine⟨fun h0=>?_,fun i hi=>?_⟩
  ·have:=eP h hs hr;rw [h0] at this;cases this
  ·by_cases e:i=l.length
   ·subst e;exact fA h (fun a w hq=>⟨fF h hs hr,hq⟩) hq
   ·have hlt:i<l.length:=by
     rw [mem_ready] at hi
     obtain⟨_,x,hx,_⟩:=hi
     have:=(k8.1 hx).1
     simp at this;omega
    rw [eK h hs hlt,hr] at hi;cases hi
 | succ fuel ih=>
  rintro listed a w hs ⟨hq,hall⟩
  refine⟨fun h0=>?_,fun i hi=>?_⟩
  ·by_cases hr:Region.ready .any l.toArray listed=[]
   ·have:=eP h hs hr;rw [h0] at this;cases this
   ·obtain⟨j,hj⟩:=List.exists_mem_of_ne_nil _ hr
    have hlt:j<l.length:=by
     rw [mem_ready] at hj
     obtain⟨_,x,hx,_⟩:=hj
     have:=(k8.1 hx).1
     simpa using this
    rw [<- eK h hs hlt,h0] at hj;cases hj
  ·by_cases e:i=l.length
   ·subst e
    have hr:=eX h hs hi
    exact fA h (fun a w hq=>⟨fun _=>hq,fun j hj=>by rw [fF h hs hr] at hj;cases hj⟩) (hq hr)
   ·have hlt:i<l.length:=by
     rw [mem_ready] at hi
     obtain⟨_,x,hx,_⟩:=hi
     have:=(k8.1 hx).1
     simp at this;omega
    have hi':=(eK h hs hlt).1 hi
    refine qT h hlt (fun a' w' hw=>?_) (hall i hi')
    have:=ih (listed.setIfInBounds i true) a' w' (by simpa using hs) hw
    rwa [pV (by omega)] at this
theorem eG{id:Nat}{a:Act}{w:World}(hm:P.follows .mixedOrders=true)(hB:Region.lexB .any l.toArray=true)(hl:bZ l o=true)
  (h:wpQuiet P l.toArray (fun w'=>∃ x:Ext w,w'=x.val) (fun a'=>∀ w',(∃ x:Ext w,w'=x.val)->wpList P (l++[o]).toArray Q [o] a' w') l a):(Code.region id (l++[o]).toArray true).wp P Q a w:=by
 simp only [Region.lexB,o5] at hB
 refine wp_region_any hm ?_
 have h1:=wpAnyQ_lex (C:=fun w'=>∃ x:Ext w,w'=x.val) (md:=.any) hB.1 l 0 (Array.replicate l.length false) a (by simp) (by simpa using hB.2) h
 have h2:=wpAny_of_quiet (Q':=Q1 P l o Q) (fun _ w' hw' h=>h w' hw') _ _ _ { w with drawn:=w.drawn+1 } ⟨⟨w.drew,(Below.refl _ _).drew⟩,rfl⟩ h1
 have h3:=iP hl _ _ _ _ (by simp) h2
 have e:(Array.replicate l.length false).push false=Array.replicate (l++[o]).toArray.size false:=by simp [Array.replicate_succ]
 rw [e] at h3
 simpa using h3
end
theorem dD{P:Program}{Q:Exit->Act->World->Prop}{id:Nat}{a:Act}{w:World}{L:List Oper}(hne:L≠[])(hm:P.follows .mixedOrders=true)(hB:Region.lexB .any L.dropLast.toArray=true)(hl:bZ L.dropLast (L.getLast hne)=true)
  (h:wpQuiet P L.dropLast.toArray (fun w'=>∃ x:Ext w,w'=x.val) (fun a'=>∀ w',(∃ x:Ext w,w'=x.val)->wpList P L.toArray Q [L.getLast hne] a' w') L.dropLast a):(Code.region id L.toArray true).wp P Q a w:=by
 have e:L.dropLast++[L.getLast hne]=L:=List.dropLast_concat_getLast hne
 have:=eG (P:=P) (Q:=Q) (id:=id) (a:=a) (w:=w) (l:=L.dropLast) (o:=L.getLast hne) hm hB hl (by rw [e];exact h)
 rwa [e] at this
end
section
open Go Go.ChangeShapes Go.WideShapes Go.ChangeAt Go.RowKit
theorem own:ownKnob Try.prog.godebug=none:=by kernel_rfl
theorem sA:laidOutB Try.prog=true:=by kernel_rfl
end
theorem eI:(Try.prog.info? 3).map (fun i=>(i.zero,i.size,i.bytes))=some (some (.int .i64 0),1,8):=by kernel_rfl
theorem gH:Try.prog.underlying 32=some (.slice 3):=by kernel_rfl
theorem info_parts{P:Program}{t:TypeId}{z:Value}{s b:Nat}(h:(P.info? t).map (fun i=>(i.zero,i.size,i.bytes))=some (some z,s,b)):∃ i,P.info? t=some i/\i.zero=some z/\i.size=s/\i.bytes=b:=by
 cases hi:P.info? t with
 | none=>rw [hi] at h;cases h
 | some i=>
  rw [hi] at h
  simp at h
  exact⟨i,rfl,h.1,h.2.1,h.2.2⟩
theorem dF{S:Nat->Prop}{w w':World}{base:Nat}{t:TypeId}{size n:Nat}{v:Value}{xs:List Value}(h:w.ownsRow base t size v n xs)(hf:Fr S w w')(hs:∀ k,v.ownBlock=some k->¬ S k):w'.ownsRow base t size v n xs:=by
 obtain⟨h1,h2 | ⟨g,cap,cur,q1,q2,q3,q4⟩⟩:=h
 ·exact⟨h1,.inl h2⟩
 ·exact⟨h1,.inr ⟨g,cap,cur,q1,q2,(hf.block _ (aC q3) (hs g (by rw [q1];rfl))).trans q3,q4⟩⟩
theorem fV{w:World}{base base':Nat}{t:TypeId}{size n:Nat}{v:Value}{xs:List Value}(h:w.ownsRow base t size v n xs)(hb:base'<=base):w.ownsRow base' t size v n xs:=by
 obtain⟨h1,h2 | ⟨g',cap',cur,q1,q2,q4⟩⟩:=h
 ·exact⟨h1,.inl h2⟩
 ·exact⟨h1,.inr ⟨g',cap',cur,q1,k6 hb q2,q4⟩⟩
theorem eY{w:World}{base:Nat}{e:TypeId}{size n:Nat}{v:Value}{xs:List Value}(h:w.ownsRow base e size v n xs):∃ q c,v=.slice q n c:=by
 rcases h.2 with⟨rfl,rfl⟩ | ⟨g,cap,cur,rfl,_⟩
 ·exact⟨_,_,rfl⟩
 ·exact⟨_,_,rfl⟩
theorem dG{w:World}{base:Nat}{e:TypeId}{size n:Nat}{v:Value}{xs:List Value}(h:w.ownsRow base e size v n xs){g:Nat}(hg:v.ownBlock=some g):base<=g/\g<w.heap.size/\∃ cur,w.heap[g]?=some (.cells cur e (0,0)):=by
 rcases h.2 with⟨rfl,rfl⟩ | ⟨g',cap,cur,rfl,h1,h2,_⟩
 ·cases hg
 ·cases hg;exact⟨h1,aC h2,cur,h2⟩
theorem cP{w:World}{base:Nat}{e t:TypeId}{size n:Nat}{v:Value}{xs:List Value}(h:w.ownsRow base e size v n xs){b:Nat}{cs:Array Value}(hb:w.heap[b]?=some (.cells cs t (0,0)))(ht:t≠e):v.ownBlock≠some b:=fun q=>by
 obtain⟨_,_,cur,hc⟩:=dG h q
 exact rT hb hc ht rfl
theorem fW{w:World}{base:Nat}{e:TypeId}{size n g c:Nat}{xs:List Value}(h:w.ownsRow base e size (.slice (some ⟨g,0,none⟩) n c) n xs){j:Nat}{u:Value}(hj:xs[j]?=some u):w.cell? ⟨g,j,none⟩=some u:=by
 rcases h.2 with⟨q,_⟩ | ⟨g',cap,cur,q1,_,q3,_,_,q6,q7⟩
 ·cases q
 ·cases q1
  have:cur[j]?=some u:=by
   rw [<- q7,List.getElem?_take] at hj
   split at hj
   ·simpa using hj
   ·cases hj
  simp [World.cell?,q3,this]
theorem gU{w:World}{base:Nat}{e:TypeId}{size n g c:Nat}{xs:List Value}(h:w.ownsRow base e size (.slice (some ⟨g,0,none⟩) n c) n xs):n<=c/\c<=maxLen:=by
 rcases h.2 with⟨q,_⟩ | ⟨g,cap,cur,q,_,_,hc,hm,_⟩
 ·cases q
 ·cases q;exact⟨hc,hm⟩
theorem eH{P:Program}{ops:Array Oper}{o:Oper}{a:Act}{w:World}{K:Act->World->Prop}{Q:Exit->Act->World->Prop}{E:Prop}(hgd:o.guard=none)(s x:Operand)(t:TypeId)
  (ho:o.op=.call { callee:=.builtin .append,args:=#[s,x],argTypes:=#[t,t] })
  (base:Nat) (e:TypeId) (i:TypeInfo) (z:Value) (size bytes:Nat) (ht:P.underlying t=some (.slice e)) (hi:P.info? e=some i) (hz:i.zero=some z)
  (hsize:i.size=size) (hby:i.bytes=bytes) (hzs:z.cells.size=size) (hsz:0<size)
  (v:Value) (n:Nat) (xs:List Value) (hs:a.eval s=v) (hown:w.ownsRow base e size v n xs)
  (ad:Addr) (m c:Nat) (news:List Value) (hx:a.eval x=.slice (some ad) m c) (hl:news.length=m*size) (hnews:∀ j u,news[j]?=some u->w.cell? (ad.add j)=some u) (h1:∀ u∈news,u.oneCell'=true)
  (h63:n+m<=maxLen) (hbytes:(n+m)*bytes<=140737488355328) (hbase:base<=w.heap.size)
  (h:∀ v' w',w'.ownsRow base e size v' (n+m) (xs++news)->w.grownBy w' v.ownBlock->(v'.ownBlock=v.ownBlock\/v'.ownBlock=some w.heap.size)->K (a.put o.dst v') w') :
  if Region.wanted o (yielded ops a.tmps)=true then Oper.wp P o a w K Q else E:=by
 have hw:Region.wanted o (yielded ops a.tmps)=true:=by simp [Region.wanted,hgd]
 rw [if_pos hw]
 obtain⟨v',w',hrun,h2,h3,_,h5⟩:=run_append_own_at (P:=P) w base t o.type e i z size bytes ht hi hz hsize hby hzs hsz v n xs hown ad m c news hl hnews h1 h63 hbytes hbase
 unfold Oper.wp
 simp [execOp,ho,resolve,invoke,builtin,hs,hx,hrun,Result.andThen]
 exact h v' w' h2 h3 h5
theorem aE(w:World)(o:Obj):(w.alloc o).heap[w.heap.size]?=some o:=by unfold World.alloc;simp
theorem aD{p:Prop}(h:p):Hid p:=h
structure Ins where
 op:Int
 x:Int
 y:Int
 n:Int
 mn:Int
 mx:Int
 s:bH
 deriving DecidableEq
def inC(i:Ins):List Value:=#[.int .i64 i.op,.int .i64 i.x,.int .i64 i.y,.int .i64 i.n,.int .i64 i.mn,.int .i64 i.mx,.int .u64 (aB i.s 0),.int .u64 (aB i.s 1),.int .u64 (aB i.s 2),.int .u64 (aB i.s 3)].toList
theorem cL(i:Ins):(inC i).length=10:=rfl
theorem dO:Try.prog.underlying 22=some (.slice 47):=by kernel_rfl
theorem sD(i:Ins):∀ v∈inC i,v.oneCell'=true:=by
 intro v hv
 unfold inC at hv
 simp at hv
 rcases hv with rfl | rfl | rfl | rfl | rfl | rfl | rfl | rfl | rfl | rfl <;> rfl
theorem iE(n:Nat)(x0 x1 x2 x3 y0 y1 y2 y3:Int)(w:World) :
  (Op.equalIn (n+2) 45 (.agg #[.int .u64 x0,.int .u64 x1,.int .u64 x2,.int .u64 x3]) (.agg #[.int .u64 y0,.int .u64 y1,.int .u64 y2,.int .u64 y3])).run Try.prog w
   = .ok (x0==y0&&x1==y1&&x2==y2&&x3==y3) w:=by
 have u22:=Try.underlying43
 have a22:=Try.isAgg43
 have z22:=Try.sizeOf43
 have hu:Try.prog.underlying 45=some (.array 4 43):=by kernel_rfl
 rw [show n+2=(n+1)+1 from rfl,Op.equalIn]
 simp only [Sem.run_bind,run_underlying hu,Result.andThen_ok]
 simp only [Std.Legacy.Range.forIn_eq_forIn_range',Std.Legacy.Range.size,Nat.sub_zero,Nat.add_sub_cancel,Nat.div_one,List.range'_succ,List.range'_zero,List.forIn_cons,List.forIn_nil]
 go_simp
 by_cases h0:x0=y0 <;> by_cases h1:x1=y1 <;> by_cases h2:x2=y2 <;> by_cases h3:x3=y3 <;> simp [h0,h1,h2,h3]
theorem pB(n:Nat)(a0 a1 a2 a3 a4 a5 a6 a7 a8 a9 b0 b1 b2 b3 b4 b5 b6 b7 b8 b9:Int)(w:World) :
  (Op.equalIn (n+3) 47 (.agg #[.int .i64 a0,.int .i64 a1,.int .i64 a2,.int .i64 a3,.int .i64 a4,.int .i64 a5,.int .u64 a6,.int .u64 a7,.int .u64 a8,.int .u64 a9]) (.agg #[.int .i64 b0,.int .i64 b1,.int .i64 b2,.int .i64 b3,.int .i64 b4,.int .i64 b5,.int .u64 b6,.int .u64 b7,.int .u64 b8,.int .u64 b9])).run Try.prog w
   = .ok (a0==b0&&a1==b1&&a2==b2&&a3==b3&&a4==b4&&a5==b5&&(a6==b6&&a7==b7&&a8==b8&&a9==b9)) w:=by
 have u3:=Try.underlying3
 have a3':=Try.isAgg3
 have z3:=Try.sizeOf3
 have zas:=Try.isAgg45
 have zs:=Try.sizeOf45
 have hS:Try.prog.underlying 47=some (.struct (Try.prog.fieldsOf 47)):=by kernel_rfl
 have hp:Try.prog.stoodInHeld 47=false:=by kernel_rfl
 have EW:=iE n
 rw [show n+3=(n+2)+1 from rfl,run_equalIn_agg w (n+2) 47 _ _ hS hp]
 simp only [Program.fieldsOf,Try.underlying47]
 go_simp
 clear EW hS hp zas zs u3 a3' z3
 by_cases h0:a0=b0
 case neg=>simp [h0]
 by_cases h1:a1=b1
 case neg=>simp [h0,h1]
 by_cases h2:a2=b2
 case neg=>simp [h0,h1,h2]
 by_cases h3:a3=b3
 case neg=>simp [h0,h1,h2,h3]
 by_cases h4:a4=b4
 case neg=>simp [h0,h1,h2,h3,h4]
 by_cases h5:a5=b5
 case neg=>simp [h0,h1,h2,h3,h4,h5]
 by_cases h6:a6=b6 <;> by_cases h7:a7=b7 <;> by_cases h8:a8=b8 <;> by_cases h9:a9=b9 <;> simp [h0,h1,h2,h3,h4,h5,h6,h7,h8,h9]
theorem sC(a b:Ins):(a.op==b.op&&a.x==b.x&&a.y==b.y&&a.n==b.n&&a.mn==b.mn&&a.mx==b.mx&&(aB a.s 0==aB b.s 0&&aB a.s 1==aB b.s 1&&aB a.s 2==aB b.s 2&&aB a.s 3==aB b.s 3))=decide (a=b):=by
 rw [eZ,Bool.eq_iff_iff]
 obtain⟨a1,a2,a3,a4,a5,a6,a7⟩:=a
 obtain⟨b1,b2,b3,b4,b5,b6,b7⟩:=b
 simp [and_assoc]
theorem pA(a b:Ins)(w:World):(Op.equalIn 10000 47 (.agg #[.int .i64 a.op,.int .i64 a.x,.int .i64 a.y,.int .i64 a.n,.int .i64 a.mn,.int .i64 a.mx,.int .u64 (aB a.s 0),.int .u64 (aB a.s 1),.int .u64 (aB a.s 2),.int .u64 (aB a.s 3)]) (.agg #[.int .i64 b.op,.int .i64 b.x,.int .i64 b.y,.int .i64 b.n,.int .i64 b.mn,.int .i64 b.mx,.int .u64 (aB b.s 0),.int .u64 (aB b.s 1),.int .u64 (aB b.s 2),.int .u64 (aB b.s 3)])).run Try.prog w=.ok (decide (a=b)) w:=by
 rw [<- sC]
 exact pB 9997 _ _ _ _ _ _ _ _ _ _ _ _ _ _ _ _ _ _ _ _ w
theorem bN(a b:Ins)(w:World):(binOp .neq 47 (.agg #[.int .i64 a.op,.int .i64 a.x,.int .i64 a.y,.int .i64 a.n,.int .i64 a.mn,.int .i64 a.mx,.int .u64 (aB a.s 0),.int .u64 (aB a.s 1),.int .u64 (aB a.s 2),.int .u64 (aB a.s 3)]) (.agg #[.int .i64 b.op,.int .i64 b.x,.int .i64 b.y,.int .i64 b.n,.int .i64 b.mn,.int .i64 b.mx,.int .u64 (aB b.s 0),.int .u64 (aB b.s 1),.int .u64 (aB b.s 2),.int .u64 (aB b.s 3)])).run Try.prog w=.ok (.bool (!decide (a=b))) w:=by
 have e':(Op.equal 47 (.agg #[.int .i64 a.op,.int .i64 a.x,.int .i64 a.y,.int .i64 a.n,.int .i64 a.mn,.int .i64 a.mx,.int .u64 (aB a.s 0),.int .u64 (aB a.s 1),.int .u64 (aB a.s 2),.int .u64 (aB a.s 3)]) (.agg #[.int .i64 b.op,.int .i64 b.x,.int .i64 b.y,.int .i64 b.n,.int .i64 b.mn,.int .i64 b.mx,.int .u64 (aB b.s 0),.int .u64 (aB b.s 1),.int .u64 (aB b.s 2),.int .u64 (aB b.s 3)])).run Try.prog w=.ok (decide (a=b)) w:=pA a b w
 simp only [binOp]
 simp [e']
def LI(w:World)(q:Option Addr)(L:List Ins):Prop:=∀ (j:Nat) (i:Ins),L[j]?=some i->∃ g o,q=some ⟨g,o,none⟩/\g<w.heap.size/\w.rangeAt g (o+j*10) (inC i)
theorem aR{V V':World}{g o:Nat}{cs:List Value}(h:V.rangeAt g o cs)(e:V'.heap[g]?=V.heap[g]?):V'.rangeAt g o cs:=fun j v hv=>by
 have:=h j v hv
 unfold World.cell? at this ⊢
 rw [e]
 exact this
theorem LI.same{w w':World}{q:Option Addr}{L:List Ins}(h:LI w q L)(he:∀ g o,q=some ⟨g,o,none⟩->g<w.heap.size->w'.heap[g]?=w.heap[g]?)(hs:w.heap.size<=w'.heap.size):LI w' q L:=fun j i hi=>by
 obtain⟨g,o,h1,h2,h3⟩:=h j i hi
 exact⟨g,o,h1,j9 h2 hs,aR h3 (he g o h1 h2)⟩
theorem LI.kept{w w':World}{q:Option Addr}{L:List Ins}(h:LI w q L)(hb:wBl w w'):LI w' q L:=h.same (fun g _ _ hg=>hb.block g hg) hb.size
theorem LI.ten{w:World}{q:Option Addr}{L:List Ins}(h:LI w q L){j:Nat}{i:Ins}(hi:L[j]?=some i):∃ g o,q=some ⟨g,o,none⟩/\g<w.heap.size/\w.cell? ⟨g,o+j*10,none⟩=some (.int .i64 i.op)/\w.cell? ⟨g,o+j*10+1,none⟩=some (.int .i64 i.x)/\w.cell? ⟨g,o+j*10+2,none⟩=some (.int .i64 i.y)/\w.cell? ⟨g,o+j*10+3,none⟩=some (.int .i64 i.n)/\w.cell? ⟨g,o+j*10+4,none⟩=some (.int .i64 i.mn)/\w.cell? ⟨g,o+j*10+5,none⟩=some (.int .i64 i.mx)/\w.cell? ⟨g,o+j*10+6,none⟩=some (.int .u64 (aB i.s 0))/\w.cell? ⟨g,o+j*10+7,none⟩=some (.int .u64 (aB i.s 1))/\w.cell? ⟨g,o+j*10+8,none⟩=some (.int .u64 (aB i.s 2))/\w.cell? ⟨g,o+j*10+9,none⟩=some (.int .u64 (aB i.s 3)):=by
 obtain⟨g,o,h1,h2,h3⟩:=h j i hi
 exact⟨g,o,h1,h2,h3 0 _ rfl,h3 1 _ rfl,h3 2 _ rfl,h3 3 _ rfl,h3 4 _ rfl,h3 5 _ rfl,h3 6 _ rfl,h3 7 _ rfl,h3 8 _ rfl,h3 9 _ rfl⟩
section
def cV(i:Ins)(a:Int)(bg en:Bool):List Int:=
 if i.op=2 then [i.x,i.y] else if i.op=3 then [i.x] else if i.op=6\/i.op=7 then [a+1] else if i.op=4 then (if bg then [a+1] else []) else if i.op=5 then (if en then [a+1] else []) else []
abbrev cH(s:List UInt8)(i:Ins)(a:Int)(pl:Nat):List Int:=cV i a (decide (pl=0)) (decide (pl=s.length))
def Rc(P:List Ins)(s:List UInt8)(b pl:Nat)(a:Int):Prop:=
 ∀ R:Nat->Int->Prop,R b 0->(∀ pl a i x,R pl a->P[a.toNat]?=some i->x∈cH s i a pl->R pl x)->(∀ pl a i c,R pl a->P[a.toNat]?=some i->i.op=1->s[pl]?=some c->aO i.s (c.toNat:Int)=true->R (pl+1) (a+1))->R pl a
section
variable {P:List Ins} {s:List UInt8} {b pl:Nat} {a:Int}
theorem Rc.start:Rc P s b b 0:=fun _ h _ _=>h
theorem Rc.eps{i:Ins}{x:Int}(h:Rc P s b pl a)(hi:P[a.toNat]?=some i)(hx:x∈cH s i a pl):Rc P s b pl x:=fun R h0 h1 h2=>h1 pl a i x (h R h0 h1 h2) hi hx
theorem Rc.byte{i:Ins}{c:UInt8}(h:Rc P s b pl a)(hi:P[a.toNat]?=some i)(ho:i.op=1)(hc:s[pl]?=some c)(hs:aO i.s (c.toNat:Int)=true):Rc P s b (pl+1) (a+1):=fun R h0 h1 h2=>h2 pl a i c (h R h0 h1 h2) hi ho hc hs
theorem Rc.ind{Q:Nat->Int->Prop}(h:Rc P s b pl a)(h0:Q b 0)(h1:∀ pl a i x,Rc P s b pl a->Q pl a->P[a.toNat]?=some i->x∈cH s i a pl->Q pl x)(h2:∀ pl a i c,Rc P s b pl a->Q pl a->P[a.toNat]?=some i->i.op=1->s[pl]?=some c->aO i.s (c.toNat:Int)=true->Q (pl+1) (a+1)):Q pl a:=
 (h (fun pl a=>Rc P s b pl a/\Q pl a) ⟨Rc.start,h0⟩ (fun pl a i x hr hi hx=>⟨hr.1.eps hi hx,h1 pl a i x hr.1 hr.2 hi hx⟩) (fun pl a i c hr hi ho hc hs=>⟨hr.1.byte hi ho hc hs,h2 pl a i c hr.1 hr.2 hi ho hc hs⟩)).2
theorem Rc.ge(h:Rc P s b pl a):b<=pl:=h.ind (Q:=fun pl _=>b<=pl) lz9 (fun _ _ _ _ _ q _ _=>q) (fun _ _ _ _ _ q _ _ _ _=>Nat.le_succ_of_le q)
theorem Rc.le(h:Rc P s b pl a)(hb:b<=s.length):pl<=s.length:=h.ind (Q:=fun pl _=>pl<=s.length) hb (fun _ _ _ _ _ q _ _=>q) (fun _ _ _ _ _ _ _ _ hc _=>(f7.1 hc).1)
theorem Rc.mid(h:Rc P s b pl a):∀ m,b<=m->m<=pl->∃ x,Rc P s b m x:=by
 refine h.ind (Q:=fun pl _=>∀ m,b<=m->m<=pl->∃ x,Rc P s b m x) ?_ ?_ ?_
 ·intro m h1 h2
  obtain rfl:b=m:=by omega
  exact⟨0,Rc.start⟩
 ·intro pl a i x _ q _ _
  exact q
 ·intro pl a i c hr q hi ho hc hs m h1 h2
  rcases j7 pl m with h | h
  ·obtain rfl:m=pl+1:=by omega
   exact⟨_,hr.byte hi ho hc hs⟩
  ·exact q m h1 h
end
def Mt(P:List Ins)(s:List UInt8)(b e:Nat):Prop:=∃ a i,Rc P s b e a/\P[a.toNat]?=some i/\i.op=11
theorem Mt.ge{P:List Ins}{s:List UInt8}{b e:Nat}(h:Mt P s b e):b<=e:=by obtain⟨a,i,h,_⟩:=h;exact h.ge
theorem Mt.le{P:List Ins}{s:List UInt8}{b e:Nat}(h:Mt P s b e)(hb:b<=s.length):e<=s.length:=by obtain⟨a,i,h,_⟩:=h;exact h.le hb
theorem Mt.mid{P:List Ins}{s:List UInt8}{b e m:Nat}(h:Mt P s b e)(h1:b<=m)(h2:m<=e):∃ x,Rc P s b m x:=by obtain⟨a,i,h,_⟩:=h;exact h.mid m h1 h2
structure GP(P:List Ins):Prop where
 pos:0<P.length
 len:P.length<=40000
 eps:∀ (a:Nat) i,P[a]?=some i->∀ bg en,∀ x∈cV i a bg en,0<=x/\x<P.length
 nx:∀ (a:Nat) i,P[a]?=some i->i.op=1->a+1<P.length
structure dT(P:List Ins)(s:List UInt8)(first last:Nat)(fd:Bool)(F T:Int):Prop where
 z:fd=false->F=0/\T=0
 no:fd=false->∀ b e,first<=b->b<=last->¬ Mt P s b e
 yes:fd=true->∃ b e:Nat,F=b/\T=e/\first<=b/\b<=last/\Mt P s b e/\∀ b' e',first<=b'->b'<=last->Mt P s b' e'->b<=b'/\(b'=b->e'<=e)
structure Fd(P:List Ins)(s:List UInt8)(first last pl:Nat)(fd:Bool)(F T:Int):Prop where
 z:fd=false->F=0/\T=0
 no:fd=false->∀ b e,first<=b->b<=last->e<pl->¬ Mt P s b e
 yes:fd=true->∃ b e:Nat,F=b/\T=e/\first<=b/\b<=last/\e<pl/\Mt P s b e/\∀ b' e',first<=b'->b'<=last->e'<pl->Mt P s b' e'->b<=b'/\(b'=b->e'<=e)
structure Cw(P:List Ins)(s:List UInt8)(first last pl B:Nat)(X:List Int)(g:Int->Int)(fd:Bool)(F:Int):Prop where
 snd:∀ a∈X,∃ b:Nat,g a=b/\first<=b/\b<=last/\b<B/\Rc P s b pl a
 srt:X.Pairwise (fun x y=>g x<=g y)
 cmp:∀ b a,first<=b->b<=last->b<B->(fd=true->(b:Int)<=F)->Rc P s b pl a->a∈X/\g a<=b
structure EnQ(P:List Ins)(s:List UInt8)(pl:Nat)(X N:List Int)(x:Int):Prop where
 mem:x∈X++N
 src:∀ y∈N,∀ Q:Int->Prop,Q x->(∀ a i z,Q a->P[a.toNat]?=some i->z∈cH s i a pl->Q z)->Q y
 clo:∀ y∈N,∀ i z,P[y.toNat]?=some i->z∈cH s i y pl->z∈X++N
section
variable {P:List Ins} {s:List UInt8} {first last pl:Nat} {X N:List Int} {g g':Int->Int} {fd:Bool} {F T:Int}
theorem kZ(h:Cw P s first last pl pl X g fd F)(hs:last<pl\/fd=true)(hT:fd=true->F<pl):Cw P s first last pl (pl+1) X g fd F:=by
 refine⟨fun a ha=>?_,h.srt,fun b a h1 h2 h3 h4 h5=>?_⟩
 ·obtain⟨b,q1,q2,q3,q4,q5⟩:=h.snd a ha
  exact⟨b,q1,q2,q3,by omega,q5⟩
 ·refine h.cmp b a h1 h2 ?_ h4 h5
  rcases hs with hs | hs
  ·omega
  ·have:=h4 hs
   have:=hT hs
   omega
theorem iG(h:Cw P s first last pl pl X g fd F)(hf:first<=pl)(hl:pl<=last)(hfd:fd=false)(hE:EnQ P s pl X N 0)(hn:∀ x∈N,g' x=pl)(ho:∀ x∈X,g' x=g x):Cw P s first last pl (pl+1) (X++N) g' fd F:=by
 have hlt:∀ x∈X,g x<pl:=fun x hx=>by
  obtain⟨b,q1,_,_,q4,_⟩:=h.snd x hx
  omega
 refine⟨fun a ha=>?_,?_,fun b a h1 h2 h3 h4 h5=>?_⟩
 ·rcases l9.1 ha with ha | ha
  ·obtain⟨b,q1,q2,q3,q4,q5⟩:=h.snd a ha
   exact⟨b,(ho a ha).trans q1,q2,q3,by omega,q5⟩
  ·exact⟨pl,hn a ha,hf,hl,Nat.lt_succ_self _,hE.src a ha (fun x=>Rc P s pl pl x) Rc.start (fun a i z q hi hz=>q.eps hi hz)⟩
 ·rw [List.pairwise_append]
  refine⟨h.srt.imp_of_mem (fun hx hy q=>by rw [ho _ hx,ho _ hy];exact q),?_,fun x hx y hy=>?_⟩
  ·exact List.Pairwise.imp_of_mem (R:=fun _ _=>True) (fun hx hy _=>by rw [hn _ hx,hn _ hy];exact Int.le_refl _) (List.pairwise_iff_forall_sublist.2 (fun _=>trivial))
  ·rw [ho x hx,hn y hy]
   exact Int.le_of_lt (hlt x hx)
 ·have mg:∀ y∈X++N,g' y<=pl:=fun y hy=>by
   rcases l9.1 hy with hy | hy
   ·rw [ho y hy]
    exact Int.le_of_lt (hlt y hy)
   ·rw [hn y hy]
    exact Int.le_refl _
  rcases j7 b pl with hb | hb
  ·obtain⟨q1,q2⟩:=h.cmp b a h1 h2 hb h4 h5
   exact⟨l5 _ q1,by rw [ho a q1];exact q2⟩
  ·obtain rfl:b=pl:=by omega
   have hm:a∈X++N:=by
    refine h5.ind (Q:=fun pl' a=>pl'=b->a∈X++N) (fun _=>hE.mem) ?_ ?_ rfl
    ·intro pl' a i x hr q hi hx e
     subst e
     have q:=q rfl
     rcases l9.1 q with q | q
     ·obtain⟨b0,p1,p2,p3,p4,p5⟩:=h.snd a q
      exact l5 _ (h.cmp b0 x p2 p3 p4 (fun e=>by rw [hfd] at e;cases e) (p5.eps hi hx)).1
     ·exact hE.clo a q i x hi hx
    ·intro pl' a i c hr _ _ _ _ _ e
     have:=hr.ge
     omega
   exact⟨hm,mg a hm⟩
theorem kX(h:Fd P s first last pl fd F T)(hl:last<=s.length)(hp:s.length<pl):dT P s first last fd F T:=by
 refine⟨h.z,fun e b e' h1 h2 hm=>h.no e b e' h1 h2 ?_ hm,fun e=>?_⟩
 ·have:=hm.le (by omega)
  omega
 ·obtain⟨b,e',q1,q2,q3,q4,q5,q6,q7⟩:=h.yes e
  exact⟨b,e',q1,q2,q3,q4,q6,fun b' e'' p1 p2 p3=>q7 b' e'' p1 p2 (by have:=p3.le (by omega);omega) p3⟩
theorem fH(h:Fd P s first last pl fd F T)(hc:Cw P s first last pl (pl+1) [] g fd F)(hf:first<=pl):dT P s first last fd F T:=by
 have hno:∀ b,first<=b->b<=last->b<=pl->(fd=true->(b:Int)<=F)->∀ x,¬ Rc P s b pl x:=fun b h1 h2 h3 h4 x hx=>by
  have:=(hc.cmp b x h1 h2 (by omega) h4 hx).1
  cases this
 refine⟨h.z,fun e b e' h1 h2 hm=>?_,fun e=>?_⟩
 ·have hlp:last<pl:=by
   rcases j7 last pl with q | q
   ·exact q
   ·exact absurd Rc.start (hno pl hf q lz9 (fun q=>by rw [e] at q;cases q) 0)
  rcases j7 e' pl with q | q
  ·exact h.no e b e' h1 h2 q hm
  ·obtain⟨x,hx⟩:=hm.mid (by omega) q
   exact hno b h1 h2 (by omega) (fun q=>by rw [e] at q;cases q) x hx
 ·obtain⟨b,e',q1,q2,q3,q4,q5,q6,q7⟩:=h.yes e
  refine⟨b,e',q1,q2,q3,q4,q6,fun b' e'' p1 p2 p3=>?_⟩
  rcases j7 e'' pl with q | q
  ·exact q7 b' e'' p1 p2 q p3
  ·rcases j7 b b' with r | r
   ·exact⟨by omega,fun e=>by omega⟩
   ·have:=q6.ge
    obtain⟨x,hx⟩:=p3.mid (m:=pl) (by omega) q
    exact absurd hx (hno b' p1 p2 (by omega) (fun _=>by omega) x)
end
structure Go2(P:List Ins)(s:List UInt8)(first last pl:Nat)(X:List Int)(g:Int->Int)(fd0:Bool)(F0 T0:Int)(k:Nat)(Y:List Int)(h:Int->Int)(fd:Bool)(F T:Int):Prop where
 snd:∀ a∈Y,∃ b:Nat,h a=b/\first<=b/\b<=last/\b<pl+1/\Rc P s b (pl+1) a
 src:∀ a∈Y,∃ j x,j<k/\X[j]?=some x/\h a=g x
 srt:Y.Pairwise (fun x y=>h x<=h y)
 byt:∀ j x i c,j<k->X[j]?=some x->P[x.toNat]?=some i->i.op=1->s[pl]?=some c->aO i.s (c.toNat:Int)=true->x+1∈Y/\h (x+1)<=g x
 clo:∀ a∈Y,∀ i y,P[a.toNat]?=some i->y∈cH s i a (pl+1)->y∈Y/\h y<=h a
 mat:∀ j x i,j<k->X[j]?=some x->P[x.toNat]?=some i->i.op=11->fd=true/\F<=g x/\T=pl
 fdm:fd0=true->fd=true/\F<=F0
 old:(fd=fd0/\F=F0/\T=T0)\/(fd=true/\T=pl/\∃ b:Nat,F=b/\first<=b/\b<=last/\Mt P s b pl)
section
variable {P:List Ins} {s:List UInt8} {first last pl:Nat} {X Y N:List Int} {g h h':Int->Int} {fd fd0:Bool} {F T F0 T0:Int} {k:Nat}
theorem kV:Go2 P s first last pl X g fd0 F0 T0 0 [] h fd0 F0 T0:=
 ⟨fun _ q=>by(cases q),fun _ q=>by(cases q),List.Pairwise.nil,fun j _ _ _ q=>by omega,fun _ q=>by(cases q),fun j _ _ q=>by omega,fun e=>⟨e,Int.le_refl _⟩,.inl ⟨rfl,rfl,rfl⟩⟩
theorem fT{X:List Int}{g:Int->Int}(h:X.Pairwise (fun x y=>g x<=g y)){j k:Nat}{x y:Int}(hj:X[j]?=some x)(hk:X[k]?=some y)(hjk:j<=k):g x<=g y:=by
 obtain⟨hj1,rfl⟩:=f7.1 hj
 obtain⟨hk1,rfl⟩:=f7.1 hk
 rcases Nat.lt_or_eq_of_le hjk with q | rfl
 ·exact List.pairwise_iff_getElem.1 h j k hj1 hk1 q
 ·exact Int.le_refl _
theorem hJ(hG:Go2 P s first last pl X g fd0 F0 T0 k Y h fd F T){x:Int}{i:Ins}(hx:X[k]?=some x)(hi:P[x.toNat]?=some i)(hm:i.op≠11)(hb:∀ c,i.op=1->s[pl]?=some c->aO i.s (c.toNat:Int)=false):Go2 P s first last pl X g fd0 F0 T0 (k+1) Y h fd F T:=by
 refine⟨hG.snd,fun a ha=>?_,hG.srt,fun j y i' c hj hy hi' ho hc hs=>?_,hG.clo,fun j y i' hj hy hi' ho=>?_,hG.fdm,hG.old⟩
 ·obtain⟨j,y,q1,q2⟩:=hG.src a ha
  exact⟨j,y,by omega,q2⟩
 ·rcases j7 j k with q | q
  ·exact hG.byt j y i' c q hy hi' ho hc hs
  ·obtain rfl:j=k:=by omega
   rw [hx] at hy
   cases hy
   rw [hi] at hi'
   cases hi'
   rw [hb c ho hc] at hs
   cases hs
 ·rcases j7 j k with q | q
  ·exact hG.mat j y i' q hy hi' ho
  ·obtain rfl:j=k:=by omega
   rw [hx] at hy
   cases hy
   rw [hi] at hi'
   cases hi'
   exact absurd ho hm
theorem hY(hC:Cw P s first last pl (pl+1) X g fd0 F0)(hG:Go2 P s first last pl X g fd0 F0 T0 k Y h fd F T){x:Int}{i:Ins}{c:UInt8}(hx:X[k]?=some x)(hi:P[x.toNat]?=some i)(ho:i.op=1)(hc:s[pl]?=some c)(hs:aO i.s (c.toNat:Int)=true)
  (hE:EnQ P s (pl+1) Y N (x+1)) (hn:∀ y∈N,h' y=g x) (hk:∀ y∈Y,h' y=h y):Go2 P s first last pl X g fd0 F0 T0 (k+1) (Y++N) h' fd F T:=by
 have hle:∀ y∈Y,h y<=g x:=fun y hy=>by
  obtain⟨j,z,q1,q2,q3⟩:=hG.src y hy
  rw [q3]
  exact fT hC.srt q2 hx (by omega)
 have hle':∀ y∈Y++N,h' y<=g x:=fun y hy=>by
  rcases l9.1 hy with hy | hy
  ·rw [hk y hy];exact hle y hy
  ·rw [hn y hy];exact Int.le_refl _
 obtain⟨b,g1,g2,g3,g4,g5⟩:=hC.snd x (j8 hx)
 refine⟨fun a ha=>?_,fun a ha=>?_,?_,fun j y i' c' hj hy hi' ho' hc' hs'=>?_,fun a ha i' y hi' hy=>?_,fun j y i' hj hy hi' ho'=>?_,hG.fdm,hG.old⟩
 ·rcases l9.1 ha with ha | ha
  ·obtain⟨b,q1,q2⟩:=hG.snd a ha
   exact⟨b,(hk a ha).trans q1,q2⟩
  ·exact⟨b,(hn a ha).trans g1,g2,g3,g4,hE.src a ha (fun z=>Rc P s b (pl+1) z) (g5.byte hi ho hc hs) (fun a i z q hi hz=>q.eps hi hz)⟩
 ·rcases l9.1 ha with ha | ha
  ·obtain⟨j,z,q1,q2,q3⟩:=hG.src a ha
   exact⟨j,z,by omega,q2,(hk a ha).trans q3⟩
  ·exact⟨k,x,Nat.lt_succ_self _,hx,hn a ha⟩
 ·rw [List.pairwise_append]
  refine⟨hG.srt.imp_of_mem (fun hx hy q=>by rw [hk _ hx,hk _ hy];exact q),?_,fun y hy z hz=>?_⟩
  ·exact List.Pairwise.imp_of_mem (R:=fun _ _=>True) (fun hx hy _=>by rw [hn _ hx,hn _ hy];exact Int.le_refl _) (List.pairwise_iff_forall_sublist.2 (fun _=>trivial))
  ·rw [hk y hy,hn z hz]
   exact hle y hy
 ·rcases j7 j k with q | q
  ·obtain⟨q1,q2⟩:=hG.byt j y i' c' q hy hi' ho' hc' hs'
   exact⟨l5 _ q1,by rw [hk _ q1];exact q2⟩
  ·obtain rfl:j=k:=by omega
   rw [hx] at hy
   cases hy
   exact⟨hE.mem,hle' _ hE.mem⟩
 ·rcases l9.1 ha with ha | ha
  ·obtain⟨q1,q2⟩:=hG.clo a ha i' y hi' hy
   exact⟨l5 _ q1,by rw [hk _ q1,hk _ ha];exact q2⟩
  ·have:=hE.clo a ha i' y hi' hy
   exact⟨this,by rw [hn _ ha];exact hle' y this⟩
 ·rcases j7 j k with q | q
  ·exact hG.mat j y i' q hy hi' ho'
  ·obtain rfl:j=k:=by omega
   rw [hx] at hy
   cases hy
   rw [hi] at hi'
   cases hi'
   rw [ho] at ho'
   exact absurd ho' (by decide)
theorem dR(hC:Cw P s first last pl (pl+1) X g fd0 F0)(hG:Go2 P s first last pl X g fd0 F0 T0 k Y h fd F T){x:Int}{i:Ins}(hx:X[k]?=some x)(hi:P[x.toNat]?=some i)(ho:i.op=11)(hF:fd=true->g x<=F):Go2 P s first last pl X g fd0 F0 T0 (k+1) Y h true (g x) pl:=by
 obtain⟨b,g1,g2,g3,g4,g5⟩:=hC.snd x (j8 hx)
 refine⟨hG.snd,fun a ha=>?_,hG.srt,fun j y i' c hj hy hi' ho' hc hs=>?_,hG.clo,fun j y i' hj hy hi' ho'=>?_,fun e=>⟨rfl,?_⟩,.inr ⟨rfl,rfl,b,g1,g2,g3,x,i,g5,hi,ho⟩⟩
 ·obtain⟨j,y,q1,q2⟩:=hG.src a ha
  exact⟨j,y,by omega,q2⟩
 ·rcases j7 j k with q | q
  ·exact hG.byt j y i' c q hy hi' ho' hc hs
  ·obtain rfl:j=k:=by omega
   rw [hx] at hy
   cases hy
   rw [hi] at hi'
   cases hi'
   rw [ho] at ho'
   exact absurd ho' (by decide)
 ·rcases j7 j k with q | q
  ·obtain⟨q1,q2,_⟩:=hG.mat j y i' q hy hi' ho'
   exact⟨rfl,Int.le_trans (hF q1) q2,rfl⟩
  ·obtain rfl:j=k:=by omega
   rw [hx] at hy
   cases hy
   exact⟨rfl,Int.le_refl _,rfl⟩
 ·obtain⟨q1,q2⟩:=hG.fdm e
  exact Int.le_trans (hF q1) q2
theorem eR(hC:Cw P s first last pl (pl+1) X g fd0 F0){b:Nat}{a:Int}(h1:first<=b)(h2:b<=last)(h3:b<=pl)(h4:fd0=true->(b:Int)<=F0)(hr:Rc P s b pl a):∃ j:Nat,X[j]?=some a/\g a<=b:=by
 obtain⟨q1,q2⟩:=hC.cmp b a h1 h2 (by omega) h4 hr
 obtain⟨j,hj⟩:=List.getElem?_of_mem q1
 exact⟨j,hj,q2⟩
theorem dK(hD:Fd P s first last pl fd0 F0 T0)(hC:Cw P s first last pl (pl+1) X g fd0 F0)(hG:Go2 P s first last pl X g fd0 F0 T0 k Y h fd F T)(he:X.length<=k\/(fd=true/\∃ x,X[k]?=some x/\F<g x)) :
  Cw P s first last (pl+1) (pl+1) Y h fd F/\Fd P s first last (pl+1) fd F T:=by
 have hlow:∀ j a,X[j]?=some a->(fd=true->g a<=F)->j<k:=fun j a hj hga=>by
  rcases he with q | ⟨q1,x,q2,q3⟩
  ·have:=(f7.1 hj).1
   omega
  ·rcases j7 j k with r | r
   ·exact r
   ·have:=fT hC.srt q2 hj r
    have:=hga q1
    omega
 have hb0:∀ b:Nat,(fd=true->(b:Int)<=F)->fd0=true->(b:Int)<=F0:=fun b q e=>by
  obtain⟨q1,q2⟩:=hG.fdm e
  have:=q q1
  omega
 refine⟨⟨fun a ha=>?_,hG.srt,fun b a h1 h2 h3 h4 h5=>?_⟩,⟨fun e=>?_,fun e b e' h1 h2 h3 hm=>?_,fun e=>?_⟩⟩
 ·exact hG.snd a ha
 ·refine h5.ind (Q:=fun pl' a=>pl'=pl+1->a∈Y/\h a<=b) (fun e=>by omega) ?_ ?_ rfl
  ·intro pl' a i x hr q hi hx e
   subst e
   obtain⟨q1,q2⟩:=q rfl
   obtain⟨r1,r2⟩:=hG.clo a q1 i x hi hx
   exact⟨r1,Int.le_trans r2 q2⟩
  ·intro pl' a i c hr _ hi ho hc hs e
   obtain rfl:pl'=pl:=by omega
   obtain⟨j,hj,hg⟩:=eR hC h1 h2 (by omega) (hb0 b h4) hr
   have hjk:=hlow j a hj (fun q=>Int.le_trans hg (h4 q))
   obtain⟨r1,r2⟩:=hG.byt j a i c hjk hj hi ho hc hs
   exact⟨r1,Int.le_trans r2 hg⟩
 ·rcases hG.old with⟨q1,q2,q3⟩ | ⟨q1,_⟩
  ·rw [q2,q3]
   exact hD.z (q1 ▸ e)
  ·rw [e] at q1
   cases q1
 ·have e0:fd0=false:=by
   cases hq:fd0 with
   | false=>rfl
   | true=>
    have:=(hG.fdm hq).1
    rw [e] at this
    cases this
  rcases j7 e' pl with q | q
  ·exact hD.no e0 b e' h1 h2 q hm
  ·obtain rfl:e'=pl:=by omega
   obtain⟨a,i,hr,hi,ho⟩:=hm
   obtain⟨j,hj,hg⟩:=eR hC h1 h2 hr.ge (fun q=>by rw [e0] at q;cases q) hr
   have hjk:=hlow j a hj (fun q=>by rw [e] at q;cases q)
   have:=(hG.mat j a i hjk hj hi ho).1
   rw [e] at this
   cases this
 ·rcases hG.old with⟨q1,q2,q3⟩ | ⟨_,q2,b,q3,q4,q5,q6⟩
  ·obtain⟨b,e',r1,r2,r3,r4,r5,r6,r7⟩:=hD.yes (q1 ▸ e)
   refine⟨b,e',q2.trans r1,q3.trans r2,r3,r4,by omega,r6,fun b' e'' p1 p2 p3 p4=>?_⟩
   rcases j7 e'' pl with q | q
   ·exact r7 b' e'' p1 p2 q p4
   ·rcases j7 b b' with r | r
    ·exact⟨by omega,fun e=>by omega⟩
    ·exfalso
     obtain rfl:e''=pl:=by omega
     obtain⟨a,i,hr,hi,ho⟩:=p4
     obtain⟨j,hj,hg⟩:=eR hC p1 p2 hr.ge (fun _=>by omega) hr
     have hjk:=hlow j a hj (fun _=>by omega)
     have:=(hG.mat j a i hjk hj hi ho).2.2
     omega
  ·refine⟨b,pl,q3,q2,q4,q5,Nat.lt_succ_self _,q6,fun b' e'' p1 p2 p3 p4=>⟨?_,fun _=>by omega⟩⟩
   have hfo:fd0=true->F<=F0:=fun e=>(hG.fdm e).2
   rcases j7 e'' pl with q | q
   ·cases hq:fd0 with
    | false=>exact absurd p4 (hD.no hq b' e'' p1 p2 q)
    | true=>
     obtain⟨b0,e0,r1,r2,r3,r4,r5,r6,r7⟩:=hD.yes hq
     have:=(r7 b' e'' p1 p2 q p4).1
     have:=hfo hq
     omega
   ·obtain rfl:e''=pl:=by omega
    obtain⟨a,i,hr,hi,ho⟩:=p4
    by_cases hc:fd0=true->(b':Int)<=F0
    ·obtain⟨j,hj,hg⟩:=eR hC p1 p2 hr.ge hc hr
     by_cases hga:fd=true->g a<=F
     ·have hjk:=hlow j a hj hga
      have:=(hG.mat j a i hjk hj hi ho).2.1
      omega
     ·have:¬ g a<=F:=fun q=>hga (fun _=>q)
      omega
    ·have hq:fd0=true:=by
      cases hq:fd0 with
      | true=>rfl
      | false=>exact absurd (fun e=>by rw [hq] at e;cases e) hc
     have:=hfo hq
     have:¬ (b':Int)<=F0:=fun q=>hc (fun _=>q)
     omega
theorem hU(hD:Fd P s first last pl fd0 F0 T0)(hC:Cw P s first last pl (pl+1) X g fd0 F0)(hG:Go2 P s first last pl X g fd0 F0 T0 k Y h fd F T){x:Int}{i:Ins}(hx:X[k]?=some x)(hi:P[x.toNat]?=some i)(ho:i.op=11)(hF:fd=true->g x<=F)(hl:last<=s.length)(hp:pl=s.length):dT P s first last true (g x) pl:=by
 have hM:=dR hC hG hx hi ho hF
 obtain⟨b,g1,g2,g3,g4,g5⟩:=hC.snd x (j8 hx)
 refine⟨fun e=>(by cases e),fun e=>(by cases e),fun _=>⟨b,pl,g1,rfl,g2,g3,⟨x,i,g5,hi,ho⟩,fun b' e'' p1 p2 p4=>⟨?_,fun _=>?_⟩⟩⟩
 ·have hfo:fd0=true->g x<=F0:=fun e=>(hM.fdm e).2
  have hle:=p4.le (by omega)
  rcases j7 e'' pl with q | q
  ·cases hq:fd0 with
   | false=>exact absurd p4 (hD.no hq b' e'' p1 p2 q)
   | true=>
    obtain⟨b0,e0,r1,r2,r3,r4,r5,r6,r7⟩:=hD.yes hq
    have:=(r7 b' e'' p1 p2 q p4).1
    have:=hfo hq
    omega
  ·obtain rfl:e''=pl:=by omega
   obtain⟨a,i',hr,hi',ho'⟩:=p4
   by_cases hc:fd0=true->(b':Int)<=F0
   ·obtain⟨j,hj,hg⟩:=eR hC p1 p2 hr.ge hc hr
    rcases j7 j (k+1) with r | r
    ·have:=(hM.mat j a i' r hj hi' ho').2.1
     omega
    ·have:=fT hC.srt hx hj (by omega)
     omega
   ·have hq:fd0=true:=by
     cases hq:fd0 with
     | true=>rfl
     | false=>exact absurd (fun e=>by rw [hq] at e;cases e) hc
    have:=hfo hq
    have:¬ (b':Int)<=F0:=fun q=>hc (fun _=>q)
    omega
 ·have:=p4.le (by omega)
  omega
end
end
section
def Tow(P:List Ins)(s:List UInt8)(e pl:Nat)(a:Int):Prop:=
 ∀ R:Nat->Int->Prop,(∀ a i,P[a.toNat]?=some i->i.op=11->R e a)->(∀ pl a i x,R pl x->P[a.toNat]?=some i->x∈cH s i a pl->R pl a)->(∀ pl a i c,R (pl+1) (a+1)->P[a.toNat]?=some i->i.op=1->s[pl]?=some c->aO i.s (c.toNat:Int)=true->R pl a)->R pl a
section
variable {P:List Ins} {s:List UInt8} {e pl:Nat} {a:Int}
theorem Tow.mt{i:Ins}(hi:P[a.toNat]?=some i)(ho:i.op=11):Tow P s e e a:=fun _ h _ _=>h a i hi ho
theorem Tow.eps{i:Ins}{x:Int}(h:Tow P s e pl x)(hi:P[a.toNat]?=some i)(hx:x∈cH s i a pl):Tow P s e pl a:=fun R h0 h1 h2=>h1 pl a i x (h R h0 h1 h2) hi hx
theorem Tow.byte{i:Ins}{c:UInt8}(h:Tow P s e (pl+1) (a+1))(hi:P[a.toNat]?=some i)(ho:i.op=1)(hc:s[pl]?=some c)(hs:aO i.s (c.toNat:Int)=true):Tow P s e pl a:=fun R h0 h1 h2=>h2 pl a i c (h R h0 h1 h2) hi ho hc hs
theorem Tow.ind{Q:Nat->Int->Prop}(h:Tow P s e pl a)(h0:∀ a i,P[a.toNat]?=some i->i.op=11->Q e a)(h1:∀ pl a i x,Tow P s e pl x->Q pl x->P[a.toNat]?=some i->x∈cH s i a pl->Q pl a)(h2:∀ pl a i c,Tow P s e (pl+1) (a+1)->Q (pl+1) (a+1)->P[a.toNat]?=some i->i.op=1->s[pl]?=some c->aO i.s (c.toNat:Int)=true->Q pl a):Q pl a:=
 (h (fun pl a=>Tow P s e pl a/\Q pl a) (fun a i hi ho=>⟨Tow.mt hi ho,h0 a i hi ho⟩) (fun pl a i x hr hi hx=>⟨hr.1.eps hi hx,h1 pl a i x hr.1 hr.2 hi hx⟩) (fun pl a i c hr hi ho hc hs=>⟨hr.1.byte hi ho hc hs,h2 pl a i c hr.1 hr.2 hi ho hc hs⟩)).2
theorem Tow.le(h:Tow P s e pl a)(hp:pl<=s.length):e<=s.length:=by
 refine h.ind (Q:=fun pl _=>pl<=s.length->e<=s.length) (fun _ _ _ _ q=>q) (fun _ _ _ _ _ q _ _=>q) (fun pl a i c _ q _ _ hc _ _=>q ?_) hp
 exact(f7.1 hc).1
theorem qI{b:Nat}:Tow P s e b 0↔Mt P s b e:=by
 constructor
 ·intro h
  refine h.ind (Q:=fun pl a=>Rc P s b pl a->Mt P s b e) ?_ ?_ ?_ Rc.start
  ·intro a i hi ho hr
   exact⟨a,i,hr,hi,ho⟩
  ·intro pl a i x _ q hi hx hr
   exact q (hr.eps hi hx)
  ·intro pl a i c _ q hi ho hc hs hr
   exact q (hr.byte hi ho hc hs)
 ·rintro ⟨a,i,hr,hi,ho⟩
  refine hr.ind (Q:=fun pl a=>Tow P s e pl a->Tow P s e b 0) (fun h=>h) ?_ ?_ (Tow.mt hi ho)
  ·intro pl a i x _ q hi hx h
   exact q (h.eps hi hx)
  ·intro pl a i c _ q hi ho hc hs h
   exact q (h.byte hi ho hc hs)
structure RowM(P:List Ins)(s:List UInt8)(pl:Nat)(r:Nat->Int):Prop where
 snd:∀ k,k<P.length->r k=-1\/∃ e:Nat,r k=e/\Tow P s e pl k
 cmp:∀ k,k<P.length->∀ e:Nat,Tow P s e pl k->(e:Int)<=r k
theorem rD{r up:Nat->Int}(hP:GP P)
  (snd:∀ k,k<P.length->r k=-1\/∃ e:Nat,r k=e/\Tow P s e pl k)
  (cm:∀ k i,P[k]?=some i->i.op=11->(pl:Int)<=r k)
  (ce:∀ (k:Nat) i x,P[k]?=some i->x∈cH s i k pl->r x.toNat<=r k)
  (cb:∀ (k:Nat) i c,P[k]?=some i->i.op=1->s[pl]?=some c->aO i.s (c.toNat:Int)=true->up (k+1)<=r k)
  (hu:pl<s.length->RowM P s (pl+1) up):RowM P s pl r:=by
 refine⟨snd,fun k hk e h=>?_⟩
 have key:∀ {pl':Nat} {a:Int},Tow P s e pl' a->0<=a->pl'=pl->(e:Int)<=r a.toNat:=by
  intro pl' a h
  refine h.ind (Q:=fun pl' a=>0<=a->pl'=pl->(e:Int)<=r a.toNat) ?_ ?_ ?_
  ·intro a i hi ho _ he
   subst he
   exact cm _ i hi ho
  ·intro pl' a i x _ q hi hx ha he
   subst he
   have hx':x∈cH s i ((a.toNat:Nat):Int) pl':=by rw [Int.toNat_of_nonneg ha];exact hx
   have g:=hP.eps _ i hi _ _ x hx'
   exact Int.le_trans (q g.1 rfl) (ce _ i x hi hx')
  ·intro pl' a i c hf _ hi ho hc hs ha he
   subst he
   have hl:=(f7.1 hc).1
   have hn:=hP.nx _ i hi ho
   have e1:((a.toNat+1:Nat):Int)=a+1:=by omega
   have:=(hu hl).cmp (a.toNat+1) hn e (by rw [e1];exact hf)
   exact Int.le_trans this (cb _ i c hi ho hc hs)
 have:=key h (by omega) rfl
 simpa using this
theorem RowM.at0{r:Nat->Int}(hP:GP P)(h:RowM P s pl r):(r 0=-1/\∀ e,¬ Mt P s pl e)\/∃ e:Nat,r 0=e/\Mt P s pl e/\∀ e',Mt P s pl e'->e'<=e:=by
 rcases h.snd 0 hP.pos with q | ⟨e,q,f⟩
 ·refine Or.inl ⟨q,fun e m=>?_⟩
  have:=h.cmp 0 hP.pos e (qI.2 m)
  omega
 ·refine Or.inr ⟨e,q,qI.1 f,fun e' m=>?_⟩
  have:=h.cmp 0 hP.pos e' (qI.2 m)
  omega
end
end
section
abbrev rwF(L:List Int):Nat->Int:=fun k=>L.getD k (-1)
def nvM(s:List UInt8)(pl:Nat)(r up:Nat->Int)(k:Nat)(i:Ins):Int:=
 if i.op=11 then (pl:Int) else if i.op=2 then (if r i.x.toNat>r i.y.toNat then r i.x.toNat else r i.y.toNat) else if i.op=3 then r i.x.toNat
 else if i.op=1 then (match s[pl]? with | some c=>if aO i.s (c.toNat:Int)=true then up (k+1) else -1 | none=>-1)
 else if i.op=4 then (if pl=0 then r (k+1) else -1) else if i.op=5 then (if pl=s.length then r (k+1) else -1)
 else if i.op=6\/i.op=7 then r (k+1) else -1
section
variable {P:List Ins} {s:List UInt8} {pl:Nat} {r up:Nat->Int}
def iI(P:List Ins)(s:List UInt8)(pl:Nat)(r:Nat->Int):Prop:=∀ k,k<P.length->r k=-1\/∃ e:Nat,r k=e/\Tow P s e pl k
theorem dA{k:Nat}{i:Ins}{x:Int}(hP:GP P)(h:iI P s pl r)(hi:P[k]?=some i)(hx:x∈cH s i k pl):r x.toNat=-1\/∃ e:Nat,r x.toNat=e/\Tow P s e pl k:=by
 have g:=hP.eps _ i hi _ _ x hx
 rcases h x.toNat (by omega) with q | ⟨e,q,f⟩
 ·exact Or.inl q
 ·refine Or.inr ⟨e,q,?_⟩
  rw [Int.toNat_of_nonneg g.1] at f
  exact f.eps (a:=(k:Int)) (by simpa using hi) hx
theorem tC{k:Nat}{i:Ins}(hP:GP P)(h:iI P s pl r)(hu:pl<s.length->RowM P s (pl+1) up)(hi:P[k]?=some i):nvM s pl r up k i=-1\/∃ e:Nat,nvM s pl r up k i=e/\Tow P s e pl k:=by
 have hi':P[((k:Nat):Int).toNat]?=some i:=by simpa using hi
 have ek:((k:Int)+1).toNat=k+1:=by omega
 unfold nvM
 by_cases h11:i.op=11
 ·rw [if_pos h11]
  exact Or.inr ⟨pl,rfl,Tow.mt hi' h11⟩
 rw [if_neg h11]
 by_cases h2:i.op=2
 ·rw [if_pos h2]
  split
  ·exact dA hP h hi (by unfold cH cV;rw [if_pos h2];simp)
  ·exact dA hP h hi (by unfold cH cV;rw [if_pos h2];simp)
 rw [if_neg h2]
 by_cases h3:i.op=3
 ·rw [if_pos h3]
  exact dA hP h hi (by unfold cH cV;rw [if_neg h2,if_pos h3];simp)
 rw [if_neg h3]
 by_cases h1:i.op=1
 ·rw [if_pos h1]
  split
  ·rename_i c hc
   split
   ·rename_i hs
    have hl:=(f7.1 hc).1
    rcases (hu hl).snd (k+1) (hP.nx _ i hi h1) with q | ⟨e,q,f⟩
    ·exact Or.inl q
    ·exact Or.inr ⟨e,q,Tow.byte (by simpa using f) hi' h1 hc hs⟩
   ·exact Or.inl rfl
  ·exact Or.inl rfl
 rw [if_neg h1]
 by_cases h4:i.op=4
 ·rw [if_pos h4]
  split
  ·rename_i hp
   have:=dA (x:=(k:Int)+1) hP h hi (by unfold cH cV;rw [if_neg h2,if_neg h3,if_neg (by omega),if_pos h4];simp [hp])
   rw [ek] at this
   exact this
  ·exact Or.inl rfl
 rw [if_neg h4]
 by_cases h5:i.op=5
 ·rw [if_pos h5]
  split
  ·rename_i hp
   have:=dA (x:=(k:Int)+1) hP h hi (by unfold cH cV;rw [if_neg h2,if_neg h3,if_neg (by omega),if_neg h4,if_pos h5];simp [hp])
   rw [ek] at this
   exact this
  ·exact Or.inl rfl
 rw [if_neg h5]
 by_cases h67:i.op=6\/i.op=7
 ·rw [if_pos h67]
  have:=dA (x:=(k:Int)+1) hP h hi (by unfold cH cV;rw [if_neg h2,if_neg h3,if_pos h67];simp)
  rw [ek] at this
  exact this
 rw [if_neg h67]
 exact Or.inl rfl
theorem tD(hP:GP P)(h:iI P s pl r)(hu:pl<s.length->RowM P s (pl+1) up)(hf:∀ k i,P[k]?=some i->nvM s pl r up k i<=r k):RowM P s pl r:=by
 refine rD (up:=up) hP h ?_ ?_ ?_ hu
 ·intro k i hi ho
  have:=hf k i hi
  unfold nvM at this
  rwa [if_pos ho] at this
 ·intro k i x hi hx
  have:=hf k i hi
  unfold nvM at this
  have ek:((k:Int)+1).toNat=k+1:=by omega
  unfold cH cV at hx
  by_cases h2:i.op=2
  ·rw [if_pos h2] at hx
   rw [if_neg (by omega),if_pos h2] at this
   simp only [o4,List.not_mem_nil,or_false] at hx
   rcases hx with rfl | rfl <;> split at this <;> omega
  rw [if_neg h2] at hx
  by_cases h3:i.op=3
  ·rw [if_pos h3] at hx
   rw [if_neg (by omega),if_neg h2,if_pos h3] at this
   simp only [o4,List.not_mem_nil,or_false] at hx
   subst hx
   exact this
  rw [if_neg h3] at hx
  by_cases h67:i.op=6\/i.op=7
  ·rw [if_pos h67] at hx
   rw [if_neg (by omega),if_neg h2,if_neg h3,if_neg (by omega),if_neg (by omega),if_neg (by omega),if_pos h67] at this
   simp only [o4,List.not_mem_nil,or_false] at hx
   subst hx
   rw [ek]
   exact this
  rw [if_neg h67] at hx
  by_cases h4:i.op=4
  ·rw [if_pos h4] at hx
   rw [if_neg (by omega),if_neg h2,if_neg h3,if_neg (by omega),if_pos h4] at this
   by_cases hp:pl=0
   ·rw [if_pos hp] at this
    rw [if_pos (by simpa using hp)] at hx
    simp only [o4,List.not_mem_nil,or_false] at hx
    subst hx
    rw [ek]
    exact this
   ·rw [if_neg (by simpa using hp)] at hx
    cases hx
  rw [if_neg h4] at hx
  by_cases h5:i.op=5
  ·rw [if_pos h5] at hx
   rw [if_neg (by omega),if_neg h2,if_neg h3,if_neg (by omega),if_neg h4,if_pos h5] at this
   by_cases hp:pl=s.length
   ·rw [if_pos hp] at this
    rw [if_pos (by simpa using hp)] at hx
    simp only [o4,List.not_mem_nil,or_false] at hx
    subst hx
    rw [ek]
    exact this
   ·rw [if_neg (by simpa using hp)] at hx
    cases hx
  rw [if_neg h5] at hx
  cases hx
 ·intro k i c hi h1 hc hs
  have:=hf k i hi
  unfold nvM at this
  rw [if_neg (by omega),if_neg (by omega),if_neg (by omega),if_pos h1,hc] at this
  simp only [hs,if_true] at this
  exact this
def mzR(m:Int)(L:List Int):Nat:=(L.map (fun x=>(m-x).toNat)).sum
theorem bX{m:Int}{L:List Int}{k:Nat}{x v:Int}(h:L[k]?=some x)(h1:x<v)(h2:v<=m):mzR m (L.set k v)<mzR m L:=by
 induction L generalizing k with
 | nil=>simp at h
 | cons y l ih=>
  cases k with
  | zero=>
   simp at h
   subst h
   simp only [mzR,i9,List.map_cons,List.sum_cons]
   omega
  | succ k=>
   have:=ih (k:=k) (by simpa using h)
   simp only [mzR,j3,List.map_cons,List.sum_cons] at this ⊢
   omega
theorem bV{L:List Int}{k:Nat}{v:Int}(h:iI P s pl (rwF L))(hv:v=-1\/∃ e:Nat,v=e/\Tow P s e pl k):iI P s pl (rwF (L.set k v)):=by
 intro j hj
 by_cases e:k=j
 ·subst e
  by_cases hk:k<L.length
  ·have:rwF (L.set k v) k=v:=by simp [rwF,List.getD,hk]
   rw [this]
   exact hv
  ·have:L.set k v=L:=List.set_eq_of_length_le (by omega)
   rw [this]
   exact h k hj
 ·have:rwF (L.set k v) j=rwF L j:=by simp [rwF,List.getD,e]
  rw [this]
  exact h j hj
theorem lK{n:Nat}:iI P s pl (rwF (List.replicate n (-1))):=by
 intro j _
 refine Or.inl ?_
 by_cases h:j<n
 ·simp [rwF,List.getD,h]
 ·simp [rwF,List.getD,h]
end
end
structure MAt(w:World)(b o p room:Nat)(L:List Int):Prop where
 hb:w.heap[b]?=some (.cells #[.slice (some ⟨o,0,none⟩) L.length room,.slice (some ⟨p,0,none⟩) room room] 79 (0,0))
 ho:∃ cur,w.heap[o]?=some (.cells cur 3 (0,0))/\cur.size=room/\cur.toList.take L.length=bO L
 hp:∃ pl:List Int,w.heap[p]?=some (.cells (bO pl).toArray 3 (0,0))/\pl.length=room/\∀ (i:Nat) (x:Int),L[i]?=some x->0<=x/\pl[x.toNat]?=some (i:Int)
 hne:o≠p
 hr:room<=100000
theorem MAt.ltb{w:World}{b o p room:Nat}{L:List Int}(h:MAt w b o p room L):b<w.heap.size:=aC h.hb
theorem MAt.lto{w:World}{b o p room:Nat}{L:List Int}(h:MAt w b o p room L):o<w.heap.size:=by obtain⟨_,h,_⟩:=h.ho;exact aC h
theorem MAt.ltp{w:World}{b o p room:Nat}{L:List Int}(h:MAt w b o p room L):p<w.heap.size:=by obtain⟨_,h,_⟩:=h.hp;exact aC h
theorem MAt.bo{w:World}{b o p room:Nat}{L:List Int}(h:MAt w b o p room L):b≠o:=fun e=>by
 obtain⟨_,h2,_⟩:=h.ho
 rw [<- e,h.hb] at h2
 injection h2 with h2
 injection h2 with _ h2 _
 exact absurd h2 (by decide)
theorem MAt.bp{w:World}{b o p room:Nat}{L:List Int}(h:MAt w b o p room L):b≠p:=fun e=>by
 obtain⟨_,h2,_⟩:=h.hp
 rw [<- e,h.hb] at h2
 injection h2 with h2
 injection h2 with _ h2 _
 exact absurd h2 (by decide)
theorem MAt.same{w w':World}{b o p room:Nat}{L:List Int}(h:MAt w b o p room L)(e1:w'.heap[b]?=w.heap[b]?)(e2:w'.heap[o]?=w.heap[o]?)(e3:w'.heap[p]?=w.heap[p]?):MAt w' b o p room L:=
 ⟨e1.trans h.hb,by rw [e2];exact h.ho,by rw [e3];exact h.hp,h.hne,h.hr⟩
theorem MAt.below{w w':World}{b o p room n:Nat}{L:List Int}(h:MAt w b o p room L)(hb:Below n w w')(h1:b<n)(h2:o<n)(h3:p<n):MAt w' b o p room L:=
 h.same (hb.block _ h1) (hb.block _ h2) (hb.block _ h3)
theorem MAt.kept{w w':World}{b o p room:Nat}{L:List Int}(h:MAt w b o p room L)(hb:wBl w w'):MAt w' b o p room L:=h.below hb h.ltb h.lto h.ltp
theorem MAt.fr{S:Nat->Prop}{w w':World}{b o p room:Nat}{L:List Int}(h:MAt w b o p room L)(hf:Fr S w w')(h1:¬ S b)(h2:¬ S o)(h3:¬ S p):MAt w' b o p room L:=
 h.same (hf.block _ h.ltb h1) (hf.block _ h.lto h2) (hf.block _ h.ltp h3)
theorem MAt.len{w:World}{b o p room:Nat}{L:List Int}(h:MAt w b o p room L):L.length<=room:=by
 obtain⟨cur,_,h2,h3⟩:=h.ho
 have:=congrArg List.length h3
 simp [cY,h2] at this
 omega
theorem MAt.inr{w:World}{b o p room:Nat}{L:List Int}(h:MAt w b o p room L){x:Int}(hx:x∈L):0<=x/\x<room:=by
 obtain⟨pl,_,h2,h3⟩:=h.hp
 obtain⟨i,hi⟩:=List.getElem?_of_mem hx
 obtain⟨h0,h4⟩:=h3 i x hi
 have:=(f7.1 h4).1
 omega
theorem MAt.nodup{w:World}{b o p room:Nat}{L:List Int}(h:MAt w b o p room L):L.Nodup:=by
 obtain⟨pl,_,_,h3⟩:=h.hp
 rw [List.nodup_iff_pairwise_ne,List.pairwise_iff_getElem]
 intro i j hi hj hij e
 have q1:=(h3 i _ (j4 hi)).2
 have q2:=(h3 j _ (j4 hj)).2
 rw [e,q2] at q1
 have:=Option.some.inj q1
 omega
theorem MAt.cellb0{w:World}{b o p room:Nat}{L:List Int}(h:MAt w b o p room L):w.cell? ⟨b,0,none⟩=some (.slice (some ⟨o,0,none⟩) L.length room):=by simp [World.cell?,h.hb]
theorem MAt.cellb1{w:World}{b o p room:Nat}{L:List Int}(h:MAt w b o p room L):w.cell? ⟨b,1,none⟩=some (.slice (some ⟨p,0,none⟩) room room):=by simp [World.cell?,h.hb]
theorem MAt.frb{w:World}{b o p room:Nat}{L:List Int}(h:MAt w b o p room L)(j:Nat):w.frozen? ⟨b,j,none⟩=false:=by simp [World.frozen?,h.hb]
theorem MAt.cello{w:World}{b o p room:Nat}{L:List Int}(h:MAt w b o p room L){i:Nat}{x:Int}(hx:L[i]?=some x):w.cell? ⟨o,i,none⟩=some (.int .i64 x):=by
 obtain⟨cur,h1,h2,h3⟩:=h.ho
 have hi:i<L.length:=(f7.1 hx).1
 have e:=dJ hx
 rw [<- h3,List.getElem?_take_of_lt hi] at e
 have:cur[i]?=some (.int .i64 x):=by simpa using e
 simp [World.cell?,h1,this]
theorem pig:∀ (r:Nat) (l:List Nat),l.Nodup->(∀ x∈l,x<r)->l.length<=r
 | 0,l,_,h=>by
  cases l with
  | nil=>simp
  | cons x l=>exact absurd (h x (by simp)) (by omega)
 | r+1,l,hn,h=>by
  by_cases hr:r∈l
  ·have h1:=pig r (l.erase r) (hn.erase r) (fun x hx=>by
    have h2:=(hn.mem_erase_iff).1 hx
    have:=h x h2.2
    omega)
   rw [List.length_erase_of_mem hr] at h1
   omega
  ·have:=pig r l hn (fun x hx=>by
    have h1:=h x hx
    have:x≠r:=fun e=>hr (e ▸ hx)
    omega)
   omega
theorem MAt.room{w:World}{b o p room:Nat}{L:List Int}(h:MAt w b o p room L){n:Int}(h0:0<=n)(h1:n<room)(hn:n ∉ L):L.length<room:=by
 have hnd:(n :: L).Nodup:=List.nodup_cons.2 ⟨hn,h.nodup⟩
 have:=pig room ((n :: L).map Int.toNat) ?_ ?_
 ·simp at this;omega
 ·rw [List.nodup_iff_pairwise_ne,List.pairwise_map]
  refine List.Pairwise.imp_of_mem ?_ (List.nodup_iff_pairwise_ne.1 hnd)
  intro a c ha hc hac e
  have q:∀ y∈n :: L,0<=y:=fun y hy=>by
   rcases o4.1 hy with rfl | hy
   ·exact h0
   ·exact(h.inr hy).1
  have:=q a ha
  have:=q c hc
  omega
 ·intro x hx
  obtain⟨y,hy,rfl⟩:=List.mem_map.1 hx
  rcases o4.1 hy with rfl | hy
  ·omega
  ·have:=h.inr hy
   omega
def cG(b o p:Nat)(k:Nat):Prop:=k=b\/k=o\/k=p
def pU(room:Nat)(L:List Int)(n:Int):Bool:=decide (0<=n/\n<room/\n ∉ L)
def dE(room:Nat)(L:List Int)(n:Int):List Int:=if 0<=n/\n<room/\n ∉ L then L++[n] else L
def atV(L:List Int)(k:Int):Int:=if 0<=k/\k<L.length then L[k.toNat]?.getD 0 else 0
def atB(L:List Int)(k:Int):Bool:=decide (0<=k/\k<L.length)
theorem eJ{w:World}{b o p room:Nat}{L:List Int}(h:MAt w b o p room L) :
  Calls Try.prog 48 #[.pointer (some ⟨b,0,none⟩)] w fun e w'=>e=.returned (.int .i64 room)/\w'=w:=by
 have c1:=h.cellb1
 clear h
 go_enter Try.func48,Try.ntmps48
 go_wp2
 go_ret
 exact⟨rfl,rfl⟩
theorem dC{w:World}{b o p room:Nat}{L:List Int}(h:MAt w b o p room L) :
  Calls Try.prog 28 #[.pointer (some ⟨b,0,none⟩)] w fun e w'=>e=.returned (.int .i64 L.length)/\w'=w:=by
 have c1:=h.cellb0
 clear h
 go_enter Try.func28,Try.ntmps28
 go_wp2
 go_ret
 exact⟨rfl,rfl⟩
theorem sG{w:World}{b o p room:Nat}{L:List Int}(h:MAt w b o p room L)(k:Int) :
  Calls Try.prog 29 #[.pointer (some ⟨b,0,none⟩),.int .i64 k] w fun e w'=>e=.returned (.tuple #[.int .i64 (atV L k),.bool (atB L k)])/\w'=w:=by
 have H:Hid (MAt w b o p room L):=h
 have c0:=h.cellb0
 clear h
 by_cases h0:k<0
 ·go_enter Try.func29,Try.ntmps29
  go_wp2
  go_ret2
  exact⟨by rw [show atV L k=0 from if_neg (by omega),show atB L k=false from j5 (by omega)];rfl,rfl⟩
 ·by_cases h1:(L.length:Int)<=k
  ·go_enter Try.func29,Try.ntmps29
   go_wp2_with (go_at_call 28;refine(dC H.o).mono ?_;rintro e w1 ⟨rfl,rfl⟩)
   go_ret2
   exact⟨by rw [show atV L k=0 from if_neg (by omega),show atB L k=false from j5 (by omega)];rfl,rfl⟩
  ·obtain⟨n,rfl⟩:∃ n:Nat,k=n:=⟨k.toNat,by omega⟩
   have hn:n<L.length:=by omega
   have i0:(0:Int)<=(n:Int):=by omega
   have i1:(n:Int)<(L.length:Int):=by omega
   have c1:=H.o.cello (j4 hn)
   have HV:Hid (atV L n=L[n]):=(show atV L n=L[n] by unfold atV;rw [if_pos ⟨i0,i1⟩];simp [hn])
   have HB:Hid (atB L n=true):=j6 ⟨i0,i1⟩
   have hl:=H.o.len
   have hr:=H.o.hr
   go_enter Try.func29,Try.ntmps29
   go_wp2_with (go_at_call 28;refine(dC H.o).mono ?_;rintro e w1 ⟨rfl,rfl⟩)
   go_ret2
   exact⟨by rw [HV.o,HB.o];rfl,rfl⟩
theorem MAt.place{w:World}{b o p room:Nat}{L:List Int}(h:MAt w b o p room L){n:Nat}(hn:n<room) :
  ∃ q:Int,w.cell? ⟨p,n,none⟩=some (.int .i64 q)/\(atB L q&&(atV L q==(n:Int)))=decide ((n:Int)∈L):=by
 obtain⟨pl,h1,h2,h3⟩:=h.hp
 have hl:n<pl.length:=by omega
 refine⟨pl[n],?_,?_⟩
 ·have e:=dJ (j4 hl)
  simp [World.cell?,h1,e]
 ·by_cases hm:(n:Int)∈L
  ·obtain⟨i,hi⟩:=List.getElem?_of_mem hm
   have hil:i<L.length:=(f7.1 hi).1
   have h4:=(h3 i _ hi).2
   rw [k4,j4 hl] at h4
   rw [Option.some.inj h4,j6 hm]
   have hb:atB L i=true:=j6 ⟨by omega,by omega⟩
   have hv:atV L i=n:=by unfold atV;rw [if_pos ⟨by omega,by omega⟩];simp [hi]
   rw [hb,hv];simp
  ·rw [j5 hm]
   by_cases hq:0<=pl[n]/\pl[n]<L.length
   ·have hb:atB L pl[n]=true:=j6 hq
    rw [hb]
    have hv:atV L pl[n]≠n:=fun e=>by
     unfold atV at e
     rw [if_pos hq] at e
     have hlt:pl[n].toNat<L.length:=by omega
     rw [j4 hlt] at e
     simp at e
     exact hm (e ▸ List.getElem_mem hlt)
    simp [hv]
   ·have hb:atB L pl[n]=false:=j5 hq
    rw [hb];rfl
theorem sM{w:World}{b o p room:Nat}{L:List Int}(h:MAt w b o p room L)(n:Int) :
  Calls Try.prog 49 #[.pointer (some ⟨b,0,none⟩),.int .i64 n] w fun e w'=>e=.returned (.bool (decide (n∈L)))/\w'=w:=by
 have H:Hid (MAt w b o p room L):=h
 have c1:=h.cellb1
 clear h
 by_cases h0:n<0
 ·have HN:Hid (decide (n∈L)=false):=j5 (fun q=>by have:=H.o.inr q;omega)
  go_enter Try.func49,Try.ntmps49
  go_wp2
  go_ret
  exact⟨by rw [HN.o];rfl,rfl⟩
 ·by_cases h1:(room:Int)<=n
  ·have HN:Hid (decide (n∈L)=false):=j5 (fun q=>by have:=H.o.inr q;omega)
   go_enter Try.func49,Try.ntmps49
   go_wp2_with (go_at_call 48;refine(eJ H.o).mono ?_;rintro e w1 ⟨rfl,rfl⟩)
   go_ret
   exact⟨by rw [HN.o];rfl,rfl⟩
  ·obtain⟨m,rfl⟩:∃ m:Nat,n=m:=⟨n.toNat,by omega⟩
   have hm:m<room:=by omega
   have i0:(0:Int)<=(m:Int):=by omega
   have i1:(m:Int)<(room:Int):=by omega
   obtain⟨q,cq,hq⟩:=H.o.place hm
   have HQ:Hid _:=hq
   clear hq
   have hr:=H.o.hr
   go_enter Try.func49,Try.ntmps49
   go_wp2_with first |(go_at_call 48;refine(eJ H.o).mono ?_;rintro e w1 ⟨rfl,rfl⟩) |(go_at_call 29;refine(sG H.o q).mono ?_;rintro e w1 ⟨rfl,rfl⟩)
   all_goals go_ret
   all_goals
    refine⟨?_,rfl⟩
    first
    |(have hh:atB L q=true:=(by assumption);rw [<- HQ.o,hh,Bool.true_and];rfl)
    |(have hh:atB L q=false:=Bool.eq_false_iff.2 (by assumption);rw [<- HQ.o,hh,Bool.false_and];rfl)
section
attribute [local go_sem] bI
theorem MAt.put{w:World}{b o p room:Nat}{L:List Int}(h:MAt w b o p room L){n:Nat}(hn:n<room)(hm:(n:Int) ∉ L)(ob:Obj) :
  MAt ((((w.setCell ⟨p,n,none⟩ (.int .i64 L.length)).alloc ob).setCell ⟨o,L.length,none⟩ (.int .i64 n)).setCell ⟨b,0,none⟩ (.slice (some ⟨o,0,none⟩) (L.length+1) room)) b o p room (L++[(n:Int)]):=by
 obtain⟨cur,hc,h2,h3⟩:=h.ho
 obtain⟨pl,q1,q2,q3⟩:=h.hp
 have hroom:=h.room (n:=n) (by omega) (by omega) hm
 have hbo:=h.bo
 have hbp:=h.bp
 have hop:=h.hne
 have lb:=h.ltb
 have lo:=h.lto
 have lp:=h.ltp
 refine⟨?_,⟨cur.setIfInBounds L.length (.int .i64 n),?_,by simp [h2],?_⟩,⟨pl.set n L.length,?_,by simp [q2],?_⟩,hop,h.hr⟩
 ·have e1:(((w.setCell ⟨p,n,none⟩ (.int .i64 L.length)).alloc ob).setCell ⟨o,L.length,none⟩ (.int .i64 n)).heap[b]?=w.heap[b]?:=by
   rw [Below.heap_setCell _ _ _ _ hbo,Below.heap_alloc _ _ _ (by simpa [World.setCell] using lb),Below.heap_setCell _ _ _ _ hbp]
  have:=aG (e1.trans h.hb) 0 (.slice (some ⟨o,0,none⟩) (L.length+1) room)
  rw [this]
  simp
 ·rw [Below.heap_setCell _ _ _ _ (Ne.symm hbo)]
  refine aG ?_ _ _
  rw [Below.heap_alloc _ _ _ (by simpa [World.setCell] using lo),Below.heap_setCell _ _ _ _ hop]
  exact hc
 ·have hl:L.length<cur.toList.length:=by simp;omega
  rw [Array.toList_setIfInBounds,List.length_append,List.length_singleton,List.take_set,List.take_add_one,h3,hH]
  rw [j4 hl,Option.toList_some,List.set_append_right _ _ (by rw [cY];omega),cY]
  simp [bO]
 ·rw [Below.heap_setCell _ _ _ _ (Ne.symm hbp),Below.heap_setCell _ _ _ _ (Ne.symm hop),Below.heap_alloc _ _ _ (by simpa [World.setCell] using lp)]
  rw [aG q1]
  simp [bO]
 ·intro i x hx
  by_cases hi:i<L.length
  ·rw [l4 hi] at hx
   obtain⟨g1,g2⟩:=q3 i x hx
   refine⟨g1,?_⟩
   have hne:n≠x.toNat:=fun e=>hm (by
    have:(n:Int)=x:=by omega
    rw [this]
    exact j8 hx)
   rw [List.getElem?_set_ne hne]
   exact g2
  ·have hl:=(f7.1 hx).1
   simp at hl
   obtain rfl:i=L.length:=by omega
   simp at hx
   subst hx
   refine⟨by omega,?_⟩
   rw [k4,List.getElem?_set_self (by omega)]
theorem MAt.spare{w:World}{b o p room:Nat}{L:List Int}(h:MAt w b o p room L)(hl:L.length<room):(∃ u,w.cell? ⟨o,L.length,none⟩=some u)/\w.frozen? ⟨o,L.length,none⟩=false:=by
 obtain⟨cur,hc,h2,h3⟩:=h.ho
 exact⟨⟨cur[L.length]'(by omega),by simp [World.cell?,hc,h2,hl]⟩,by simp [World.frozen?,hc]⟩
theorem dW{w:World}{b o p room:Nat}{L:List Int}(h:MAt w b o p room L)(n:Int) :
  Calls Try.prog 39 #[.pointer (some ⟨b,0,none⟩),.int .i64 n] w fun e w'=>e=.returned (.bool (pU room L n))/\MAt w' b o p room (dE room L n)/\Fr (cG b o p) w w':=by
 have H:Hid (MAt w b o p room L):=h
 have c0:=h.cellb0
 have c1:=h.cellb1
 clear h
 by_cases h0:n<0
 ·have HN:Hid (pU room L n=false/\dE room L n=L):=⟨j5 (by omega),if_neg (by omega)⟩
  go_enter Try.func39,Try.ntmps39
  go_wp2
  go_ret
  exact⟨by rw [HN.o.1];rfl,by rw [HN.o.2];exact H.o,Fr.refl _ _⟩
 ·by_cases h1:(room:Int)<=n
  ·have HN:Hid (pU room L n=false/\dE room L n=L):=⟨j5 (by omega),if_neg (by omega)⟩
   go_enter Try.func39,Try.ntmps39
   go_wp2_with (go_at_call 48;refine(eJ H.o).mono ?_;rintro e w1 ⟨rfl,rfl⟩)
   go_ret
   exact⟨by rw [HN.o.1];rfl,by rw [HN.o.2];exact H.o,Fr.refl _ _⟩
  ·obtain⟨m,rfl⟩:∃ m:Nat,n=m:=⟨n.toNat,by omega⟩
   have hm:m<room:=by omega
   by_cases hin:(m:Int)∈L
   ·have HN:Hid (pU room L m=false/\dE room L m=L):=⟨j5 (fun q=>q.2.2 hin),if_neg (fun q=>q.2.2 hin)⟩
    have hd:decide ((m:Int)∈L)=true:=j6 hin
    clear hin
    go_enter Try.func39,Try.ntmps39
    go_wp2_with first |(go_at_call 48;refine(eJ H.o).mono ?_;rintro e w1 ⟨rfl,rfl⟩) |(go_at_call 49;refine(sM H.o m).mono ?_;rw [hd];rintro e w1 ⟨rfl,rfl⟩)
    go_ret
    exact⟨by rw [HN.o.1];rfl,by rw [HN.o.2];exact H.o,Fr.refl _ _⟩
   ·have HN:Hid (pU room L m=true/\dE room L m=L++[(m:Int)]):=⟨j6 ⟨by omega,by omega,hin⟩,if_pos ⟨by omega,by omega,hin⟩⟩
    have HI:Hid ((m:Int) ∉ L):=hin
    have hd:decide ((m:Int)∈L)=false:=j5 hin
    clear hin
    have i0:(0:Int)<=(m:Int):=by omega
    have i1:(m:Int)<(room:Int):=by omega
    have hrm:=H.o.room (n:=m) (by omega) (by omega) HI.o
    have hr:=H.o.hr
    obtain⟨q,cq,_⟩:=H.o.place hm
    have fq:w.frozen? ⟨p,m,none⟩=false:=by obtain⟨pl,e,_⟩:=H.o.hp;simp [World.frozen?,e]
    go_enter Try.func39,Try.ntmps39
    go_wp2_with first |(go_at_call 48;refine(eJ H.o).mono ?_;rintro e w1 ⟨rfl,rfl⟩) |(go_at_call 49;refine(sM H.o m).mono ?_;rw [hd];rintro e w1 ⟨rfl,rfl⟩)
    have lb:=H.o.ltb
    refine dD (List.cons_ne_nil _ _) (by kernel_rfl) (by kernel_rfl) (by kernel_rfl) ?_
    dsimp only [List.dropLast,List.getLast]
    repeat (go_big_quiet_step (first | exact rfl))
    refine wpQuiet_nil ?_
    intro w2 hw
    have hb2:=bS hw
    clear hw
    have H2:Hid (MAt w2 b o p room L):=H.o.kept hb2
    have F2:Hid (Fr (cG b o p) w1 w2):=Fr.of_below hb2
    have d0:=H2.o.cellb0
    have fb:=H2.o.frb 0
    have cq2:=(hb2.cell (p:=⟨p,m,none⟩) H.o.ltp).trans cq
    have fq2:=(hb2.frozen (p:=⟨p,m,none⟩) H.o.ltp).trans fq
    have hbp:=H2.o.bp
    have hbo:=H2.o.bo
    have hop:=H2.o.hne
    clear hb2 c0 c1 cq fq
    obtain⟨⟨u,cu⟩,fu⟩:=H2.o.spare hrm
    have hx:((w2.setCell ⟨p,m,none⟩ (.int .i64 L.length)).alloc (.cells #[.int .i64 m] 3)).heap[o]?=w2.heap[o]?:=by
     rw [Below.heap_alloc _ _ _ (by simpa [World.setCell] using H2.o.lto),Below.heap_setCell _ _ _ _ hop]
    have cx:=(World.cell?_of_block (a:=⟨o,L.length,none⟩) hx).trans cu
    have fx:=(World.frozen?_of_block (a:=⟨o,L.length,none⟩) hx).trans fu
    have hy:((w2.setCell ⟨p,m,none⟩ (.int .i64 L.length)).alloc (.cells #[.int .i64 m] 3)).heap[b]?=w2.heap[b]?:=by
     rw [Below.heap_alloc _ _ _ (by simpa [World.setCell] using H2.o.ltb),Below.heap_setCell _ _ _ _ hbp]
    have cy:=(World.cell?_of_block (a:=⟨b,0,none⟩) hy).trans d0
    have fy:=(World.frozen?_of_block (a:=⟨b,0,none⟩) hy).trans fb
    clear hx hy
    go_wp2
    go_ret
    refine⟨by rw [HN.o.1];rfl,by rw [HN.o.2];exact H2.o.put hm HI.o _,?_⟩
    exact(((F2.o.setCell (.inr (.inr rfl)) _).alloc _).setCell (.inr (.inl rfl)) _).setCell (.inl rfl) _
theorem MAt.made{w:World}{b o p room:Nat}(hr:room<=100000)(hb:w.heap[b]?=some (.cells #[.slice (some ⟨o,0,none⟩) 0 room,.slice (some ⟨p,0,none⟩) room room] 79 (0,0)))
  (ho:w.heap[o]?=some (.cells (madeCells #[.int .i64 0] room) 3 (0,0))) (hp:w.heap[p]?=some (.cells (madeCells #[.int .i64 0] room) 3 (0,0))) (hne:o≠p):MAt w b o p room []:=by
 refine⟨hb,⟨_,ho,size_madeCells _ _,by simp [bO]⟩,⟨List.replicate room 0,?_,by simp,fun i x hx=>by simp at hx⟩,hne,hr⟩
 rw [hp]
 congr 2
 apply Array.ext (by simp [size_madeCells,bO])
 intro i h1 h2
 simp [madeCells,bO,Nat.mod_one]
theorem dP(c:Nat)(n:Nat)(hn:n<=c)(h:c<=1000000)(w:World) :
  (Instr.makeSlice 32 (.int .i64 (n:Int)) (.int .i64 (c:Int))).run Try.prog w=.ok (.slice (some ⟨w.heap.size,0,none⟩) n c) (w.alloc (.cells (madeCells #[.int .i64 0] c) 3)):=by
 obtain⟨i0,hi,hz0,hz1,hz2⟩:=info_parts eI
 have:=run_make (P:=Try.prog) w 32 3 i0 (.int .i64 0) gH hi hz0 .i64 .i64 (n:Int) (c:Int) (by omega) (by omega) (by rw [hz2];omega) (by omega)
 rw [hz1] at this
 simpa [Value.cells] using this
theorem oW(c:Nat)(h:c<=1000000)(w:World) :
  (Instr.makeSlice 32 (.int .i64 0) (.int .i64 (c:Int))).run Try.prog w=.ok (.slice (some ⟨w.heap.size,0,none⟩) 0 c) (w.alloc (.cells (madeCells #[.int .i64 0] c) 3)):=by
 simpa using dP c 0 (o7 _) h w
theorem eQ(w:World)(x y z:Obj):(((w.alloc x).alloc y).alloc z).drew.heap[w.heap.size]?=some x/\(((w.alloc x).alloc y).alloc z).drew.heap[w.heap.size+1]?=some y/\(((w.alloc x).alloc y).alloc z).drew.heap[w.heap.size+1+1]?=some z:=by
 have e1:(w.alloc x).heap.size=w.heap.size+1:=by simp
 have e2:((w.alloc x).alloc y).heap.size=w.heap.size+1+1:=by simp
 refine⟨?_,?_,?_⟩
 ·show (((w.alloc x).alloc y).alloc z).heap[w.heap.size]?=some x
  rw [Below.heap_alloc _ _ _ (by omega),Below.heap_alloc _ _ _ (by omega)]
  exact World.alloc_heap_new w x
 ·show (((w.alloc x).alloc y).alloc z).heap[w.heap.size+1]?=some y
  rw [Below.heap_alloc _ _ _ (by omega),<- e1]
  exact World.alloc_heap_new _ y
 ·show (((w.alloc x).alloc y).alloc z).heap[w.heap.size+1+1]?=some z
  rw [<- e2]
  exact World.alloc_heap_new _ z
theorem dX(w:World)(x y z:Obj):wBl w (((w.alloc x).alloc y).alloc z).drew:=
 (((bz9).alloc (by simp) _).alloc (by simp;omega) _).drew
structure uV(n b o p:Nat):Prop where
 b:n<=b
 o:n<=o
 p:n<=p
theorem uL(room:Nat)(hr:room<=100000)(w:World) :
  Calls Try.prog 38 #[.int .i64 room] w fun e w'=>∃ b o p,e=.returned (.tuple #[.pointer (some ⟨b,0,none⟩),.int .i64 0])/\MAt w' b o p room []/\uV w.heap.size b o p/\wBl w w':=by
 have m0:=oW room (by omega)
 have m1:=dP room room lz9 (by omega)
 have h0:(0:Int)<=(room:Int):=by omega
 have h1:(room:Int)<=100000:=by omega
 go_enter Try.func38,Try.ntmps38
 go_wp2
 go_region
 all_goals go_wp2
 all_goals go_ret2
 ·obtain⟨e1,e2,e3⟩:=eQ w (.cells (madeCells #[.int .i64 0] room) 3) (.cells (madeCells #[.int .i64 0] room) 3) (.cells #[.slice (some ⟨w.heap.size,0,none⟩) 0 room,.slice (some ⟨w.heap.size+1,0,none⟩) room room] 79)
  exact⟨_,_,_,rfl,MAt.made hr e3 e1 e2 (by omega),⟨by omega,by omega,by omega⟩,dX _ _ _ _⟩
 ·obtain⟨e1,e2,e3⟩:=eQ w (.cells (madeCells #[.int .i64 0] room) 3) (.cells (madeCells #[.int .i64 0] room) 3) (.cells #[.slice (some ⟨w.heap.size+1,0,none⟩) 0 room,.slice (some ⟨w.heap.size,0,none⟩) room room] 79)
  exact⟨_,_,_,rfl,MAt.made hr e3 e2 e1 (by omega),⟨by omega,by omega,by omega⟩,dX _ _ _ _⟩
end
section
attribute [local go_sem] Oper.semAt_some bI
structure Pg where
 q:Option Addr
 L:List Ins
 c:Nat
 g:Int
 k:Int
 f:Bool
structure PgI(w:World)(p:Pg):Prop where
 len:p.L.length<=9223372036854775807
 li:LI w p.q p.L
theorem PgI.kept{w w':World}{p:Pg}(h:PgI w p)(hb:wBl w w'):PgI w' p:=⟨h.len,h.li.kept hb⟩
def bU(i:Ins):Bool:=i.op==8||i.op==9||i.op==10
theorem sE(i:Ins)(w:World):Calls Try.prog 37 #[.agg #[.int .i64 i.op,.int .i64 i.x,.int .i64 i.y,.int .i64 i.n,.int .i64 i.mn,.int .i64 i.mx,.int .u64 (aB i.s 0),.int .u64 (aB i.s 1),.int .u64 (aB i.s 2),.int .u64 (aB i.s 3)]] w fun e w'=>e=.returned (.bool (bU i))/\wBl w w':=by
 have B1:Hid (wBl w (w.alloc (.cells #[.int .i64 i.op,.int .i64 i.x,.int .i64 i.y,.int .i64 i.n,.int .i64 i.mn,.int .i64 i.mx,.int .u64 (aB i.s 0),.int .u64 (aB i.s 1),.int .u64 (aB i.s 2),.int .u64 (aB i.s 3)] 47))):=bz9
 have c0:(w.alloc (.cells #[.int .i64 i.op,.int .i64 i.x,.int .i64 i.y,.int .i64 i.n,.int .i64 i.mn,.int .i64 i.mx,.int .u64 (aB i.s 0),.int .u64 (aB i.s 1),.int .u64 (aB i.s 2),.int .u64 (aB i.s 3)] 47)).cell? ⟨w.heap.size,0,none⟩=some (.int .i64 i.op):=aA (aE w (.cells #[.int .i64 i.op,.int .i64 i.x,.int .i64 i.y,.int .i64 i.n,.int .i64 i.mn,.int .i64 i.mx,.int .u64 (aB i.s 0),.int .u64 (aB i.s 1),.int .u64 (aB i.s 2),.int .u64 (aB i.s 3)] 47)) (i:=0) rfl
 obtain⟨r,hr⟩:∃ r,bU i=r:=⟨_,rfl⟩
 rw [hr]
 have R:Hid ((i.op==8||i.op==9||i.op==10)=r):=hr
 clear hr
 go_enter Try.func37,Try.ntmps37
 go_upto_region 1 with fail
 generalize (w.alloc (.cells #[.int .i64 i.op,.int .i64 i.x,.int .i64 i.y,.int .i64 i.n,.int .i64 i.mn,.int .i64 i.mx,.int .u64 (aB i.s 0),.int .u64 (aB i.s 1),.int .u64 (aB i.s 2),.int .u64 (aB i.s 3)] 47))=w1 at B1 c0 ⊢
 obtain⟨o,ho⟩:∃ o,i.op=o:=⟨_,rfl⟩
 rw [ho] at c0 R ⊢
 clear ho
 by_cases h8:o=8
 ·subst h8
  go_wp2
  go_ret
  exact⟨by rw [<- R.o];rfl,B1.o⟩
 ·by_cases h9:o=9
  ·subst h9
   go_wp2
   go_ret
   exact⟨by rw [<- R.o];rfl,B1.o⟩
  ·go_wp2
   go_ret
   exact⟨by rw [<- R.o];rfl,B1.o⟩
structure IxI(i:Int)(b:Bool):Prop where
 h:0<=i↔b=true
theorem qF{w:World}{L:List Ins}{q:Option Addr}{c:Nat}(hm:L.length<=9223372036854775807)(hx:LI w q L) :
  Calls Try.prog 47 #[.slice q L.length c,.func (.func 37) #[] #[]] w fun e w'=>∃ i:Int,e=.returned (.int .i64 i)/\IxI i (L.any bU)/\wBl w w':=by
 have H1:=aD hx
 clear hx
 go_enter Try.func47,Try.ntmps47
 go_wp2
 go_loopw [8] (fun i wr=>∃ j:Nat,j<=L.length/\i=.int .i64 (j:Int)/\(L.take j).any bU=false/\wBl w wr) (fun i _=>L.length-(intOf i).toNat)
 case atStart=>exact⟨0,o7 _,rfl,rfl,Below.refl _ _⟩
 case round=>
  obtain⟨j,hj,rfl,hpre,hbel⟩:=hrel
  have HP:=aD hpre
  have HB:=aD hbel
  clear hpre hbel
  by_cases hjl:j<L.length
  ·have i0:(j:Int)<(L.length:Int):=by omega
   obtain⟨a9,hga⟩:∃ a,L[j]?=some a:=⟨_,j4 hjl⟩
   obtain⟨g1,o1,hq1,hl1,c0,c1,c2,c3,c4,c5,c6,c7,c8,c9⟩:=(H1.o.kept HB.o).ten hga
   have GA:=aD hga
   have HC:=aD (sE a9 wr)
   obtain⟨sb,hsb⟩:∃ sb,bU a9=sb:=⟨_,rfl⟩
   have HSB:=aD hsb
   rw [hsb] at HC
   rw [hq1]
   clear hga hsb
   cases sb with
   | true=>
    have HN:Hid (IxI (j:Int) (L.any bU)):=⟨⟨fun _=>List.any_eq_true.2 ⟨a9,j8 GA.o,HSB.o⟩,fun _=>by omega⟩⟩
    go_wp2_with (go_at_call 37;(with_reducible refine(HC.o).mono ?_);rintro e w5 ⟨rfl,h5⟩;have B5:Hid (wBl w w5):=aF HB.o h5 lz9;clear h5)
    go_ret
    exact⟨_,rfl,HN.o,B5.o⟩
   | false=>
    have HN:=aD (show (L.take (j+1)).any bU=false by rw [List.take_add_one,GA.o,List.any_append,HP.o];simpa using HSB.o)
    go_wp2_with (go_at_call 37;(with_reducible refine(HC.o).mono ?_);rintro e w5 ⟨rfl,h5⟩;have B5:Hid (wBl w w5):=aF HB.o h5 lz9;clear h5)
    go_roundw
    case rel=>exact⟨j+1,by omega,by go_num,HN.o,B5.o⟩
    case measure=>simp only [intOf];omega
  ·have i0:¬ (j:Int)<(L.length:Int):=by omega
   have HN:Hid (IxI (-1) (L.any bU)):=by
    have:=HP.o
    rw [List.take_of_length_le (by omega)] at this
    refine⟨⟨fun h=>by omega,fun h=>?_⟩⟩
    rw [this] at h
    cases h
   go_wp2
   go_ret
   exact⟨_,rfl,HN.o,HB.o⟩
theorem iH{w:World}{L:List Ins}{q:Option Addr}{c:Nat}(hm:L.length<=9223372036854775807)(hx:LI w q L) :
  Calls Try.prog 36 #[.slice q L.length c,.func (.func 37) #[] #[]] w fun e w'=>e=.returned (.bool (L.any bU))/\wBl w w':=by
 have HI:=aD (qF (c:=c) hm hx)
 obtain⟨r,hr⟩:∃ r,L.any bU=r:=⟨_,rfl⟩
 rw [hr] at HI ⊢
 clear hr hx
 go_enter Try.func36,Try.ntmps36
 go_wp2_with (go_at_call 47;(with_reducible refine(HI.o).mono ?_);rintro e w5 ⟨ix,rfl,h51,h52⟩;have X5:=aD h51;have B5:=aD h52;clear h51 h52)
 go_ret
 refine⟨?_,B5.o⟩
 have:=X5.o.h
 cases r <;> simp_all
def cB(p:Pg):Bool:=!p.L.any bU
theorem tM{w:World}{p:Pg}(h:PgI w p):Calls Try.prog 24 #[.agg #[.slice p.q p.L.length p.c,.int .i64 p.g,.int .i64 p.k,.bool p.f]] w fun e w'=>e=.returned (.bool (cB p))/\wBl w w':=by
 have B1:Hid (wBl w (w.alloc (.cells #[.slice p.q p.L.length p.c,.int .i64 p.g,.int .i64 p.k,.bool p.f] 24))):=bz9
 have c0:(w.alloc (.cells #[.slice p.q p.L.length p.c,.int .i64 p.g,.int .i64 p.k,.bool p.f] 24)).cell? ⟨w.heap.size,0,none⟩=some (.slice p.q p.L.length p.c):=aA (aE w (.cells #[.slice p.q p.L.length p.c,.int .i64 p.g,.int .i64 p.k,.bool p.f] 24)) (i:=0) rfl
 have HC:=aD (iH (c:=p.c) h.len (h.li.kept B1.o))
 unfold cB
 obtain⟨r,hr⟩:∃ r,p.L.any bU=r:=⟨_,rfl⟩
 rw [hr] at HC ⊢
 clear hr h
 go_enter Try.func24,Try.ntmps24
 go_wp2_with (go_at_call 36;(with_reducible refine(HC.o).mono ?_);rintro e w5 ⟨rfl,h52⟩;have B5:=aD (aF B1.o h52 lz9);clear h52)
 go_ret
 exact⟨rfl,B5.o⟩
end
section
attribute [local go_sem] Oper.semAt_some
structure Cr4 where
 mb:Nat
 mo:Nat
 mp:Nat
 gb:Nat
structure CrB(w:World)(C:Cr4)(room:Nat)(X l:List Int):Prop where
 m:MAt w C.mb C.mo C.mp room X
 g:w.heap[C.gb]?=some (.cells (bO l).toArray 3 (0,0))
 len:l.length=room
 no:C.gb≠C.mo/\C.gb≠C.mp
def aK(C:Cr4)(k:Nat):Prop:=cG C.mb C.mo C.mp k\/k=C.gb
theorem CrB.lt{w:World}{C:Cr4}{room:Nat}{X l:List Int}(h:CrB w C room X l):∀ k,aK C k->k<w.heap.size:=fun k hk=>by
 rcases hk with (rfl | rfl | rfl) | rfl
 ·exact h.m.ltb
 ·exact h.m.lto
 ·exact h.m.ltp
 ·exact aC h.g
theorem CrB.fr{S:Nat->Prop}{w w':World}{C:Cr4}{room:Nat}{X l:List Int}(h:CrB w C room X l)(hf:Fr S w w')(hn:∀ k,aK C k->¬ S k):CrB w' C room X l:=
 ⟨h.m.fr hf (hn _ (.inl (.inl rfl))) (hn _ (.inl (.inr (.inl rfl)))) (hn _ (.inl (.inr (.inr rfl)))),(hf.block _ (aC h.g) (hn _ (.inr rfl))).trans h.g,h.len,h.no⟩
theorem CrB.kept{w w':World}{C:Cr4}{room:Nat}{X l:List Int}(h:CrB w C room X l)(hb:wBl w w'):CrB w' C room X l:=h.fr (Fr.of_below (S:=fun _=>False) hb) (fun _ _ q=>q)
theorem CrB.bg{w:World}{C:Cr4}{room:Nat}{X l:List Int}(h:CrB w C room X l):C.mb≠C.gb:=fun e=>by
 have h1:=h.m.hb
 rw [e,h.g] at h1
 injection h1 with h1
 injection h1 with _ h1 _
 exact absurd h1 (by decide)
theorem MAt.clear{w:World}{b o p room:Nat}{L:List Int}(h:MAt w b o p room L):MAt (w.setCell ⟨b,0,none⟩ (.slice (some ⟨o,0,none⟩) 0 room)) b o p room []:=by
 have hbo:=h.bo
 have hbp:=h.bp
 obtain⟨cur,hc,h2,h3⟩:=h.ho
 obtain⟨pl,q1,q2,q3⟩:=h.hp
 refine⟨?_,⟨cur,?_,h2,by simp [bO]⟩,⟨pl,?_,q2,fun i x hx=>by simp at hx⟩,h.hne,h.hr⟩
 ·rw [aG h.hb];simp
 ·rw [Below.heap_setCell _ _ _ _ (Ne.symm hbo)];exact hc
 ·rw [Below.heap_setCell _ _ _ _ (Ne.symm hbp)];exact q1
theorem lC{w:World}{b o p room:Nat}{L:List Int}(h:MAt w b o p room L) :
  Calls Try.prog 26 #[.pointer (some ⟨b,0,none⟩)] w fun e w'=>e=.returned (.tuple #[])/\MAt w' b o p room []/\Fr (cG b o p) w w':=by
 have H:Hid (MAt w b o p room L):=h
 have c0:=h.cellb0
 have fb:=h.frb 0
 clear h
 go_enter Try.func26,Try.ntmps26
 go_wp2
 go_end0
 exact⟨rfl,H.o.clear,(Fr.refl _ _).setCell (.inl rfl) _⟩
theorem CrB.clear{w w':World}{C:Cr4}{room:Nat}{X l:List Int}(h:CrB w C room X l)(hm:MAt w' C.mb C.mo C.mp room [])(hf:Fr (cG C.mb C.mo C.mp) w w'):CrB w' C room [] l:=
 ⟨hm,(hf.block _ (aC h.g) (fun q=>by
  rcases q with q | q | q
  ·exact h.bg q.symm
  ·exact h.no.1 q
  ·exact h.no.2 q)).trans h.g,h.len,h.no⟩
abbrev crV(C:Cr4)(room:Nat):Value:=.agg #[.pointer (some ⟨C.mb,0,none⟩),.slice (some ⟨C.gb,0,none⟩) room room]
theorem oX(c:Nat):madeCells #[.int .i64 0] c=(bO (List.replicate c 0)).toArray:=by
 apply Array.ext (by simp [size_madeCells,bO])
 intro i h1 h2
 simp [madeCells,bO,Nat.mod_one]
theorem eO(room:Nat)(hr:room<=40000)(w:World):Calls Try.prog 25 #[.int .i64 (room:Int)] w fun e w'=>∃ C l,e=.returned (crV C room)/\CrB w' C room [] l/\(∀ k,aK C k->w.heap.size<=k)/\wBl w w':=by
 have m1:=dP room room lz9 (by omega)
 have B1:Hid (wBl w (w.alloc (.cells #[.pointer none,.slice none 0 0] 54))):=bz9
 have X1:Hid ((w.alloc (.cells #[.pointer none,.slice none 0 0] 54)).heap[w.heap.size]?=some (.cells #[.pointer none,.slice none 0 0] 54 (0,0))):=aE w _
 go_enter Try.func25,Try.ntmps25
 go_upto_region 1 with fail
 generalize (w.alloc (.cells #[.pointer none,.slice none 0 0] 54))=w1 at B1 X1 ⊢
 have l1:=aC X1.o
 go_upto_region 2 with (go_at_call 38;(with_reducible refine(uL room (by omega) _).mono ?_);rintro e w3 ⟨mb,mo,mp,rfl,h1,h2,h3⟩;have M3:=aD h1;have N3:=aD h2;have B3:=aD (aF B1.o h3 lz9);have X3:=aD ((h3.block _ l1).trans X1.o);clear h1 h2 h3)
 have l3:=aC X3.o
 have g0:=aA X3.o (i:=0) rfl
 have g1:=aA X3.o (i:=1) rfl
 have f0:=aH X3.o 0
 have f1:=aH X3.o 1
 go_wp2
 clear g0 g1 f0 f1
 have hz:=aG (aG X3.o 0 (.pointer (some ⟨mb,0,none⟩))) 1 (.slice (some ⟨w3.heap.size,0,none⟩) room room)
 have FZ:Fr (fun k=>k=w.heap.size) w3 ((w3.setCell ⟨w.heap.size,0,none⟩ (.pointer (some ⟨mb,0,none⟩))).setCell ⟨w.heap.size,1,none⟩ (.slice (some ⟨w3.heap.size,0,none⟩) room room)):=((Fr.refl (fun k=>k=w.heap.size) _).setCell (p:=⟨w.heap.size,0,none⟩) rfl _).setCell (p:=⟨w.heap.size,1,none⟩) rfl _
 have BZ:wBl w ((w3.setCell ⟨w.heap.size,0,none⟩ (.pointer (some ⟨mb,0,none⟩))).setCell ⟨w.heap.size,1,none⟩ (.slice (some ⟨w3.heap.size,0,none⟩) room room)):=(B3.o.setCell (p:=⟨w.heap.size,0,none⟩) lz9 _).setCell (p:=⟨w.heap.size,1,none⟩) lz9 _
 have sV:((w3.setCell ⟨w.heap.size,0,none⟩ (.pointer (some ⟨mb,0,none⟩))).setCell ⟨w.heap.size,1,none⟩ (.slice (some ⟨w3.heap.size,0,none⟩) room room)).heap.size=w3.heap.size:=by simp [World.setCell]
 generalize ((w3.setCell ⟨w.heap.size,0,none⟩ (.pointer (some ⟨mb,0,none⟩))).setCell ⟨w.heap.size,1,none⟩ (.slice (some ⟨w3.heap.size,0,none⟩) room room))=V at hz FZ BZ sV ⊢
 have bA:wBl V (V.alloc (.cells (madeCells #[.int .i64 0] room) 3)):=bz9
 have M5:MAt V mb mo mp room []:=M3.o.fr FZ (fun q=>by have:=N3.o.b;have q:mb=_:=q;omega) (fun q=>by have:=N3.o.o;have q:mo=_:=q;omega) (fun q=>by have:=N3.o.p;have q:mp=_:=q;omega)
 have G4:(V.alloc (.cells (madeCells #[.int .i64 0] room) 3)).heap[w3.heap.size]?=some (.cells (bO (List.replicate room 0)).toArray 3 (0,0)):=by rw [<- oX,<- sV];exact aE V _
 have hy:=(bA.block _ (aC hz)).trans hz
 have k0:=aA hy (i:=0) rfl
 have k1:=aA hy (i:=1) rfl
 refine bodyPost_ret (v:=crV ⟨mb,mo,mp,w3.heap.size⟩ room) (by simp [results,Try.results25,go_sem,k0,k1]) rfl ?_
 refine⟨⟨mb,mo,mp,w3.heap.size⟩,List.replicate room 0,rfl,⟨M5.kept bA,G4,by simp,by have:=M3.o.lto;show w3.heap.size≠mo;omega,by have:=M3.o.ltp;show w3.heap.size≠mp;omega⟩,fun k hk=>?_,aF BZ bA lz9⟩
 rcases hk with (hk | hk | hk) | hk
 ·have:=N3.o.b;have:k=mb:=hk;omega
 ·have:=N3.o.o;have:k=mo:=hk;omega
 ·have:=N3.o.p;have:k=mp:=hk;omega
 ·have:k=w3.heap.size:=hk
  omega
end
section
attribute [local go_sem] Oper.semAt_some
def cW(w:World)(rb:Nat)(p:Pg)(s:ByteArray)(A B:Cr4)(st:Int):Prop:=w.heap[rb]?=some (.cells #[.slice p.q p.L.length p.c,.string s,.pointer (some ⟨A.mb,0,none⟩),.slice (some ⟨A.gb,0,none⟩) p.L.length p.L.length,.pointer (some ⟨B.mb,0,none⟩),.slice (some ⟨B.gb,0,none⟩) p.L.length p.L.length,.int .i64 st] 56 (0,0))
structure tS(p:Pg)(s:ByteArray)(base:Nat)(w':World)(rb:Nat)(A B:Cr4)(la lb:List Int):Prop where
 r:cW w' rb p s A B 0
 a:CrB w' A p.L.length [] la
 b:CrB w' B p.L.length [] lb
 na:∀ k,aK A k->base<=k
 nb:∀ k,aK B k->base<=k
 ab:∀ k,aK A k->¬ aK B k
 nr:base<=rb/\¬ aK A rb/\¬ aK B rb
theorem rB{p:Pg}{s:ByteArray}{base n:Nat}{w2 w3:World}{A B:Cr4}{la lb:List Int}(h2:CrB w2 A p.L.length [] la)(n2:∀ k,aK A k->n<=k)(hb:wBl w2 w3)(h3:CrB w3 B p.L.length [] lb)(n3:∀ k,aK B k->w2.heap.size<=k)(b1:base<=n)(b2:base<=w2.heap.size) :
  tS p s base (w3.alloc (.cells #[.slice p.q p.L.length p.c,.string s,.pointer (some ⟨A.mb,0,none⟩),.slice (some ⟨A.gb,0,none⟩) p.L.length p.L.length,.pointer (some ⟨B.mb,0,none⟩),.slice (some ⟨B.gb,0,none⟩) p.L.length p.L.length,.int .i64 0] 56)) w3.heap.size A B la lb:=by
 have bA:wBl w3 (w3.alloc (.cells #[.slice p.q p.L.length p.c,.string s,.pointer (some ⟨A.mb,0,none⟩),.slice (some ⟨A.gb,0,none⟩) p.L.length p.L.length,.pointer (some ⟨B.mb,0,none⟩),.slice (some ⟨B.gb,0,none⟩) p.L.length p.L.length,.int .i64 0] 56)):=bz9
 have hs:=hb.size
 refine⟨aE w3 _,(h2.kept hb).kept bA,h3.kept bA,fun k hk=>by have:=n2 k hk;omega,fun k hk=>by have:=n3 k hk;omega,fun k h4 h5=>?_,by omega,fun q=>?_,fun q=>?_⟩
 ·have:=h2.lt k h4
  have:=n3 k h5
  omega
 ·have:=h2.lt _ q
  omega
 ·have:=h3.lt _ q
  omega
theorem eN{w:World}{p:Pg}(hl:p.L.length<=40000)(s:ByteArray):Calls Try.prog 16 #[.agg #[.slice p.q p.L.length p.c,.int .i64 p.g,.int .i64 p.k,.bool p.f],.string s] w fun e w'=>∃ rb A B la lb,e=.returned (.pointer (some ⟨rb,0,none⟩))/\tS p s w.heap.size w' rb A B la lb/\wBl w w':=by
 have B1:Hid (wBl w (w.alloc (.cells #[.slice p.q p.L.length p.c,.int .i64 p.g,.int .i64 p.k,.bool p.f] 24))):=bz9
 have X1:Hid ((w.alloc (.cells #[.slice p.q p.L.length p.c,.int .i64 p.g,.int .i64 p.k,.bool p.f] 24)).heap[w.heap.size]?=some (.cells #[.slice p.q p.L.length p.c,.int .i64 p.g,.int .i64 p.k,.bool p.f] 24 (0,0))):=aE w _
 go_enter Try.func16,Try.ntmps16
 go_upto_region 1 with fail
 generalize (w.alloc (.cells #[.slice p.q p.L.length p.c,.int .i64 p.g,.int .i64 p.k,.bool p.f] 24))=w1 at B1 X1 ⊢
 have D1:Hid (wBl w w1.drew):=aD B1.o.drew
 have Y1:Hid (w1.drew.heap[w.heap.size]?=some (.cells #[.slice p.q p.L.length p.c,.int .i64 p.g,.int .i64 p.k,.bool p.f] 24 (0,0))):=X1.o
 have HS:Hid (w1.drew.cell? ⟨w.heap.size,0,none⟩=some (.slice p.q p.L.length p.c)):=aA Y1.o (i:=0) rfl
 have l1:=aC Y1.o
 refine wp_region_held_drew (S:=fun w'=>w'.cell? ⟨w.heap.size,0,none⟩=some (.slice p.q p.L.length p.c)) (by kernel_rfl) HS.o ?_
 intro hS0
 refine wpAnyH_take (i:=0) (oi:=_) (v:=?_) rfl (by kernel_rfl) (by kernel_rfl) (by kernel_rfl) (fun _ _ _ h=>h) (Or.inl ⟨by rfl,?_⟩) (by assumption) ?_
 rotate_left
 ·intro wz hSw
  have hs0:wz.cell? ⟨w.heap.size,0,none⟩=some (.slice p.q p.L.length p.c):=hSw
  go_simp
  try with_reducible rfl
 dsimp only [Act.put,i8,g7,g9]
 simp only [f9,i9,j3]
 refine wpAnyH_take (i:=1) (oi:=_) (v:=?_) rfl (by kernel_rfl) (by kernel_rfl) (by kernel_rfl) (fun _ _ _ h=>h) (Or.inl ⟨by rfl,?_⟩) (by assumption) ?_
 rotate_left
 ·intro wz hSw
  have hs0:wz.cell? ⟨w.heap.size,0,none⟩=some (.slice p.q p.L.length p.c):=hSw
  go_simp
  try with_reducible rfl
 dsimp only [Act.put,i8,g7,g9]
 simp only [f9,i9,j3]
 refine wpAnyH_take (i:=2) (oi:=_) (v:=?_) rfl (by kernel_rfl) (by kernel_rfl) (by kernel_rfl) (fun _ _ _ h=>h) (Or.inl ⟨by rfl,?_⟩) (by assumption) ?_
 rotate_left
 ·intro wz hSw
  have hs0:wz.cell? ⟨w.heap.size,0,none⟩=some (.slice p.q p.L.length p.c):=hSw
  go_simp
  try with_reducible rfl
 dsimp only [Act.put,i8,g7,g9]
 simp only [f9,i9,j3]
 refine wpAnyH_take (i:=3) (oi:=_) (v:=?_) rfl (by kernel_rfl) (by kernel_rfl) (by kernel_rfl) (fun _ _ _ h=>h) (Or.inl ⟨by rfl,?_⟩) (by assumption) ?_
 rotate_left
 ·intro wz hSw
  have hs0:wz.cell? ⟨w.heap.size,0,none⟩=some (.slice p.q p.L.length p.c):=hSw
  go_simp
  try with_reducible rfl
 dsimp only [Act.put,i8,g7,g9]
 simp only [f9,i9,j3]
 refine wpAnyH_take (i:=4) (oi:=_) (v:=?_) rfl (by kernel_rfl) (by kernel_rfl) (by kernel_rfl) (fun _ _ _ h=>h) (Or.inl ⟨by rfl,?_⟩) (by assumption) ?_
 rotate_left
 ·intro wz hSw
  have hs0:wz.cell? ⟨w.heap.size,0,none⟩=some (.slice p.q p.L.length p.c):=hSw
  go_simp
  try with_reducible rfl
 dsimp only [Act.put,i8,g7,g9]
 simp only [f9,i9,j3]
 refine wpAnyH_take (i:=5) (oi:=_) (v:=?_) rfl (by kernel_rfl) (by kernel_rfl) (by kernel_rfl) (fun _ _ _ h=>h) (Or.inl ⟨by rfl,?_⟩) (by assumption) ?_
 rotate_left
 ·intro wz hSw
  have hs0:wz.cell? ⟨w.heap.size,0,none⟩=some (.slice p.q p.L.length p.c):=hSw
  go_simp
  try with_reducible rfl
 dsimp only [Act.put,i8,g7,g9]
 simp only [f9,i9,j3]
 refine wpAnyH_take (i:=7) (oi:=_) (v:=?_) rfl (by kernel_rfl) (by kernel_rfl) (by kernel_rfl) (fun _ _ _ h=>h) (Or.inl ⟨by rfl,?_⟩) (by assumption) ?_
 rotate_left
 ·intro wz hSw
  have hs0:wz.cell? ⟨w.heap.size,0,none⟩=some (.slice p.q p.L.length p.c):=hSw
  go_simp
  try with_reducible rfl
 dsimp only [Act.put,i8,g7,g9]
 simp only [f9,i9,j3]
 refine wpAnyH_take (i:=8) (oi:=_) (v:=?_) rfl (by kernel_rfl) (by kernel_rfl) (by kernel_rfl) (fun _ _ _ h=>h) (Or.inl ⟨by rfl,?_⟩) (by assumption) ?_
 rotate_left
 ·intro wz hSw
  have hs0:wz.cell? ⟨w.heap.size,0,none⟩=some (.slice p.q p.L.length p.c):=hSw
  go_simp
  try with_reducible rfl
 dsimp only [Act.put,i8,g7,g9]
 simp only [f9,i9,j3]
 refine wpAnyH_take (i:=9) (oi:=_) (v:=?_) rfl (by kernel_rfl) (by kernel_rfl) (by kernel_rfl) (fun _ _ _ h=>h) (Or.inl ⟨by rfl,?_⟩) (by assumption) ?_
 rotate_left
 ·intro wz hSw
  have hs0:wz.cell? ⟨w.heap.size,0,none⟩=some (.slice p.q p.L.length p.c):=hSw
  go_simp
  try with_reducible rfl
 dsimp only [Act.put,i8,g7,g9]
 simp only [f9,i9,j3]
 refine wpAnyH_ready (rs:=[6]) (by kernel_rfl) (by simp) ?_
 refine AllReadyH.cons rfl (fun K hK=>?_) AllReadyH.nil
 go_simp
 go_at_call 25
 refine(eO p.L.length hl _).mono ?_
 rintro e w2 ⟨CA,la,rfl,h1,h2,h3⟩
 have C2:=aD h1
 have N2:=aD h2
 have B2:=aD (aF D1.o h3 lz9)
 have X2:=aD ((h3.block _ l1).trans Y1.o)
 clear h1 h2 h3
 refine hK.out _ _ (aA X2.o (i:=0) rfl) (fun hS1=>?_)
 clear hK K
 refine wpAnyH_ready (rs:=[10]) (by kernel_rfl) (by simp) ?_
 refine AllReadyH.cons rfl (fun K hK=>?_) AllReadyH.nil
 go_simp
 go_at_call 25
 refine(eO p.L.length hl _).mono ?_
 rintro e w3 ⟨CB,lb,rfl,h1,h2,h3⟩
 have C3:=aD h1
 have N3:=aD h2
 have K3:=aD h3
 have B3:=aD (aF B2.o h3 lz9)
 have X3:=aD ((h3.block _ (aC X2.o)).trans X2.o)
 clear h1 h2 h3
 refine hK.out _ _ (aA X3.o (i:=0) rfl) (fun hS2=>?_)
 clear hK K
 refine wpAnyH_ready (rs:=[11]) (by kernel_rfl) (by simp) ?_
 refine AllReadyH.cons rfl (fun K hK=>?_) AllReadyH.nil
 go_simp
 refine hK.out _ _ (aA X3.o (i:=0) rfl) (fun hS3=>?_)
 clear hK K
 refine wpAnyH_ready (rs:=[12]) (by kernel_rfl) (by simp) ?_
 refine AllReadyH.cons rfl (fun K hK=>?_) AllReadyH.nil
 go_simp
 have RP:=aD (rB (p:=p) (s:=s) (base:=w.heap.size) C2.o N2.o K3.o C3.o N3.o D1.o.size B2.o.size)
 have BA:wBl w3 (w3.alloc (.cells #[.slice p.q p.L.length p.c,.string s,.pointer (some ⟨CA.mb,0,none⟩),.slice (some ⟨CA.gb,0,none⟩) p.L.length p.L.length,.pointer (some ⟨CB.mb,0,none⟩),.slice (some ⟨CB.gb,0,none⟩) p.L.length p.L.length,.int .i64 0] 56)):=bz9
 have BZ:=aD (aF B3.o BA lz9)
 have X4:=aD ((BA.block _ (aC X3.o)).trans X3.o)
 refine hK.out _ _ (aA X4.o (i:=0) rfl) (fun hS4=>?_)
 clear hK K
 refine wpAnyH_ready (rs:=[13]) (by kernel_rfl) (by simp) ?_
 refine AllReadyH.cons rfl (fun K hK=>?_) AllReadyH.nil
 go_simp
 refine hK.out _ _ (aA X4.o (i:=0) rfl) (fun hS5=>?_)
 clear hK K
 refine wpAnyH_done (by kernel_rfl) ?_ _
 go_wp2
 go_ret
 exact⟨_,_,_,_,_,rfl,RP.o,BZ.o⟩
end
end Go.Proofs.Ytliflleaeimngaa
