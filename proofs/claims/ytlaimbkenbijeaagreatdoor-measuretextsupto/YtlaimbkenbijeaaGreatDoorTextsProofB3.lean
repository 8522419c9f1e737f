/-
  Parts of the proof.
-/
import Derived.Test.YtlaimbkenbijeaaGreatDoorTextsProofA0
import Derived.Test.YtlaimbkenbijeaaGreatDoorTextsProofB2
import Derived.WalkKit
import Derived.ProofKit
import Derived.OpenShut
import Derived.Stop.Joined
import Derived.ChangeOld
import Derived.ChangeSlices
import Derived.Carry
import Derived.Maps.AppendAt
import Derived.OwnWalk
import Derived.Deep.RegionLaw
import Derived.Deep.RegionWith
import Derived.Deep.DeepCutAuto
import Derived.Laws.OwnMore
import Derived.RangeFuncNested
import Derived.RangeFuncBound
import Derived.RangeFuncCalls
import Derived.RangeFuncLeaves
import Derived.RangeFuncBox
import Derived.Shelf.Abstract
import Derived.Shelf.RegionOpen
import Derived.OwnWalkIn
import Derived.TacticsInMore
import Derived.LoopNIn
import Derived.LoopIn
import Derived.Maps.Views
import Derived.Maps.OwnOps
namespace Go.Proofs.YtlaimbkenbijeaaGreatDoor
open Go Go.RowKit
section
def gH(l:List Oper)(o:Oper):Bool:=
 (l.zipIdx.all fun x=>x.1.after.all (fun e=>decide (e.on < x.2)) && (match x.1.guard with | none=>true | some g=>decide (g.1 < l.length))) &&
 o.guard.isNone && o.after.all (fun e=>decide (e.on < l.length)) && (List.range l.length).all fun j=>o.after.any fun e=>Region.binds .any e && e.on==j
section
variable {P:Program} {l:List Oper} {o:Oper} {Q:Exit->Act->World->Prop}
def Q1(P:Program)(l:List Oper)(o:Oper)(Q:Exit->Act->World->Prop):Exit->Act->World->Prop
 | .normal,a,w=>wpList P (l ++ [o]).toArray Q [o] a w
 | e,a,w=>Q e a w
theorem aE2{j:Nat}(h:j < l.length):(l ++ [o]).toArray[j]?=l.toArray[j]?:=by
 simp [List.getElem?_append_left h]
theorem sO:(l ++ [o]).toArray[l.length]?=some o:=by simp
theorem kU(h:gH l o=true){j:Nat}{x:Oper}(hx:l.toArray[j]?=some x):(∀ e∈x.after,e.on < j)/\∀ g b,x.guard=some (g,b)->g < l.length:=by
 unfold gH at h
 simp only [aAT,List.all_eq_true] at h
 have hm:(x,j)∈l.zipIdx:=by
  rw [List.mem_zipIdx_iff_getElem?];simpa using hx
 have:=h.1.1.1 (x,j) hm
 refine⟨fun e he=>?_,fun g b hg=>?_⟩
 ·have h1:=this.1
  rw [aAZ] at h1
  simpa using h1 e he
 ·have h2:=this.2
  simp only [hg] at h2
  simpa using h2
theorem zD(h:gH l o=true):o.guard=none:=by
 unfold gH at h
 simp only [aAT] at h
 simpa using h.1.1.2
theorem aW2(h:gH l o=true):∀ e∈o.after,e.on < l.length:=by
 unfold gH at h
 simp only [aAT] at h
 have h1:=h.1.2
 rw [aAZ] at h1
 intro e he
 simpa using h1 e he
theorem aO7(h:gH l o=true){j:Nat}(hj:j < l.length):∃ e∈o.after,Region.binds .any e=true/\e.on=j:=by
 unfold gH at h
 simp only [aAT,List.all_eq_true] at h
 have:=h.2 j (by simpa using hj)
 rw [<- Array.any_toList,List.any_eq_true] at this
 obtain⟨e,he,hb⟩:=this
 simp at hb
 exact⟨e,by simpa using he,hb.1,hb.2⟩
theorem iI{listed:Array Bool}{j:Nat}(d:Bool)(hj:j < listed.size):(listed.push false).getD j d=listed.getD j d:=by
 simp [Array.getD_eq_getD_getElem?,Array.getElem?_push,Nat.ne_of_lt hj]
theorem wQ{listed:Array Bool}(d:Bool):(listed.push false).getD listed.size d=false:=by
 simp [Array.getD_eq_getD_getElem?]
theorem sK(h:gH l o=true){listed:Array Bool}(hs:listed.size=l.length){j:Nat}(hj:j < l.length) :
  j∈Region.ready .any (l ++ [o]).toArray (listed.push false) ↔ j∈Region.ready .any l.toArray listed:=by
 rw [mem_ready,mem_ready,aE2 hj,iI _ (by omega)]
 refine and_congr_right fun _=>exists_congr fun x=>and_congr_right fun hx=>?_
 have he:=(kU h hx).1
 refine forall_congr' fun e=>forall_congr' fun hm=>forall_congr' fun _=>?_
 have:=he e hm
 rw [iI _ (by omega)]
theorem tD(h:gH l o=true){listed:Array Bool}(hs:listed.size=l.length)(hr:Region.ready .any l.toArray listed=[]) :
  ∀ j,j < l.length->listed.getD j false=true:=by
 intro j
 induction j using Nat.strongRecOn with
 | _ j ih=>
  intro hj
  have hx:l.toArray[j]?=some l[j]:=by simp [hj]
  have hn:¬ j∈Region.ready .any l.toArray listed:=by rw [hr];simp
  rw [mem_ready] at hn
  have hge:listed.getD j true=true:=by
   rcases hb:listed.getD j true with _ | _
   ·exact absurd ⟨hb,_,hx,fun e he _=>ih e.on ((kU h hx).1 e he) (by have:=(kU h hx).1 e he;omega)⟩ hn
   ·rfl
  have hlt:j < listed.size:=by omega
  simpa [Array.getD_eq_getD_getElem?,hlt] using hge
theorem sP(h:gH l o=true){listed:Array Bool}(hs:listed.size=l.length)(hr:Region.ready .any l.toArray listed=[]) :
  l.length∈Region.ready .any (l ++ [o]).toArray (listed.push false):=by
 rw [mem_ready]
 refine⟨by rw [<- hs];exact wQ _,o,sO,fun e he _=>?_⟩
 have:=aW2 h e he
 rw [iI _ (by omega)]
 exact tD h hs hr _ this
theorem tX(h:gH l o=true){listed:Array Bool}(hs:listed.size=l.length)
  (hl:l.length∈Region.ready .any (l ++ [o]).toArray (listed.push false)):Region.ready .any l.toArray listed=[]:=by
 rw [mem_ready] at hl
 obtain⟨_,x,hx,ha⟩:=hl
 rw [sO] at hx
 cases hx
 rw [aBU]
 intro j hj
 rw [mem_ready] at hj
 obtain⟨hu,x,hx,_⟩:=hj
 have hlt:j < l.length:=by
  have:=(aAA.1 hx).1
  simpa using this
 obtain⟨e,he,hb,rfl⟩:=aO7 h hlt
 have:=ha e he hb
 rw [iI _ (by omega)] at this
 have hlt':e.on < listed.size:=by omega
 simp [Array.getD_eq_getD_getElem?,hlt'] at this hu
 rw [this] at hu
 cases hu
theorem uV(h:gH l o=true){listed:Array Bool}(hs:listed.size=l.length)(hr:Region.ready .any l.toArray listed=[]) :
  Region.ready .any (l ++ [o]).toArray ((listed.push false).setIfInBounds l.length true)=[]:=by
 rw [aBU]
 intro j hj
 rw [mem_ready] at hj
 obtain⟨hu,x,hx,_⟩:=hj
 have hlt:j < l.length+1:=by
  have:=(aAA.1 hx).1
  simpa using this
 by_cases e:j=l.length
 ·subst e
  simp [Array.getD_eq_getD_getElem?,hs] at hu
 ·have hj':j < l.length:=by omega
  have:=tD h hs hr j hj'
  have hlt':j < listed.size:=by omega
  have hne:¬ l.length=j:=fun h=>e h.symm
  simp [Array.getD_eq_getD_getElem?,hne,Array.getElem?_push,Nat.ne_of_lt hlt',hlt'] at this hu
  rw [this] at hu
  cases hu
theorem aM4(h:gH l o=true){j:Nat}{x:Oper}(hx:l.toArray[j]?=some x)(tmps:Array Value) :
  Region.wanted x (yielded (l ++ [o]).toArray tmps)=Region.wanted x (yielded l.toArray tmps):=by
 unfold Region.wanted
 cases hg:x.guard with
 | none=>rfl
 | some g=>
  obtain⟨g,b⟩:=g
  have:=(kU h hx).2 g b hg
  simp only [yielded,aE2 this]
theorem Oper.wp_q1{x:Oper}{a:Act}{w:World}{K K':Act->World->Prop}(hK:∀ a w,K a w->K' a w)(hh:x.wp P a w K (Q1 P l o Q)):x.wp P a w K' Q:=by
 unfold Oper.wp at *
 generalize (execOp a.eval x).run P w=r at *
 cases r with
 | ok n w'=>
  cases n <;> simp only [Oper.upon] at hh ⊢ <;>
   first
    | exact hK _ _ hh
    | exact Calls.mono hh (fun e w'' he=>by cases e <;> first | exact hK _ _ he | exact he)
    | exact Rows.mono hh (fun _ _ he=>hK _ _ he)
 | halt x w'=>cases x <;> simp only [Oper.upon] at hh ⊢ <;> exact hh
theorem bA4(h:gH l o=true){i:Nat}(hi:i < l.length){a:Act}{w:World}{K K':Act->World->Prop}(hK:∀ a w,K a w->K' a w)
  (hh:wpOp P l.toArray (Q1 P l o Q) i K a w):wpOp P (l ++ [o]).toArray Q i K' a w:=by
 unfold wpOp at *
 rw [aE2 hi]
 have hx:l.toArray[i]?=some l[i]:=by simp [hi]
 simp only [hx] at hh ⊢
 rw [aM4 h hx]
 split
 ·rename_i hw
  rw [if_pos hw] at hh
  exact hh.imp (Oper.wp_q1 hK) (fun g=>⟨g.1,g.2⟩)
 ·rename_i hw
  rw [if_neg hw] at hh
  exact hK _ _ hh
theorem uI(h:gH l o=true){a:Act}{w:World}{K:Act->World->Prop}(hK:∀ a w,Q .normal a w->K a w)(hh:Q1 P l o Q .normal a w) :
  wpOp P (l ++ [o]).toArray Q l.length K a w:=by
 unfold wpOp
 rw [sO]
 have hw:∀ y,Region.wanted o y=true:=fun y=>by unfold Region.wanted;rw [zD h]
 have hh':wpList P (l ++ [o]).toArray Q [o] a w:=hh
 unfold wpList at hh'
 rw [if_pos (hw _)] at hh'
 simp only [hw,if_true]
 exact hh'.imp (Oper.wp_mono hK) id
theorem aU7{listed:Array Bool}{i:Nat}(hi:i < listed.size):(listed.setIfInBounds i true).push false=(listed.push false).setIfInBounds i true:=by
 apply Array.ext'
 simp [List.set_append_left _ _ (show i < listed.toList.length by simpa using hi)]
theorem aC0(h:gH l o=true):∀ (fuel:Nat) (listed:Array Bool) (a:Act) (w:World),listed.size=l.length ->
  wpAny P .any l.toArray (Q1 P l o Q) fuel listed a w->wpAny P .any (l ++ [o]).toArray Q (fuel+1) (listed.push false) a w:=by
 intro fuel
 induction fuel with
 | zero=>
  rintro listed a w hs ⟨hr,hq⟩
  refine⟨fun h0=>?_,fun i hi=>?_⟩
  ·have:=sP h hs hr;rw [h0] at this;cases this
  ·by_cases e:i=l.length
   ·subst e;exact uI h (fun a w hq=>⟨uV h hs hr,hq⟩) hq
   ·have hlt:i < l.length:=by
     rw [mem_ready] at hi
     obtain⟨_,x,hx,_⟩:=hi
     have:=(aAA.1 hx).1
     simp at this;omega
    rw [sK h hs hlt,hr] at hi;cases hi
 | succ fuel ih=>
  rintro listed a w hs ⟨hq,hall⟩
  refine⟨fun h0=>?_,fun i hi=>?_⟩
  ·by_cases hr:Region.ready .any l.toArray listed=[]
   ·have:=sP h hs hr;rw [h0] at this;cases this
   ·obtain⟨j,hj⟩:=List.exists_mem_of_ne_nil _ hr
    have hlt:j < l.length:=by
     rw [mem_ready] at hj
     obtain⟨_,x,hx,_⟩:=hj
     have:=(aAA.1 hx).1
     simpa using this
    rw [<- sK h hs hlt,h0] at hj;cases hj
  ·by_cases e:i=l.length
   ·subst e
    have hr:=tX h hs hi
    exact uI h (fun a w hq=>⟨fun _=>hq,fun j hj=>by rw [uV h hs hr] at hj;cases hj⟩) (hq hr)
   ·have hlt:i < l.length:=by
     rw [mem_ready] at hi
     obtain⟨_,x,hx,_⟩:=hi
     have:=(aAA.1 hx).1
     simp at this;omega
    have hi':=(sK h hs hlt).1 hi
    refine bA4 h hlt (fun a' w' hw=>?_) (hall i hi')
    have:=ih (listed.setIfInBounds i true) a' w' (by simpa using hs) hw
    rwa [aU7 (by omega)] at this
theorem rR{id:Nat}{a:Act}{w:World}(hm:P.follows .mixedOrders=true)(hB:Region.lexB .any l.toArray=true)(hl:gH l o=true)
  (h:wpQuiet P l.toArray (fun w'=>∃ x:Ext w,w'=x.val) (fun a'=>∀ w',(∃ x:Ext w,w'=x.val)->wpList P (l ++ [o]).toArray Q [o] a' w') l a):(Code.region id (l ++ [o]).toArray true).wp P Q a w:=by
 simp only [Region.lexB,aAT] at hB
 refine wp_region_any hm ?_
 have h1:=wpAnyQ_lex (C:=fun w'=>∃ x:Ext w,w'=x.val) (md:=.any) hB.1 l 0 (Array.replicate l.length false) a (by simp) (by simpa using hB.2) h
 have h2:=wpAny_of_quiet (Q':=Q1 P l o Q) (fun _ w' hw' h=>h w' hw') _ _ _ { w with drawn:=w.drawn+1 } ⟨⟨w.drew,(Below.refl _ _).drew⟩,rfl⟩ h1
 have h3:=aC0 hl _ _ _ _ (by simp) h2
 have e:(Array.replicate l.length false).push false=Array.replicate (l ++ [o]).toArray.size false:=by simp [Array.replicate_succ]
 rw [e] at h3
 simpa using h3
end
theorem aW{P:Program}{Q:Exit->Act->World->Prop}{id:Nat}{a:Act}{w:World}{L:List Oper}(hne:L≠[])(hm:P.follows .mixedOrders=true)(hB:Region.lexB .any L.dropLast.toArray=true)(hl:gH L.dropLast (L.getLast hne)=true)
  (h:wpQuiet P L.dropLast.toArray (fun w'=>∃ x:Ext w,w'=x.val) (fun a'=>∀ w',(∃ x:Ext w,w'=x.val)->wpList P L.toArray Q [L.getLast hne] a' w') L.dropLast a):(Code.region id L.toArray true).wp P Q a w:=by
 have e:L.dropLast ++ [L.getLast hne]=L:=aBY hne
 have:=rR (P:=P) (Q:=Q) (id:=id) (a:=a) (w:=w) (l:=L.dropLast) (o:=L.getLast hne) hm hB hl (by rw [e];exact h)
 rwa [e] at this
end
section
open Go
def unr(P:Program)(c:Code)(Q:Exit->Act->World->Prop):Nat->Act->World->Prop
 | 0,_,_=>False
 | n+1,a,w=>c.wp P (Exit.then (unr P c Q n) Q) a w
theorem jT{P:Program}{c:Code}{Q:Exit->Act->World->Prop}{n:Nat}{a:Act}{w:World}
  (h:c.wp P (Exit.then (unr P c Q n) Q) a w):unr P c Q (n+1) a w:=h
theorem aW0{p:Nat->Prop}:∀ n,p n->∃ m,p m/\∀ k,p k->m<=k:=by
 intro n
 induction n using Nat.strongRecOn with
 | _ n ih=>
  intro h
  by_cases g:∃ k,k < n/\p k
  ·obtain⟨k,hk,hp⟩:=g
   exact ih k hk hp
  ·exact⟨n,h,fun k hk=>Nat.le_of_not_lt fun hlt=>g ⟨k,hlt,hk⟩⟩
open Classical in
noncomputable def oN (p:Nat->Prop):Nat:=if h:∃ m,p m/\∀ k,p k->m<=k then Classical.choose h else 0
theorem oM{p:Nat->Prop}{n:Nat}(h:p n):p (oN p)/\∀ k,p k->oN p<=k:=by
 have g:=aW0 n h
 unfold oN
 rw [dif_pos g]
 exact Classical.choose_spec g
theorem yB{P:Program}{c:Code}{Q:Exit->Act->World->Prop}(n:Nat){a:Act}{w:World}
  (h:unr P c Q n a w):(Code.loop c).wp P Q a w:=by
 refine wp_loop (fun a w=>∃ n,unr P c Q n a w) (fun a w=>oN fun n=>unr P c Q n a w) ⟨n,h⟩ ?_
 rintro a w ⟨n,hn⟩
 obtain⟨hs,-⟩:=oM (p:=fun n=>unr P c Q n a w) hn
 generalize oN (fun n=>unr P c Q n a w)=m at hs
 cases m with
 | zero=>exact hs.elim
 | succ m=>
  refine wp_mono (show c.wp P (Exit.then (unr P c Q m) Q) a w from hs) ?_
  intro e a' w' he
  cases e with
  | normal=>exact⟨⟨m,he⟩,Nat.lt_succ_of_le ((oM (p:=fun n=>unr P c Q n a' w') (n:=m) he).2 m he)⟩
  | exit id=>exact he
  | goto l=>exact he
  | ret=>exact he
  | panic ch=>exact he
  | outgrown=>exact he
end
section
open Go Go.ChangeShapes Go.WideShapes Go.ChangeAt Go.RowKit
theorem own:ownKnob Tryz.prog.godebug=none:=by kernel_rfl
theorem aJ5:laidOutB Tryz.prog=true:=by kernel_rfl
theorem kF:Tryz.prog.cellsOf 3=1:=by kernel_rfl
def ArgI(W:World)(v:Value)(zs:List Int):Prop:=
 (∃ p cap,v=.slice p 0 cap/\zs=[])\/∃ g off cap,v=.slice (some ⟨g,off,none⟩) zs.length cap/\g < W.heap.size/\zs.length<=cap/\cap<=maxLen/\∀ (i:Nat) (x:Int),zs[i]?=some x->W.cell? ⟨g,off+i,none⟩=some (.int .i64 x)
end
theorem yI:(Tryz.prog.info? 3).map (fun i=>(i.zero,i.size,i.bytes))=some (some (.int .i64 0),1,8):=by kernel_rfl
theorem yD:Tryz.prog.underlying 44=some (.slice 3):=by kernel_rfl
theorem bH{P:Program}{t:TypeId}{z:Value}{s b:Nat}(h:(P.info? t).map (fun i=>(i.zero,i.size,i.bytes))=some (some z,s,b)):∃ i,P.info? t=some i/\i.zero=some z/\i.size=s/\i.bytes=b:=by
 cases hi:P.info? t with
 | none=>rw [hi] at h;cases h
 | some i=>
  rw [hi] at h
  simp at h
  exact⟨i,rfl,h.1,h.2.1,h.2.2⟩
theorem aM{S:Nat->Prop}{w w':World}{base:Nat}{t:TypeId}{size n:Nat}{v:Value}{xs:List Value}(h:w.ownsRow base t size v n xs)(hf:Fr S w w')(hs:∀ k,v.ownBlock=some k->¬ S k):w'.ownsRow base t size v n xs:=by
 obtain⟨h1,h2 | ⟨g,cap,cur,q1,q2,q3,q4⟩⟩:=h
 ·exact⟨h1,.inl h2⟩
 ·exact⟨h1,.inr ⟨g,cap,cur,q1,q2,(hf.block _ (aB q3) (hs g (by rw [q1];rfl))).trans q3,q4⟩⟩
theorem gG{w:World}{base base':Nat}{t:TypeId}{size n:Nat}{v:Value}{xs:List Value}(h:w.ownsRow base t size v n xs)(hb:base'<=base):w.ownsRow base' t size v n xs:=by
 obtain⟨h1,h2 | ⟨g',cap',cur,q1,q2,q4⟩⟩:=h
 ·exact⟨h1,.inl h2⟩
 ·exact⟨h1,.inr ⟨g',cap',cur,q1,i8 hb q2,q4⟩⟩
theorem aZ{w:World}{base:Nat}{e:TypeId}{size n:Nat}{v:Value}{xs:List Value}(h:w.ownsRow base e size v n xs):∃ q c,v=.slice q n c:=by
 rcases h.2 with⟨rfl,rfl⟩ | ⟨g,cap,cur,rfl,_⟩
 ·exact⟨_,_,rfl⟩
 ·exact⟨_,_,rfl⟩
theorem aH{w:World}{base:Nat}{e:TypeId}{size n:Nat}{v:Value}{xs:List Value}(h:w.ownsRow base e size v n xs){g:Nat}(hg:v.ownBlock=some g):base<=g/\g < w.heap.size/\∃ cur,w.heap[g]?=some (.cells cur e (0,0)):=by
 rcases h.2 with⟨rfl,rfl⟩ | ⟨g',cap,cur,rfl,h1,h2,_⟩
 ·cases hg
 ·cases hg;exact⟨h1,aB h2,cur,h2⟩
theorem aP{w:World}{base:Nat}{e t:TypeId}{size n:Nat}{v:Value}{xs:List Value}(h:w.ownsRow base e size v n xs){b:Nat}{cs:Array Value}(hb:w.heap[b]?=some (.cells cs t (0,0)))(ht:t≠e):v.ownBlock≠some b:=fun q=>by
 obtain⟨_,_,cur,hc⟩:=aH h q
 exact bD8 hb hc ht rfl
theorem aU{w:World}{base:Nat}{e:TypeId}{size n g c:Nat}{xs:List Value}(h:w.ownsRow base e size (.slice (some ⟨g,0,none⟩) n c) n xs){j:Nat}{u:Value}(hj:xs[j]?=some u):w.cell? ⟨g,j,none⟩=some u:=by
 rcases h.2 with⟨q,_⟩ | ⟨g',cap,cur,q1,_,q3,_,_,q6,q7⟩
 ·cases q
 ·cases q1
  have:cur[j]?=some u:=by
   rw [<- q7,List.getElem?_take] at hj
   split at hj
   ·simpa using hj
   ·cases hj
  simp [World.cell?,q3,this]
theorem yT{w:World}{base:Nat}{e:TypeId}{size n:Nat}{v:Value}{xs:List Value}(h:w.ownsRow base e size v n xs):n<=maxLen:=by
 rcases h.2 with⟨_,q⟩ | ⟨g,cap,cur,q,_,_,hc,hm,_⟩
 ·omega
 ·omega
theorem aL{w:World}{base:Nat}{e:TypeId}{size n:Nat}{v:Value}{xs:List Value}(h:w.ownsRow base e size v n xs)(hn:0 < n):∃ g c,v=.slice (some ⟨g,0,none⟩) n c:=by
 rcases h.2 with⟨_,q⟩ | ⟨g,cap,cur,rfl,_⟩
 ·omega
 ·exact⟨_,_,rfl⟩
def moved(v v':Value)(n:Nat):Prop:=v'.ownBlock=v.ownBlock\/v'.ownBlock=none\/∃ g,n<=g/\v'.ownBlock=some g
theorem moved.refl(v:Value)(n:Nat):moved v v n:=.inl rfl
theorem moved.trans{v v' v'':Value}{n m:Nat}(h:moved v v' n)(k:moved v' v'' m)(hm:n<=m):moved v v'' n:=by
 rcases k with k | k | ⟨g,k1,k2⟩
 ·rcases h with h | h | ⟨g,h1,h2⟩
  ·exact .inl (k.trans h)
  ·exact .inr (.inl (k.trans h))
  ·exact .inr (.inr ⟨g,h1,k.trans h2⟩)
 ·exact .inr (.inl k)
 ·exact .inr (.inr ⟨g,by omega,k2⟩)
theorem oJ{v v':Value}{n k:Nat}(h:moved v v' n)(hk:k < n)(hv:v'.ownBlock=some k):v.ownBlock=some k:=by
 rcases h with h | h | ⟨g,h1,h2⟩
 ·exact h ▸ hv
 ·rw [h] at hv;cases hv
 ·rw [h2] at hv;cases hv;omega
theorem bF{P:Program}{ops:Array Oper}{o:Oper}{a:Act}{w:World}{K:Act->World->Prop}{Q:Exit->Act->World->Prop}{E:Prop}(hgd:o.guard=none)(s x:Operand)(t:TypeId)
  (ho:o.op=.call { callee:=.builtin .append,args:=#[s,x],argTypes:=#[t,t] })
  (base:Nat) (e:TypeId) (i:TypeInfo) (z:Value) (size bytes:Nat) (ht:P.underlying t=some (.slice e)) (hi:P.info? e=some i) (hz:i.zero=some z)
  (hsize:i.size=size) (hby:i.bytes=bytes) (hzs:z.cells.size=size) (hsz:0 < size)
  (v:Value) (n:Nat) (xs:List Value) (hs:a.eval s=v) (hown:w.ownsRow base e size v n xs)
  (ad:Addr) (m c:Nat) (news:List Value) (hx:a.eval x=.slice (some ad) m c) (hl:news.length=m * size) (hnews:∀ j u,news[j]?=some u->w.cell? (ad.add j)=some u) (h1:∀ u∈news,u.oneCell'=true)
  (h63:n+m<=maxLen) (hbytes:(n+m) * bytes<=140737488355328) (hbase:base<=w.heap.size)
  (h:∀ v' w',w'.ownsRow base e size v' (n+m) (xs ++ news)->w.grownBy w' v.ownBlock->(v'.ownBlock=v.ownBlock\/v'.ownBlock=some w.heap.size)->K (a.put o.dst v') w') :
  if Region.wanted o (yielded ops a.tmps)=true then Oper.wp P o a w K Q else E:=by
 have hw:Region.wanted o (yielded ops a.tmps)=true:=by simp [Region.wanted,hgd]
 rw [if_pos hw]
 obtain⟨v',w',hrun,h2,h3,_,h5⟩:=run_append_own_at (P:=P) w base t o.type e i z size bytes ht hi hz hsize hby hzs hsz v n xs hown ad m c news hl hnews h1 h63 hbytes hbase
 unfold Oper.wp
 simp [execOp,ho,resolve,invoke,builtin,hs,hx,hrun,Result.andThen]
 exact h v' w' h2 h3 h5
theorem lF(W:World)(a b:Value)(t:TypeId):∀ (j:Nat) (u:Value),[a,b][j]?=some u->(W.alloc (.cells #[a,b] t)).cell? ((⟨W.heap.size,0,none⟩:Addr).add j)=some u:=by
 intro j u h
 match j,h with
 | 0,h=>simp at h;subst h;simp [Addr.add]
 | 1,h=>simp at h;subst h;simp [Addr.add]
theorem aE(w:World)(o:Obj):(w.alloc o).heap[w.heap.size]?=some o:=by unfold World.alloc;simp
def In(L:List (Int × Int))(c:Int):Prop:=∃ r∈L,r.1<=c/\c<=r.2
structure Cls(L:List (Int × Int)):Prop where
 some:∀ r∈L,r.1<=r.2
 apart:L.Pairwise (fun a b=>a.2+1 < b.1)
theorem iA(c:Int):¬ In [] c:=fun⟨_,h,_⟩=>by cases h
theorem cQ(r:Int × Int)(L:List (Int × Int))(c:Int):In (r :: L) c ↔ (r.1<=c/\c<=r.2)\/In L c:=by
 simp [In]
theorem cH(A B:List (Int × Int))(c:Int):In (A ++ B) c ↔ In A c\/In B c:=by
 constructor
 ·rintro ⟨r,h,q⟩
  rcases n9.1 h with h | h
  ·exact .inl ⟨r,h,q⟩
  ·exact .inr ⟨r,h,q⟩
 ·rintro (⟨r,h,q⟩ | ⟨r,h,q⟩)
  ·exact⟨r,n9.2 (.inl h),q⟩
  ·exact⟨r,n9.2 (.inr h),q⟩
theorem eK(r:Int × Int)(c:Int):In [r] c ↔ r.1<=c/\c<=r.2:=by simp [In]
theorem aK5:Cls []:=⟨fun _ h=>(by cases h),List.Pairwise.nil⟩
theorem mD{r:Int × Int}{L:List (Int × Int)}(h:Cls (r :: L)):Cls L:=⟨fun x hx=>h.some x (n6 _ hx),(aBM.1 h.apart).2⟩
theorem gK{r:Int × Int}{L:List (Int × Int)}(h:Cls (r :: L)):r.1<=r.2:=h.some r m8
theorem mE{r x:Int × Int}{L:List (Int × Int)}(h:Cls (r :: L))(hx:x∈L):r.2+1 < x.1:=(aBM.1 h.apart).1 x hx
theorem eI{r:Int × Int}{L:List (Int × Int)}(h:Cls (r :: L)){c:Int}(hc:In L c):r.2+1 < c:=by
 obtain⟨x,hx,h1,h2⟩:=hc
 have:=mE h hx
 omega
theorem sW:∀ (A B:List (Int × Int)),Cls A->Cls B->(∀ c,In A c ↔ In B c)->A=B
 | [],[],_,_,_=>rfl
 | [],b :: B,_,hB,h=>absurd ((h b.1).2 ⟨b,m8,aAN _,gK hB⟩) (iA _)
 | a :: A,[],hA,_,h=>absurd ((h a.1).1 ⟨a,m8,aAN _,gK hA⟩) (iA _)
 | a :: A,b :: B,hA,hB,h=>by
  have ha:=gK hA
  have hb:=gK hB
  have h1:a.1=b.1:=by
   have p:=(h a.1).1 ((cQ ..).2 (.inl ⟨aAN _,ha⟩))
   have q:=(h b.1).2 ((cQ ..).2 (.inl ⟨aAN _,hb⟩))
   rcases (cQ ..).1 p with p | p
   ·rcases (cQ ..).1 q with q | q
    ·omega
    ·have:=eI hA q;omega
   ·have:=eI hB p
    rcases (cQ ..).1 q with q | q
    ·omega
    ·have:=eI hA q;omega
  have h2:a.2=b.2:=by
   rcases Int.lt_trichotomy a.2 b.2 with q | q | q
   ·have p:=(h (a.2+1)).2 ((cQ ..).2 (.inl ⟨by omega,by omega⟩))
    rcases (cQ ..).1 p with p | p
    ·omega
    ·have:=eI hA p;omega
   ·exact q
   ·have p:=(h (b.2+1)).1 ((cQ ..).2 (.inl ⟨by omega,by omega⟩))
    rcases (cQ ..).1 p with p | p
    ·omega
    ·have:=eI hB p;omega
  have e:a=b:=Prod.ext h1 h2
  subst e
  rw [sW A B (mD hA) (mD hB) fun c=>?_]
  constructor
  ·intro p
   have:=eI hA p
   rcases (cQ ..).1 ((h c).1 ((cQ ..).2 (.inr p))) with q | q
   ·omega
   ·exact q
  ·intro p
   have:=eI hB p
   rcases (cQ ..).1 ((h c).2 ((cQ ..).2 (.inr p))) with q | q
   ·omega
   ·exact q
def cP(C:List (Int × Int))(r:Int × Int):List (Int × Int):=
 if r.2 < r.1 then C else
  match C.getLast? with
  | none=>[r]
  | some x=>if x.2+1 < r.1 then C ++ [r] else C.dropLast ++ [(x.1,max x.2 r.2)]
theorem lC{C:List (Int × Int)}{r:Int × Int}(h:r.2 < r.1):cP C r=C:=if_pos h
theorem mF{r:Int × Int}(h:¬ r.2 < r.1):cP [] r=[r]:=by unfold cP;rw [if_neg h];rfl
theorem mH{C:List (Int × Int)}{x r:Int × Int}(h:¬ r.2 < r.1)(hf:x.2+1 < r.1):cP (C ++ [x]) r=C ++ [x] ++ [r]:=by
 unfold cP
 rw [if_neg h]
 simp [hf]
theorem kG{C:List (Int × Int)}{x r:Int × Int}(h:¬ r.2 < r.1)(hf:¬ x.2+1 < r.1):cP (C ++ [x]) r=C ++ [(x.1,max x.2 r.2)]:=by
 unfold cP
 rw [if_neg h]
 simp [hf]
theorem iS{α:Type}(C:List α):C=[]\/∃ D x,C=D ++ [x]:=by
 rcases List.eq_nil_or_concat C with h | ⟨D,x,h⟩
 ·exact .inl h
 ·exact .inr ⟨D,x,by rw [h,List.concat_eq_append]⟩
theorem sX{A:List (Int × Int)}{r:Int × Int}(hA:Cls A)(hr:r.1<=r.2)(h:∀ x∈A,x.2+1 < r.1):Cls (A ++ [r]):=
 ⟨fun x hx=>by
  rcases n9.1 hx with q | q
  ·exact hA.some x q
  ·simp at q;subst q;exact hr,
  List.pairwise_append.2 ⟨hA.apart,List.pairwise_singleton _ _,fun x hx y hy=>by simp at hy;subst hy;exact h x hx⟩⟩
theorem aY8{A:List (Int × Int)}{x:Int × Int}(h:Cls (A ++ [x])):Cls A/\x.1<=x.2/\∀ y∈A,y.2+1 < x.1:=
 ⟨⟨fun y hy=>h.some y (n9.2 (.inl hy)),(List.pairwise_append.1 h.apart).1⟩,h.some x (by simp),fun y hy=>(List.pairwise_append.1 h.apart).2.2 y hy x (by simp)⟩
theorem vG{C:List (Int × Int)}{r:Int × Int}(hC:Cls C)(hl:r.1<=r.2->∀ x∈C,x.1<=r.1) :
  Cls (cP C r)/\(∀ c,In (cP C r) c ↔ In C c\/(r.1<=c/\c<=r.2))/\(∀ m,(r.1<=r.2->r.1<=m)->(∀ x∈C,x.1<=m)->∀ x∈cP C r,x.1<=m):=by
 by_cases h:r.2 < r.1
 ·rw [lC h]
  exact⟨hC,fun c=>⟨.inl,fun q=>q.elim id fun q=>by omega⟩,fun m _ q=>q⟩
 ·have hr:r.1<=r.2:=by omega
  have hl:=hl hr
  rcases iS C with rfl | ⟨D,x,rfl⟩
  ·rw [mF h]
   refine⟨⟨fun y hy=>by simp at hy;subst hy;exact hr,List.pairwise_singleton _ _⟩,fun c=>?_,fun m hm _ y hy=>by simp at hy;subst hy;exact hm hr⟩
   rw [eK]
   exact⟨.inr,fun q=>q.elim (fun q=>absurd q (iA _)) id⟩
  ·obtain⟨hD,hx,hDx⟩:=aY8 hC
   have hxr:=hl x (by simp)
   by_cases hf:x.2+1 < r.1
   ·rw [mH h hf]
    refine⟨sX hC hr fun y hy=>?_,fun c=>by rw [cH,eK],fun m hm q y hy=>?_⟩
    ·rcases n9.1 hy with q | q
     ·have:=hDx y q;omega
     ·simp at q;subst q;exact hf
    ·rcases n9.1 hy with p | p
     ·exact q y p
     ·simp at p;subst p;exact hm hr
   ·rw [kG h hf]
    refine⟨sX hD (by simp only;omega) hDx,fun c=>?_,fun m hm q y hy=>?_⟩
    ·rw [cH,cH,eK,eK]
     constructor
     ·rintro (p | ⟨p1,p2⟩)
      ·exact .inl (.inl p)
      ·simp only at p1 p2
       by_cases hc:c<=x.2
       ·exact .inl (.inr ⟨p1,hc⟩)
       ·exact .inr ⟨by omega,by omega⟩
     ·rintro ((p | ⟨p1,p2⟩) | ⟨p1,p2⟩)
      ·exact .inl p
      ·exact .inr ⟨p1,by simp only;omega⟩
      ·exact .inr ⟨by simp only;omega,by simp only;omega⟩
    ·rcases n9.1 hy with p | p
     ·exact q y (n9.2 (.inl p))
     ·simp at p;subst p;exact q x (by simp)
def Fit(L:List (Int × Int)):Prop:=∀ r∈L,(-9223372036854775808<=r.1/\r.1<=9223372036854775807)/\(-9223372036854775808<=r.2/\r.2<=9223372036854775807)
theorem kX:Fit []:=fun _ h=>by cases h
theorem eA{A B:List (Int × Int)}(hA:Fit A)(hB:Fit B):Fit (A ++ B):=fun r hr=>(n9.1 hr).elim (hA r) (hB r)
theorem oW{a b:Int}(h:(-9223372036854775808<=a/\a<=9223372036854775807)/\(-9223372036854775808<=b/\b<=9223372036854775807)):Fit [(a,b)]:=fun r hr=>by simp at hr;subst hr;exact h
theorem gI{A B:List (Int × Int)}(hA:Fit A)(h:∀ x∈B,x∈A):Fit B:=fun r hr=>hA r (h r hr)
theorem zL{C:List (Int × Int)}{r:Int × Int}(hC:Fit C)(hr:Fit [r]):Fit (cP C r):=by
 have q:=hr r (by simp)
 by_cases h:r.2 < r.1
 ·rw [lC h];exact hC
 ·rcases iS C with rfl | ⟨D,x,rfl⟩
  ·rw [mF h];exact hr
  ·have hx:=hC x (by simp)
   by_cases hf:x.2+1 < r.1
   ·rw [mH h hf];exact eA hC hr
   ·rw [kG h hf]
    exact eA (gI hC fun y hy=>n9.2 (.inl hy)) (oW ⟨hx.1,by omega,by omega⟩)
theorem mG(C:List (Int × Int))(r:Int × Int):(cP C r).length<=C.length+1:=by
 by_cases h:r.2 < r.1
 ·rw [lC h];omega
 ·rcases iS C with rfl | ⟨D,x,rfl⟩
  ·rw [mF h];simp
  ·by_cases hf:x.2+1 < r.1
   ·rw [mH h hf];simp
   ·rw [kG h hf];simp
theorem bE4{A B:List (Int × Int)}(h:A.Perm B)(c:Int):In A c ↔ In B c:=
 ⟨fun⟨r,q,p⟩=>⟨r,h.mem_iff.1 q,p⟩,fun⟨r,q,p⟩=>⟨r,h.mem_iff.2 q,p⟩⟩
theorem aQ4{a b:Int × Int}{A B:List (Int × Int)}(hb:Cls (b :: B))(h:a.2 < b.2)(c:Int) :
  (In (a :: A) c/\In (b :: B) c) ↔ (max a.1 b.1<=c/\c<=min a.2 b.2)\/(In A c/\In (b :: B) c):=by
 rw [cQ,cQ]
 constructor
 ·rintro ⟨p | p,q | q⟩
  ·exact .inl ⟨by omega,by omega⟩
  ·have:=eI hb q;omega
  ·exact .inr ⟨p,.inl q⟩
  ·exact .inr ⟨p,.inr q⟩
 ·rintro (⟨p,q⟩ | ⟨p,q⟩)
  ·exact⟨.inl ⟨by omega,by omega⟩,.inl ⟨by omega,by omega⟩⟩
  ·exact⟨.inr p,q⟩
theorem aF8{a b:Int × Int}{A B:List (Int × Int)}(ha:Cls (a :: A))(h:b.2<=a.2)(c:Int) :
  (In (a :: A) c/\In (b :: B) c) ↔ (max a.1 b.1<=c/\c<=min a.2 b.2)\/(In (a :: A) c/\In B c):=by
 rw [cQ,cQ]
 constructor
 ·rintro ⟨p | p,q | q⟩
  ·exact .inl ⟨by omega,by omega⟩
  ·exact .inr ⟨.inl p,q⟩
  ·have:=eI ha p;omega
  ·exact .inr ⟨.inr p,q⟩
 ·rintro (⟨p,q⟩ | ⟨p,q⟩)
  ·exact⟨.inl ⟨by omega,by omega⟩,.inl ⟨by omega,by omega⟩⟩
  ·exact⟨p,.inr q⟩
def aS(L:List (Int × Int)):List Go.Value:=L.flatMap fun r=>[.int .i64 r.1,.int .i64 r.2]
theorem dS(L:List (Int × Int)):(aS L).length=L.length * 2:=by
 induction L with
 | nil=>rfl
 | cons r L ih=>simp [aS] at ih ⊢;omega
theorem jP(A B:List (Int × Int)):aS (A ++ B)=aS A ++ aS B:=by simp [aS]
theorem lA(L:List (Int × Int)):∀ v∈aS L,v.oneCell'=true:=fun v hv=>by
 simp [aS] at hv
 obtain⟨a,b,_,rfl | rfl⟩:=hv <;> rfl
theorem iW:∀ (L:List (Int × Int)) (i:Nat) (r:Int × Int),L[i]?=some r->(aS L)[2 * i]?=some (.int .i64 r.1)/\(aS L)[2 * i+1]?=some (.int .i64 r.2)
 | [],i,r,h=>by cases h
 | x :: L,0,r,h=>by
  simp at h
  subst h
  simp [aS]
 | x :: L,i+1,r,h=>by
  have:=iW L i r (by simpa using h)
  simp only [aS,aBA] at this ⊢
  rw [show 2 * (i+1)=2 * i+2 from by omega]
  simpa using this
theorem sZ:∀ (L:List (Int × Int)) (i:Nat) (a b:Int),((aS L).set (i * 2) (.int .i64 a)).set (i * 2+1) (.int .i64 b)=aS (L.set i (a,b))
 | [],i,a,b=>by simp [aS]
 | x :: L,0,a,b=>by simp [aS]
 | x :: L,i+1,a,b=>by
  have:=sZ L i a b
  simp only [aS,aBA,g3] at this ⊢
  rw [show (i+1) * 2=i * 2+2 from by omega]
  simpa using this
theorem pC:∀ (L:List (Int × Int)) (i:Nat) (r:Int × Int) (b:Int),L[i]?=some r->(aS L).set (i * 2+1) (.int .i64 b)=aS (L.set i (r.1,b))
 | [],i,r,b,h=>by cases h
 | x :: L,0,r,b,h=>by simp at h;subst h;simp [aS]
 | x :: L,i+1,r,b,h=>by
  have:=pC L i r b (by simpa using h)
  simp only [aS,aBA,g3] at this ⊢
  rw [show (i+1) * 2=i * 2+2 from by omega]
  simpa using this
theorem aD{p:Prop}(h:p):Hid p:=h
theorem yC{x:Int}(h:(Lit.int .i64 x).wf=true):-9223372036854775808<=x/\x<=9223372036854775807:=by
 simp [Lit.wf,IntKind.min,IntKind.max,IntKind.signed,IntKind.bits] at h
 omega
theorem cY:(Tryz.prog.info? 110).map (fun i=>(i.zero,i.size,i.bytes))=some (some (.agg #[.int .i64 0,.int .i64 0]),2,16):=by kernel_rfl
theorem bM:Tryz.prog.underlying 22=some (.slice 110):=by kernel_rfl
theorem jI(P:Program)(t:Array TypeId)(ty:TypeId)(w:World)(x y:Int):(Builtin.max_ t ty #[.int .i64 x,.int .i64 y]).run P w=.ok (.int .i64 (max x y)) w:=by
 have e:max x y=if y > x then y else x:=by split <;> omega
 rw [e]
 rfl
theorem oK(P:Program)(t:Array TypeId)(ty:TypeId)(w:World)(x y:Int):(Builtin.min_ t ty #[.int .i64 x,.int .i64 y]).run P w=.ok (.int .i64 (min x y)) w:=by
 have e:min x y=if y < x then y else x:=by split <;> omega
 rw [e]
 rfl
def ArgR(W:World)(v:Value)(L:List (Int × Int)):Prop:=
 (∃ p cap,v=.slice p 0 cap/\L=[]/\(p=none->cap=0))\/∃ g off cap,v=.slice (some ⟨g,off,none⟩) L.length cap/\g < W.heap.size/\L.length<=cap/\cap<=maxLen/\∀ (i:Nat) (r:Int × Int),L[i]?=some r->W.cell? ⟨g,off+2 * i,none⟩=some (.int .i64 r.1)/\W.cell? ⟨g,off+2 * i+1,none⟩=some (.int .i64 r.2)
theorem ArgR.kept{W W':World}{v:Value}{L:List (Int × Int)}(h:ArgR W v L)(hb:Below W.heap.size W W'):ArgR W' v L:=by
 rcases h with h | ⟨g,off,cap,h1,h2,h3,h4,h5⟩
 ·exact .inl h
 ·exact .inr ⟨g,off,cap,h1,i6 h2 hb.size,h3,h4,fun i x hx=>⟨(hb.cell (p:=⟨g,off+2 * i,none⟩) h2).trans (h5 i x hx).1,(hb.cell (p:=⟨g,off+2 * i+1,none⟩) h2).trans (h5 i x hx).2⟩⟩
theorem ArgR.slice{W:World}{v:Value}{L:List (Int × Int)}(h:ArgR W v L):∃ q cap,v=.slice q L.length cap/\L.length<=maxLen/\L.length<=cap /\
  (∀ (i:Nat) (r:Int × Int),L[i]?=some r->∃ g off,q=some ⟨g,off,none⟩/\g < W.heap.size/\W.cell? ⟨g,off+2 * i,none⟩=some (.int .i64 r.1)/\W.cell? ⟨g,off+2 * i+1,none⟩=some (.int .i64 r.2)):=by
 rcases h with⟨p,cap,rfl,rfl,-⟩ | ⟨g,off,cap,rfl,h2,h3,h4,h5⟩
 ·exact⟨p,cap,rfl,m9 _,m9 _,fun i x hx=>by simp at hx⟩
 ·exact⟨_,cap,rfl,i8 h3 h4,h3,fun i x hx=>⟨g,off,rfl,h2,h5 i x hx⟩⟩
theorem ArgR.news{W:World}{ad:Addr}{n c:Nat}{L:List (Int × Int)}(h:ArgR W (.slice (some ad) n c) L):∀ j u,(aS L)[j]?=some u->W.cell? (ad.add j)=some u:=by
 intro j u hj
 have hjl:j < L.length * 2:=by have:=(i5.1 hj).1;rwa [dS] at this
 rcases h with⟨p,cap,e,rfl,-⟩ | ⟨g,off,cap,e,h2,h3,h4,h5⟩
 ·simp at hjl
 ·cases e
  obtain⟨q1,q2⟩:=h5 (j / 2) _ (g9 (by omega))
  obtain⟨r1,r2⟩:=iW L (j / 2) _ (g9 (by omega))
  have hadd:(⟨g,off,none⟩:Addr).add j=⟨g,off+j,none⟩:=by unfold Addr.add;split <;> simp_all
  rw [hadd]
  rcases Nat.mod_two_eq_zero_or_one j with e | e
  ·rw [show 2 * (j / 2)=j by omega] at q1 r1
   rw [q1,<- r1,hj]
  ·rw [show off+2 * (j / 2)+1=off+j by omega] at q2
   rw [show 2 * (j / 2)+1=j by omega] at r2
   rw [q2,<- r2,hj]
def RR(base:Nat)(w:World)(v:Value)(L:List (Int × Int)):Prop:=w.ownsRow base 110 2 v L.length (aS L)
theorem RR.arg{base:Nat}{w:World}{v:Value}{L:List (Int × Int)}(h:RR base w v L):ArgR w v L:=by
 have h':=h
 rcases h.2 with⟨rfl,hn⟩ | ⟨g,cap,cur,rfl,hg,hc,h1,h2,h3,h4⟩
 ·exact .inl ⟨none,0,rfl,o3 hn,fun _=>rfl⟩
 ·exact .inr ⟨g,0,cap,rfl,aB hc,h1,h2,fun i x hx=>by
   obtain⟨p1,p2⟩:=iW L i x hx
   rw [g8]
   exact⟨aU h' p1,aU h' p2⟩⟩
theorem RR.nil(base:Nat)(w:World):RR base w (.slice none 0 0) []:=⟨rfl,.inl ⟨rfl,rfl⟩⟩
theorem RR.fr{base:Nat}{w w':World}{v:Value}{L:List (Int × Int)}{S:Nat->Prop}(h:RR base w v L)(hf:Fr S w w')(hs:∀ k,v.ownBlock=some k->¬ S k):RR base w' v L:=aM h hf hs
theorem RR.kept{base:Nat}{w w':World}{v:Value}{L:List (Int × Int)}(h:RR base w v L)(hb:Below w.heap.size w w'):RR base w' v L:=h.fr (S:=fun _=>False) (Fr.of_below hb) (fun _ _ q=>q)
theorem RR.mono{base base':Nat}{w:World}{v:Value}{L:List (Int × Int)}(h:RR base w v L)(hb:base'<=base):RR base' w v L:=gG h hb
theorem RR.shape{base:Nat}{w:World}{v:Value}{L:List (Int × Int)}(h:RR base w v L):∃ q c,v=.slice q L.length c:=aZ h
structure IsC(C:List (Int × Int))(p:Int->Prop):Prop where
 cls:Cls C
 fit:Fit C
 mem:∀ c,In C c ↔ p c
theorem IsC.one{C D:List (Int × Int)}{p q:Int->Prop}(h:IsC C p)(k:IsC D q)(e:∀ c,p c ↔ q c):C=D:=
 sW C D h.cls k.cls fun c=>(h.mem c).trans ((e c).trans (k.mem c).symm)
theorem IsC.to{C:List (Int × Int)}{p q:Int->Prop}(h:IsC C p)(e:∀ c,p c ↔ q c):IsC C q:=⟨h.cls,h.fit,fun c=>(h.mem c).trans (e c)⟩
def xG(w:World)(p:Int->Prop)(n:Nat)(e:Ending)(w':World):Prop:=∃ v C,e=.returned v/\RR w.heap.size w' v C/\IsC C p/\C.length<=n/\Below w.heap.size w w'
structure Fl where
 k:Int
 n:Int
 mn:Int
 mx:Int
 rs:List (Int × Int)
 rq:Option Addr
 rc:Nat
 kq:Option Addr
 kl:Nat
 kc:Nat
inductive Tr where
 | mk (f:Fl) (ks:List Tr)
def Tr.f:Tr->Fl | .mk f _=>f
def Tr.ks:Tr->List Tr | .mk _ ks=>ks
abbrev Way:=List (Tr × Nat)
abbrev El:=Way × Tr
mutual
def pp:Way->Tr->List El
 | p,.mk f ks=>(p,.mk f ks) :: pps (.mk f ks) p 0 ks
def pps(par:Tr)(p:Way):Nat->List Tr->List El
 | _,[]=>[]
 | i,t :: ts=>pp ((par,i) :: p) t ++ pps par p (i+1) ts
end
theorem cF(p:Way)(t:Tr):pp p t=(p,t) :: pps t p 0 t.ks:=by
 cases t
 rw [pp]
 rfl
theorem bL(par:Tr)(p:Way)(i:Nat)(t:Tr)(ts:List Tr):pps par p i (t :: ts)=pp ((par,i) :: p) t ++ pps par p (i+1) ts:=by rw [pps]
theorem cA(par:Tr)(p:Way)(i:Nat):pps par p i []=[]:=by rw [pps]
mutual
def Tr.sz:Tr->Nat | .mk _ ks=>szs ks+1
def szs:List Tr->Nat | []=>0 | t :: ts=>t.sz+szs ts
end
theorem jG(t:Tr):t.sz=szs t.ks+1:=by cases t;rw [Tr.sz];rfl
theorem gA(t:Tr)(ts:List Tr):szs (t :: ts)=t.sz+szs ts:=by rw [szs]
theorem fZ:szs []=0:=by rw [szs]
theorem eV(t:Tr):1<=t.sz:=by rw [jG];omega
theorem bJ6{t:Tr}{ks:List Tr}(h:t∈ks):t.sz<=szs ks:=by
 induction ks with
 | nil=>cases h
 | cons x r ih=>
  rw [gA]
  rcases aAW.1 h with e | e
  ·subst e;omega
  ·have:=ih e;omega
theorem dM{t u:Tr}(h:u∈t.ks):u.sz < t.sz:=by rw [jG t];have:=bJ6 h;omega
theorem Tr.ind{P:Tr->Prop}(h:∀ t,(∀ u∈t.ks,P u)->P t)(t:Tr):P t:=by
 have:∀ (m:Nat) (t:Tr),t.sz<=m->P t:=by
  intro m
  induction m with
  | zero=>intro t ht;have:=eV t;omega
  | succ m ih=>intro t ht;exact h t fun u hu=>ih u (by have:=dM hu;omega)
 exact this t.sz t lz9
theorem aE0{ks:List Tr}(h:∀ t∈ks,∀ p,(pp p t).length=t.sz)(par:Tr)(p:Way)(i:Nat):(pps par p i ks).length=szs ks:=by
 induction ks generalizing i with
 | nil=>rw [cA,fZ];rfl
 | cons t ts ih=>
  rw [bL,gA,m7,h t (m8 ..),ih (fun u hu=>h u (n6 _ hu))]
theorem eJ(t:Tr):∀ p,(pp p t).length=t.sz:=by
 refine Tr.ind (P:=fun t=>∀ p,(pp p t).length=t.sz) (fun t ih p=>?_) t
 rw [cF,jG,j8,aE0 ih]
def Nx(x y:El):Prop:=∃ (par:Tr) (j:Nat) (rest:Way),y.1=(par,j) :: rest/\((par=x.2/\j=0/\rest=x.1)\/∃ s i,x.1=s ++ (par,i) :: rest/\j=i+1)
def Ch:List El->Prop
 | []=>True
 | [_]=>True
 | x :: y :: r=>Nx x y/\Ch (y :: r)
theorem pA{a b:List El}(ha:Ch a)(hb:Ch b)(h:∀ x∈a.getLast?,∀ y∈b.head?,Nx x y):Ch (a ++ b):=by
 induction a with
 | nil=>exact hb
 | cons x a ih=>
  cases a with
  | nil=>
   cases b with
   | nil=>trivial
   | cons y b=>exact⟨h x (by simp) y (by simp),hb⟩
  | cons z a=>exact⟨ha.1,ih ha.2 fun u hu=>h u (by rw [List.getLast?_cons_cons];exact hu)⟩
theorem aZ2{a b:List El}{x y:El}(h:Ch (a ++ x :: y :: b)):Nx x y:=by
 induction a with
 | nil=>exact h.1
 | cons z a ih=>
  cases a with
  | nil=>exact h.2.1
  | cons u a=>exact ih h.2
theorem wL{ks:List Tr}(h:∀ t∈ks,∀ p,Ch (pp p t)/\∀ z∈pp p t,∃ s,z.1=s ++ p)(par:Tr)(p:Way)(i:Nat) :
  Ch (pps par p i ks)/\(∀ z∈pps par p i ks,∃ s j,z.1=s ++ (par,j) :: p)/\∀ z∈(pps par p i ks).head?,z.1=(par,i) :: p:=by
 induction ks generalizing i with
 | nil=>rw [cA];exact⟨trivial,fun z hz=>(by cases hz),fun z hz=>(by cases hz)⟩
 | cons t ts ih=>
  obtain⟨c1,c2⟩:=h t (m8 ..) ((par,i) :: p)
  obtain⟨d1,d2,d3⟩:=ih (fun u hu=>h u (n6 _ hu)) (i+1)
  rw [bL]
  refine⟨pA c1 d1 fun x hx y hy=>?_,fun z hz=>?_,fun z hz=>?_⟩
  ·obtain⟨s,hs⟩:=c2 x (List.mem_of_getLast? hx)
   exact⟨par,i+1,p,d3 y hy,.inr ⟨s,i,hs,rfl⟩⟩
  ·rcases n9.1 hz with q | q
   ·obtain⟨s,hs⟩:=c2 z q
    exact⟨s,i,hs⟩
   ·exact d2 z q
  ·rw [cF] at hz
   simp at hz
   subst hz
   rfl
theorem aU9(t:Tr):∀ p,Ch (pp p t)/\∀ z∈pp p t,∃ s,z.1=s ++ p:=by
 refine Tr.ind (P:=fun t=>∀ p,Ch (pp p t)/\∀ z∈pp p t,∃ s,z.1=s ++ p) (fun t ih p=>?_) t
 obtain⟨d1,d2,d3⟩:=wL ih t p 0
 rw [cF]
 refine⟨pA (a:=[(p,t)]) trivial d1 fun x hx y hy=>?_,fun z hz=>?_⟩
 ·simp at hx
  subst hx
  exact⟨t,0,p,d3 y hy,.inl ⟨rfl,rfl,rfl⟩⟩
 ·rcases aAW.1 hz with q | q
  ·subst q
   exact⟨[],rfl⟩
  ·obtain⟨s,j,hs⟩:=d2 z q
   exact⟨s ++ [(t,j)],by simp [hs]⟩
theorem uM{t:Tr}{pre:List El}{x y:El}(h:pre ++ [x] ++ [y] <+: pp [] t):Nx x y:=by
 obtain⟨r,hr⟩:=h
 have:=(aU9 t []).1
 rw [<- hr,show pre ++ [x] ++ [y] ++ r=pre ++ x :: y :: r by simp] at this
 exact aZ2 this
theorem rU{t:Tr}{x:El}(h:[x] <+: pp [] t):x=([],t):=by
 rw [cF] at h
 obtain⟨r,hr⟩:=h
 simp at hr
 exact hr.1
mutual
def bY(P:Tr->Prop):Tr->Prop | .mk f ks=>P (.mk f ks)/\qE P ks
def qE(P:Tr->Prop):List Tr->Prop | []=>True | t :: ts=>bY P t/\qE P ts
end
theorem bE{P:Tr->Prop}(t:Tr):bY P t ↔ P t/\qE P t.ks:=by cases t;rw [bY];rfl
theorem bX{P:Tr->Prop}(ks:List Tr):qE P ks ↔ ∀ t∈ks,bY P t:=by
 induction ks with
 | nil=>rw [qE];simp
 | cons t ts ih=>rw [qE,ih];simp
theorem bI{P:Tr->Prop}{t u:Tr}(h:bY P t)(hu:u∈t.ks):bY P u:=(bX _).1 ((bE t).1 h).2 u hu
theorem oY{P:Tr->Prop}(t:Tr):∀ p,bY P t->∀ z∈pp p t,bY P z.2:=by
 refine Tr.ind (P:=fun t=>∀ p,bY P t->∀ z∈pp p t,bY P z.2) (fun t ih p he z hz=>?_) t
 rw [cF] at hz
 rcases aAW.1 hz with q | q
 ·subst q;exact he
 ·have:∀ (ks:List Tr) (i:Nat),(∀ u∈ks,u∈t.ks)->z∈pps t p i ks->bY P z.2:=by
   intro ks
   induction ks with
   | nil=>intro i _ h;rw [cA] at h;cases h
   | cons u us ih2=>
    intro i hs h
    rw [bL] at h
    rcases n9.1 h with g | g
    ·exact ih u (hs u (m8 ..)) _ (bI he (hs u (m8 ..))) z g
    ·exact ih2 (i+1) (fun v hv=>hs v (n6 _ hv)) g
  exact this t.ks 0 (fun _ h=>h) q
section
open Go Go.RowKit Go.Shelf
theorem xD{W W':World}(hb:Below W.heap.size W W'):W.grownBy W' none:=⟨hb.os,hb.tape,hb.output,hb.size,fun k hk _=>hb.block k hk⟩
structure CKeep(N:Nat->Prop)(W W':World):Prop where
 size:W.heap.size<=W'.heap.size
 same:∀ (k:Nat) (cur:Array Value) (t:TypeId) (fr:Nat × Nat),N k->W.heap[k]?=some (.cells cur t fr)->W'.heap[k]?=some (.cells cur t fr)
theorem CKeep.trans{N:Nat->Prop}{A B C:World}(h:CKeep N A B)(k:CKeep N B C):CKeep N A C:=⟨i8 h.size k.size,fun i cur t fr hi hc=>k.same i cur t fr hi (h.same i cur t fr hi hc)⟩
theorem CKeep.put{N:Nat->Prop}{W:World}{l:Nat}{o:Obj}(o':Obj)(h:W.heap[l]?=some o)(hc:o.isCells=false):CKeep N W (W.putObj l o'):=
 ⟨(grownBy_putObj' W l o').size,fun k cur t fr _ hk=>by
  have hne:k≠l:=fun e=>by subst e;rw [hk] at h;cases h;cases hc
  exact(World.putObj_heap_other hne).trans hk⟩
theorem Fr.ckeep{S N:Nat->Prop}{W W':World}(h:Fr S W W')(hs:∀ k,S k->¬ N k):CKeep N W W':=
 ⟨h.size,fun k _ _ _ hk hc=>(h.block k (aB hc) (fun q=>hs k q hk)).trans hc⟩
theorem Fr.keepsFrom{S:Nat->Prop}{N:Nat}{W W':World}(h:Fr S W W')(hs:∀ k,S k->k < N):KeepsFrom N W W':=
 ⟨h.size,fun k o hk hc _=>(h.block k (aB hc) (fun q=>by have:=hs k q;omega)).trans hc⟩
def bI3{α:Type}(n:Nat)(P:Program)(gf:Nat)(lb:Array Value)(encs:α->Array Value)(N:Nat->Prop)(Told:List α->α->World->Prop)(S Sp:List α->Prop)(w:World):Prop:=
 ∀ (l:Nat) (J Jx:List α->World->Prop) (W:World),Below w.heap.size w W->OwnFrom W.heap.size J->OwnFrom W.heap.size Jx->(∀ pre V,J pre V->pre.length<=1000000) ->
  (∀ pre x V,J pre V->Told pre x V->YieldAt Fence.wide (n - 1) P l (encs x) V fun e V'=>KeepsFrom W.heap.size V V'/\((e=.returned (.bool true)/\J (pre ++ [x]) V'/\CKeep N V V')\/(e=.returned (.bool false)/\Jx (pre ++ [x]) V'))) ->
  J [] W->CallsIn Fence.wide n P gf (#[.func (.yield l) #[] #[]] ++ lb) W fun e V=>(∃ v,e=.returned v)/\((∃ xs,S xs/\J xs V)\/(∃ pre,Sp pre/\Jx pre V))
theorem fJ{β:Type}{B:Nat}{J:β->World->Prop}(h:OwnFrom B J){s:β}{A A':World}(hj:J s A)(hb:Below A.heap.size A A'):J s A':=h s A A' none hj (xD hb) (fun _ e=>by cases e)
theorem kQ{β:Type}{B B':Nat}{J:β->World->Prop}(h:OwnFrom B J)(hB:B<=B'):OwnFrom B' J:=fun s W W' row hs hg hr=>h s W W' row hs hg (fun r e=>⟨i8 hB (hr r e).1,(hr r e).2⟩)
theorem oR{B B':Nat}{W W':World}(h:KeepsFrom B W W')(hB:B<=B'):KeepsFrom B' W W':=⟨h.size,fun k o hk hc ho=>h.same k o (i8 hB hk) hc ho⟩
theorem iL{B:Nat}(W:World){l:Nat}(o:Obj)(hl:l < B):KeepsFrom B W (W.putObj l o):=
 ⟨(grownBy_putObj' W l o).size,fun k _ hk hc _=>(World.putObj_heap_other (by omega)).trans hc⟩
theorem zT{N:Nat->Prop}{W W':World}(hb:Below W.heap.size W W'):CKeep N W W':=⟨hb.size,fun k _ _ _ _ hc=>(hb.block k (aB hc)).trans hc⟩
theorem lV{B:Nat}{W W':World}(hb:Below W.heap.size W W'):KeepsFrom B W W':=⟨hb.size,fun k _ _ hc _=>(hb.block k (aB hc)).trans hc⟩
section
variable {α:Type} {P:Program}
def Rc(D:Nat)(r:Loop)(W:World):Prop:=W.heap[D+1]?=some (.loop r)/\W.heap[D]?=some (.deferred (some []))
theorem Rc.below{D:Nat}{r:Loop}{W W':World}(h:Rc D r W)(hb:Below W.heap.size W W'):Rc D r W':=
 ⟨(hb.block _ (aB h.1)).trans h.1,(hb.block _ (aB h.2)).trans h.2⟩
theorem Rc.from{D:Nat}{r:Loop}{W W':World}(h:Rc D r W)(hk:KeepsFrom D W W'):Rc D r W':=⟨hk.same _ _ (by omega) h.1 rfl,hk.same _ _ lz9 h.2 rfl⟩
theorem Rc.put{D:Nat}{r:Loop}{W:World}(h:Rc D r W)(r':Loop):Rc D r' (W.putObj (D+1) (.loop r')):=
 ⟨World.putObj_heap_same (aB h.1),(World.putObj_heap_other (by omega)).trans h.2⟩
theorem wI{β:Type}{D:Nat}(r:Loop):OwnFrom (D+2) (fun (_:β) W=>Rc D r W):=fun _ A B row h hg hrow=>
 ⟨(hg.block _ (aB h.1) (fun e=>by have:=(hrow _ e.symm).1;omega)).trans h.1,(hg.block _ (aB h.2) (fun e=>by have:=(hrow _ e.symm).1;omega)).trans h.2⟩
theorem aD5{D:Nat}{N:Nat->Prop}{r:Loop}{I:List α->World->Prop}{Ix:Code->List α->World->Prop}{xs:List α}{V W W3:World}{e:Exit}{a3:Act}
  (hI:OwnFrom D I) (hIx:∀ c,OwnFrom D (Ix c)) (hc:CKeep N V W) (hr:Rc D { r with state:=.busy } W)
  (hv:KeepsFrom (D+2) V W) (hp:ownPostG D (CKeep N) I Ix xs W e a3 W3):roundPost P (D+1) (fun e V'=>KeepsFrom (D+2) V V'/\((e=.returned (.bool true)/\(I xs V'/\Rc D { r with state:=.ready,pending:=none } V')/\CKeep N V V')\/(e=.returned (.bool false)/\∃ c,Ix c xs V'/\Rc D { r with state:=.done,pending:=some c } V'))) e a3 W3:=by
 have out:∀ c:Code,KeepsFrom D W W3->Ix c xs W3->∃ v V',(Instr.endRound (D+1) (some c)).run P W3=.ok v V'/\(KeepsFrom (D+2) V V'/\((Ending.returned v=.returned (.bool true)/\(I xs V'/\Rc D { r with state:=.ready,pending:=none } V')/\CKeep N V V')\/(Ending.returned v=.returned (.bool false)/\∃ c,Ix c xs V'/\Rc D { r with state:=.done,pending:=some c } V'))):=fun c hk hi=>by
  have h3:=hr.from hk
  exact⟨_,_,run_endRound (some c) h3.1,(hv.trans (oR hk (by omega))).trans (iL _ _ (by omega)),.inr ⟨rfl,c,(hIx c).putObj _ hi (by omega) h3.1 rfl,h3.put _⟩⟩
 cases e with
 | normal=>
  obtain⟨hk,hkp,hi⟩:=hp
  have h3:=hr.from hk
  exact⟨_,_,run_endRound none h3.1,(hv.trans (oR hk (by omega))).trans (iL _ _ (by omega)),.inl ⟨rfl,⟨hI.putObj _ hi (by omega) h3.1 rfl,h3.put _⟩,(hc.trans hkp).trans (CKeep.put _ h3.1 rfl)⟩⟩
 | ret=>exact out .ret hp.1 hp.2
 | exit id=>exact out (.exit id) hp.1 hp.2
 | goto t=>exact out (.goto t) hp.1 hp.2
 | panic ch=>exact hp.elim
 | outgrown=>exact hp.elim
theorem aD7{g:Operand}{ps:Array Tmp}{assign body:Code}{Q:Exit->Act->World->Prop}{a:Act}{w:World}{n:Nat}(h1:1<=n){gf:Nat}{lb:Array Value}
  (hg:a.eval g=.func (.func gf) #[] lb) (eg:∀ args w,(callFunc gf args).run P w=.ok (.enter gf args) w) {encs:α->Array Value} (hps:∀ x,(encs x).size=ps.size)
  {N:Nat->Prop} {Told:List α->α->World->Prop} {S Sp:List α->Prop} (hseq:bI3 (n - 1) P gf lb encs N Told S Sp w)
  (I:List α->World->Prop) (Ix:Code->List α->World->Prop) (hI:OwnFrom w.heap.size I) (hIx:∀ c,OwnFrom w.heap.size (Ix c)) (hT:∀ pre x,OwnFrom w.heap.size (fun (_:Unit) W=>Told pre x W)) (hbd:∀ pre W,I pre W->pre.length<=1000000) (h0:I [] w) (Ax:α->Act->World->Prop) (hAx:∀ x a',OwnFrom w.heap.size (fun (_:Unit) W=>Ax x a' W))
  (hassign:∀ (l:Nat) (pre:List α) (x:α) (W:World) (K:Act->World->Prop),I pre W->Told pre x W->(∀ a' W',Below W.heap.size W W'->Ax x a' W'->K a' W') ->
   assign.wpIn (Fence.wide.inRound l) (n - 1 - 1) P (Exit.then K (fun _ _ _=>False)) { tmps:=(ps.zip (encs x)).foldl (fun t (p,v)=>t.setIfInBounds p v) a.tmps,defers:=[] } W)
  (hbody:∀ (l:Nat) (pre:List α) (x:α) (a':Act) (W:World),I pre W->Told pre x W->Ax x a' W->body.wpIn (Fence.wide.inRound l) (n - 1 - 1) P (ownPostG w.heap.size (CKeep N) I Ix (pre ++ [x]) W) a' W)
  (hdone:∀ (D:Nat) (xs:List α) (W:World),w.heap.size<=D->S xs->I xs W->W.heap[D]?=some (.deferred (some []))->Q .normal { a with defers:={ target:=.collected D,args:=#[] } :: a.defers } W)
  (hstop:∀ (D:Nat) (c:Code) (pre:List α) (W:World),w.heap.size<=D->Sp pre->Ix c pre W->W.heap[D]?=some (.deferred (some []))->c.wpIn Fence.wide n P Q { a with defers:={ target:=.collected D,args:=#[] } :: a.defers } W) :
  (Code.rangeFunc g ps assign body).wpIn Fence.wide n P Q a w:=by
 refine wpIn_rangeFunc fun fn hfn=>?_
 let r:Loop:={ state:=.ready,pending:=none,fn:=fn,tmps:=a.tmps,params:=ps,assign:=assign,body:=body,defers:=w.heap.size }
 have hB:Below w.heap.size w ((w.alloc (.deferred (some []))).alloc (.loop r)):=(bz9).alloc (by simp) _
 have hz:((w.alloc (.deferred (some []))).alloc (.loop r)).heap.size=w.heap.size+2:=by simp
 have hR:Rc w.heap.size r ((w.alloc (.deferred (some []))).alloc (.loop r)):=by
  refine⟨?_,(Below.heap_alloc _ _ _ (by simp)).trans (World.alloc_heap_new w _)⟩
  have:=World.alloc_heap_new (w.alloc (.deferred (some []))) (.loop r)
  rwa [a7] at this
 refine⟨w.heap.size+1,[{ target:=.collected w.heap.size,args:=#[] }],((w.alloc (.deferred (some []))).alloc (.loop r)),{ target:=.fn (.func gf) lb,args:=#[.func (.yield (w.heap.size+1)) #[] #[]] },((w.alloc (.deferred (some []))).alloc (.loop r)),gf,#[.func (.yield (w.heap.size+1)) #[] #[]] ++ lb,((w.alloc (.deferred (some []))).alloc (.loop r)),
  run_enterLoop_outer _ _ _ _ _,?_,fun _ _=>trivial,?_,fun _=>h1,?_⟩
 ·simp only [resolve,hg]
  simp [go_sem]
 ·simp [invoke,go_sem,eg]
 ·refine(hseq (w.heap.size+1) (fun pre W=>I pre W/\Rc w.heap.size r W) (fun pre W=>∃ c,Ix c pre W/\Rc w.heap.size { r with state:=.done,pending:=some c } W) _ hB
   ?_ ?_ (fun pre V h=>hbd pre V h.1) ?_ ⟨hI.alloc _ (hI.alloc _ h0),hR⟩).mono ?_
  ·rw [hz]
   exact(kQ hI (by omega)).and (wI _)
  ·rw [hz]
   rintro pre A B row ⟨c,hi,hr⟩ hg hrow
   exact⟨c,kQ (hIx c) (by omega) pre A B row hi hg hrow,wI (β:=Unit) _ () A B row hr hg hrow⟩
  ·rw [hz]
   rintro pre x V ⟨hi,hr⟩ ht
   refine⟨fn,_,assign,body,run_yield hr.1 (hps x),roundIn_of_wpIn hfn (hassign _ pre x V _ hi ht ?_)⟩
   intro a' W' hb hax
   have hr':=hr.below hb
   refine⟨_,run_beginRound hr'.1 rfl,?_⟩
   have hr2:Rc w.heap.size { r with state:=.busy } (W'.putObj (w.heap.size+1) (.loop { r with state:=.busy })):=hr'.put _
   exact wpIn_mono (hbody _ pre x a' _ (hI.putObj _ (fJ hI hi hb) (by omega) hr'.1 rfl) ((hT pre x).putObj (s:=()) _ (fJ (hT pre x) (s:=()) ht hb) (by omega) hr'.1 rfl) ((hAx x a').putObj (s:=()) _ hax (by omega) hr'.1 rfl)) fun e a3 W3 hp=>
    aD5 (r:=r) hI hIx ((zT hb).trans (CKeep.put _ hr'.1 rfl)) hr2 ((lV hb).trans (iL _ _ (by omega))) hp
  ·rintro e V ⟨⟨v,rfl⟩,(⟨xs,hS,hi,hr⟩ | ⟨pre,hSp,c,hi,hr⟩)⟩
   ·exact⟨none,_,run_endLoop hr.1 (by simp [r]),hdone _ xs _ lz9 hS (hI.putObj _ hi (by omega) hr.1 rfl) ((World.putObj_heap_other (by omega)).trans hr.2)⟩
   ·exact⟨some c,_,run_endLoop hr.1 (by simp),hstop _ c pre _ lz9 hSp ((hIx c).putObj _ hi (by omega) hr.1 rfl) ((World.putObj_heap_other (by omega)).trans hr.2)⟩
end
theorem dA{W W':World}{row:Option Nat}{B:Nat}(hg:W.grownBy W' row)(hr:∀ r,row=some r->B<=r/\∃ o:Obj,W.heap[r]?=some o/\o.isCells=false){k:Nat}{cur:Array Value}{t:TypeId}{fr:Nat × Nat}(hc:W.heap[k]?=some (.cells cur t fr)) :
  W'.heap[k]?=some (.cells cur t fr):=by
 refine(hg.block k (aB hc) (fun e=>?_)).trans hc
 obtain⟨_,o,ho,hq⟩:=hr k e.symm
 rw [hc] at ho
 cases ho
 cases hq
theorem dP{N:Nat->Prop}{W W':World}{p:Addr}{v:Value}(h:CKeep N W W')(hp:N p.block)(hc:W.cell? p=some v):W'.cell? p=some v:=by
 unfold World.cell? at hc ⊢
 cases ho:W.heap[p.block]? with
 | none=>simp [ho] at hc
 | some o=>
  cases o with
  | cells cur t fr=>rw [h.same _ _ _ _ hp ho];rw [ho] at hc;exact hc
  | _=>simp [ho] at hc
end
theorem uL:Tryz.prog.underlying 23=some (.slice 25):=by kernel_rfl
theorem aM9:(Tryz.prog.info? 25).map (fun i=>(i.zero,i.size,i.bytes))=some (some (.agg #[.int .i64 0,.int .i64 0,.int .i64 0,.int .i64 0,.slice none 0 0,.slice none 0 0]),6,80):=by kernel_rfl
def Six(W:World)(g o:Nat)(f:Fl):Prop:=
 W.cell? ⟨g,o,none⟩=some (.int .i64 f.k)/\W.cell? ⟨g,o+1,none⟩=some (.int .i64 f.n)/\W.cell? ⟨g,o+2,none⟩=some (.int .i64 f.mn)/\W.cell? ⟨g,o+3,none⟩=some (.int .i64 f.mx)/\W.cell? ⟨g,o+4,none⟩=some (.slice f.rq f.rs.length f.rc)/\W.cell? ⟨g,o+5,none⟩=some (.slice f.kq f.kl f.kc)
theorem Six.ck{N:Nat->Prop}{W W':World}{g o:Nat}{f:Fl}(h:Six W g o f)(hc:CKeep N W W')(hg:N g):Six W' g o f:=
 ⟨dP hc (p:=⟨g,o,none⟩) hg h.1,dP hc (p:=⟨g,o+1,none⟩) hg h.2.1,dP hc (p:=⟨g,o+2,none⟩) hg h.2.2.1,dP hc (p:=⟨g,o+3,none⟩) hg h.2.2.2.1,dP hc (p:=⟨g,o+4,none⟩) hg h.2.2.2.2.1,dP hc (p:=⟨g,o+5,none⟩) hg h.2.2.2.2.2⟩
def ArgK(W:World)(v:Value)(ks:List Tr):Prop:=
 (∃ p cap,v=.slice p 0 cap/\ks=[]/\(p=none->cap=0))\/∃ g off cap,v=.slice (some ⟨g,off,none⟩) ks.length cap/\g < W.heap.size/\ks.length<=cap/\cap<=maxLen/\∀ (i:Nat) (t:Tr),ks[i]?=some t->Six W g (off+i * 6) t.f
theorem ArgK.slice{W:World}{v:Value}{ks:List Tr}(h:ArgK W v ks):∃ q cap,v=.slice q ks.length cap/\ks.length<=maxLen/\ks.length<=cap /\
  (∀ (i:Nat) (t:Tr),ks[i]?=some t->∃ g off,q=some ⟨g,off,none⟩/\g < W.heap.size/\Six W g (off+i * 6) t.f):=by
 rcases h with⟨p,cap,rfl,rfl,-⟩ | ⟨g,off,cap,rfl,h2,h3,h4,h5⟩
 ·exact⟨p,cap,rfl,m9 _,m9 _,fun i x hx=>by simp at hx⟩
 ·exact⟨_,cap,rfl,i8 h3 h4,h3,fun i x hx=>⟨g,off,rfl,h2,h5 i x hx⟩⟩
def CK(W W':World):Prop:=CKeep (fun k=>k < W.heap.size) W W'
theorem CK.of_below{W W':World}(h:Below W.heap.size W W'):CK W W':=⟨h.size,fun k _ _ _ _ hc=>(h.block k (aB hc)).trans hc⟩
theorem CK.trans{A B C:World}(h:CK A B)(k:CK B C):CK A C:=⟨i8 h.size k.size,fun i cur t fr hi hc=>k.same i cur t fr (i6 hi h.size) (h.same i cur t fr hi hc)⟩
theorem CK.step{A B C:World}(h:CK A B)(k:CKeep (fun i=>i < A.heap.size) B C):CK A C:=⟨i8 h.size k.size,fun i cur t fr hi hc=>k.same i cur t fr hi (h.same i cur t fr hi hc)⟩
theorem ArgK.ck{W W':World}{v:Value}{ks:List Tr}(h:ArgK W v ks)(hc:CK W W'):ArgK W' v ks:=by
 rcases h with h | ⟨g,off,cap,h1,h2,h3,h4,h5⟩
 ·exact .inl h
 ·exact .inr ⟨g,off,cap,h1,i6 h2 hc.size,h3,h4,fun i x hx=>(h5 i x hx).ck hc h2⟩
theorem ArgR.ck{W W':World}{v:Value}{L:List (Int × Int)}(h:ArgR W v L)(hc:CK W W'):ArgR W' v L:=by
 rcases h with h | ⟨g,off,cap,h1,h2,h3,h4,h5⟩
 ·exact .inl h
 ·exact .inr ⟨g,off,cap,h1,i6 h2 hc.size,h3,h4,fun i x hx=>⟨dP hc (p:=⟨g,off+2 * i,none⟩) h2 (h5 i x hx).1,dP hc (p:=⟨g,off+2 * i+1,none⟩) h2 (h5 i x hx).2⟩⟩
def NO(W:World)(t:Tr):Prop:=(∀ a,t.f.rq=some a->t.f.rs≠[]->∃ cur,W.heap[a.block]?=some (.cells cur 110 (0,0)))/\(∀ a,t.f.kq=some a->t.ks≠[]->∃ cur,W.heap[a.block]?=some (.cells cur 25 (0,0)))
structure NA(W:World)(t:Tr):Prop where
 r:ArgR W (.slice t.f.rq t.f.rs.length t.f.rc) t.f.rs
 k:ArgK W (.slice t.f.kq t.f.kl t.f.kc) t.ks
 fit:Fit t.f.rs
 len:t.f.rs.length+3<=8796093022208
 own:NO W t
def TA(W:World)(t:Tr):Prop:=bY (NA W) t
theorem nA{P Q:Tr->Prop}(h:∀ t,P t->Q t)(t:Tr):bY P t->bY Q t:=by
 refine Tr.ind (P:=fun t=>bY P t->bY Q t) (fun t ih he=>?_) t
 exact(bE t).2 ⟨h t ((bE t).1 he).1,(bX _).2 fun u hu=>ih u hu (bI he hu)⟩
structure NB(W:World)(t:Tr):Prop where
 r:ArgR W (.slice t.f.rq t.f.rs.length t.f.rc) t.f.rs
 k:ArgK W (.slice t.f.kq t.f.kl t.f.kc) t.ks
 fit:Fit t.f.rs
 len:t.f.rs.length+3<=8796093022208
theorem NB.ck{W W':World}{t:Tr}(h:NB W t)(hc:CK W W'):NB W' t:=⟨h.r.ck hc,h.k.ck hc,h.fit,h.len⟩
theorem NB.kl{W:World}{t:Tr}(h:NB W t):t.f.kl=t.ks.length:=by
 obtain⟨q,cap,e,-⟩:=h.k.slice
 injection e
def TB(W:World)(t:Tr):Prop:=bY (NB W) t
theorem TB.ck{W W':World}{t:Tr}(h:TB W t)(hc:CK W W'):TB W' t:=nA (fun _ q=>NB.ck q hc) t h
theorem TB.kept{W W':World}{t:Tr}(h:TB W t)(hb:Below W.heap.size W W'):TB W' t:=h.ck (CK.of_below hb)
theorem TB.node{W:World}{t:Tr}(h:TB W t):NB W t:=((bE t).1 h).1
theorem TB.kid{W:World}{t u:Tr}(h:TB W t)(hu:u∈t.ks):TB W u:=bI h hu
theorem TB.at{W:World}{t:Tr}(h:TB W t){p:Way}{z:El}(hz:z∈pp p t):TB W z.2:=oY t p h z hz
theorem TA.tb{W:World}{t:Tr}(h:TA W t):TB W t:=nA (fun _ q=>⟨q.r,q.k,q.fit,q.len⟩) t h
instance {W:World} {t:Tr}:Coe (TA W t) (TB W t):=⟨TA.tb⟩
def BoxN(W:World)(b:Nat)(f:Fl):Prop:=W.heap[b]?=some (.cells #[.int .i64 f.k,.int .i64 f.n,.int .i64 f.mn,.int .i64 f.mx,.slice f.rq f.rs.length f.rc,.slice f.kq f.kl f.kc] 25 (0,0))
theorem BoxN.six{W:World}{b:Nat}{f:Fl}(h:BoxN W b f):Six W b 0 f:=
 ⟨aA h (i:=0) rfl,aA h (i:=1) rfl,aA h (i:=2) rfl,aA h (i:=3) rfl,aA h (i:=4) rfl,aA h (i:=5) rfl⟩
section
abbrev dH(T:Type):=Fl->List Tr->List T->(Int->T)->T
def nZ{T:Type}(g:Int->T)(k:Int)(x:T):Int->T:=fun i=>if i=k then x else g i
theorem uK{T:Type}(g:Int->T)(k:Int)(x:T):nZ g k x k=x:=if_pos rfl
theorem nM{T:Type}(g:Int->T){k i:Int}(x:T)(h:i≠k):nZ g k x i=g i:=if_neg h
mutual
def ev{T:Type}(ρ:dH T):(Int->T)->Tr->T × (Int->T)
 | g,.mk f ks=>(ρ f ks (evs ρ g ks).1 (evs ρ g ks).2,if f.k=7 then nZ (evs ρ g ks).2 f.n (ρ f ks (evs ρ g ks).1 (evs ρ g ks).2) else (evs ρ g ks).2)
def evs{T:Type}(ρ:dH T):(Int->T)->List Tr->List T × (Int->T)
 | g,[]=>([],g)
 | g,t :: ts=>((ev ρ g t).1 :: (evs ρ (ev ρ g t).2 ts).1,(evs ρ (ev ρ g t).2 ts).2)
end
mutual
def evG{T:Type}(ρ:dH T)(G:Int->T):Tr->T
 | .mk f ks=>ρ f ks (qX ρ G ks) G
def qX{T:Type}(ρ:dH T)(G:Int->T):List Tr->List T
 | []=>[]
 | t :: ts=>evG ρ G t :: qX ρ G ts
end
variable {T:Type} {ρ:dH T}
theorem iV(g:Int->T)(t:Tr):(ev ρ g t).1=ρ t.f t.ks (evs ρ g t.ks).1 (evs ρ g t.ks).2:=by cases t;rw [ev];rfl
theorem jN(g:Int->T)(t:Tr):(ev ρ g t).2=if t.f.k=7 then nZ (evs ρ g t.ks).2 t.f.n (ev ρ g t).1 else (evs ρ g t.ks).2:=by cases t;rw [ev];rfl
theorem cX(g:Int->T):evs ρ g []=([],g):=by rw [evs]
theorem dX(g:Int->T)(t:Tr)(ts:List Tr):evs ρ g (t :: ts)=((ev ρ g t).1 :: (evs ρ (ev ρ g t).2 ts).1,(evs ρ (ev ρ g t).2 ts).2):=by rw [evs]
theorem aF2(a b:List Tr):∀ (g:Int->T),evs ρ g (a ++ b)=((evs ρ g a).1 ++ (evs ρ (evs ρ g a).2 b).1,(evs ρ (evs ρ g a).2 b).2):=by
 induction a with
 | nil=>intro g;rw [cX];rfl
 | cons t a ih=>intro g;rw [r9,dX,dX,ih];rfl
theorem gJ(ks:List Tr):∀ (g:Int->T),(evs ρ g ks).1.length=ks.length:=by
 induction ks with
 | nil=>intro g;rw [cX];rfl
 | cons t a ih=>intro g;rw [dX];simp [ih]
theorem dJ{ks:List Tr}{j:Nat}{u:Tr}(h:ks[j]?=some u)(g:Int->T) :
  (evs ρ g (ks.take (j+1))).1=(evs ρ g (ks.take j)).1 ++ [(ev ρ (evs ρ g (ks.take j)).2 u).1]/\(evs ρ g (ks.take (j+1))).2=(ev ρ (evs ρ g (ks.take j)).2 u).2:=by
 rw [o5,h,aAV,aF2,dX,cX]
 exact⟨rfl,rfl⟩
theorem qB(G:Int->T)(t:Tr):evG ρ G t=ρ t.f t.ks (qX ρ G t.ks) G:=by cases t;rw [evG];rfl
theorem sU(G:Int->T)(ks:List Tr):qX ρ G ks=ks.map (evG ρ G):=by
 induction ks with
 | nil=>rw [qX];rfl
 | cons t a ih=>rw [qX,ih];rfl
theorem bF6{NP:Tr->Prop}{Good:T->Prop}(hg:∀ t xs g,NP t->xs.length=t.ks.length->(∀ x∈xs,Good x)->(∀ i,Good (g i))->Good (ρ t.f t.ks xs g))(t:Tr):∀ g:Int->T,bY NP t->(∀ i,Good (g i))->Good (ev ρ g t).1/\∀ i,Good ((ev ρ g t).2 i):=by
 refine Tr.ind (P:=fun t=>∀ g:Int->T,bY NP t->(∀ i,Good (g i))->Good (ev ρ g t).1/\∀ i,Good ((ev ρ g t).2 i)) (fun t ih g he h0=>?_) t
 have hl:∀ (ks:List Tr) (g:Int->T),(∀ u∈ks,u∈t.ks)->(∀ i,Good (g i))->(∀ x∈(evs ρ g ks).1,Good x)/\∀ i,Good ((evs ρ g ks).2 i):=by
  intro ks
  induction ks with
  | nil=>intro g _ h;rw [cX];exact⟨fun x hx=>(by cases hx),h⟩
  | cons u us ih2=>
   intro g hs h
   obtain⟨a,b⟩:=ih u (hs u (m8 ..)) g (bI he (hs u (m8 ..))) h
   obtain⟨p,q⟩:=ih2 (ev ρ g u).2 (fun v hv=>hs v (n6 _ hv)) b
   rw [dX]
   refine⟨fun x hx=>?_,q⟩
   rcases aAW.1 hx with e | e
   ·rw [e];exact a
   ·exact p x e
 obtain⟨p,q⟩:=hl t.ks g (fun _ h=>h) h0
 have hx:Good (ev ρ g t).1:=by
  rw [iV]
  exact hg t _ _ ((bE t).1 he).1 (gJ _ _) p q
 refine⟨hx,fun i=>?_⟩
 rw [jN]
 split
 ·unfold nZ
  split
  ·exact hx
  ·exact q i
 ·exact q i
theorem eY{NP:Tr->Prop}{Good:T->Prop}(hg:∀ t xs g,NP t->xs.length=t.ks.length->(∀ x∈xs,Good x)->(∀ i,Good (g i))->Good (ρ t.f t.ks xs g)):∀ (ks:List Tr) (g:Int->T),(∀ u∈ks,bY NP u)->(∀ i,Good (g i))->(∀ x∈(evs ρ g ks).1,Good x)/\∀ i,Good ((evs ρ g ks).2 i)
 | [],g,_,h=>by rw [cX];exact⟨fun x hx=>(by cases hx),h⟩
 | u :: us,g,hs,h=>by
  obtain⟨a,b⟩:=bF6 hg u g (hs u (m8 ..)) h
  obtain⟨p,q⟩:=eY hg us (ev ρ g u).2 (fun v hv=>hs v (n6 _ hv)) b
  rw [dX]
  refine⟨fun x hx=>?_,q⟩
  rcases aAW.1 hx with e | e
  ·rw [e];exact a
  ·exact p x e
theorem cC{ks:List Tr}{j:Nat}{u:Tr}(h:ks[j]?=some u):szs (ks.take (j+1))=szs (ks.take j)+u.sz:=by
 have app:∀ a b:List Tr,szs (a ++ b)=szs a+szs b:=by
  intro a b
  induction a with
  | nil=>rw [fZ];simp
  | cons x a ih=>rw [r9,gA,gA,ih];omega
 rw [o5,h,aAV,app,gA,fZ]
 rfl
theorem eM(ks:List Tr):ks.length<=szs ks:=by
 induction ks with
 | nil=>simp
 | cons x a ih=>rw [gA,j8];have:=eV x;omega
theorem pP(ks:List Tr)(j:Nat):szs (ks.take j)<=szs ks:=by
 have app:∀ a b:List Tr,szs (a ++ b)=szs a+szs b:=by
  intro a b
  induction a with
  | nil=>rw [fZ];simp
  | cons x a ih=>rw [r9,gA,gA,ih];omega
 have:=app (ks.take j) (ks.drop j)
 rw [aBG] at this
 omega
end
def bP8(v:Value):Option (DataW Value × List MemPlace):=some (.held v,[])
def MapV(w:World)(z:Value)(b n:Nat)(g:Int->Value):Prop:=
 ∃ D:DataW Value,w.ownsMap Tryz.prog 3 bP8 b n D/\Maps.IsMap D/\∀ i:Int,D.atKey (.int .i64 i) (.held z)=.held (g i)
theorem mO:Tryz.prog.underlying 3=some (.int .i64):=by kernel_rfl
theorem MapV.made(w:World)(z:Value):MapV (w.alloc (.map #[] 0)) z w.heap.size 0 (fun _=>z):=
 ⟨.map [],World.ownsMap_made w _ _ _,Maps.isMap_empty,fun _=>rfl⟩
theorem MapV.lt{w:World}{z:Value}{b n:Nat}{g:Int->Value}(h:MapV w z b n g):b < w.heap.size:=by
 obtain⟨D,h1,-⟩:=h
 exact h1.lt
theorem MapV.block{w:World}{z:Value}{b n:Nat}{g:Int->Value}(h:MapV w z b n g):∃ es clock,w.heap[b]?=some (.map es clock):=by
 obtain⟨D,⟨es,clock,hb,-⟩,-⟩:=h
 exact⟨es,clock,hb⟩
theorem MapV.mono{w:World}{z:Value}{b n m:Nat}{g:Int->Value}(h:MapV w z b n g)(hm:n<=m):MapV w z b m g:=by
 obtain⟨D,h1,h2⟩:=h
 exact⟨D,h1.mono hm,h2⟩
theorem MapV.same{w w':World}{z:Value}{b n:Nat}{g:Int->Value}(h:MapV w z b n g)(hb:w'.heap[b]?=w.heap[b]?):MapV w' z b n g:=by
 obtain⟨D,⟨es,clock,h1,h2⟩,h3⟩:=h
 exact⟨D,⟨es,clock,hb.trans h1,h2⟩,h3⟩
theorem MapV.kept{w w':World}{z:Value}{b n:Nat}{g:Int->Value}(h:MapV w z b n g)(hb:Below w.heap.size w w'):MapV w' z b n g:=h.same (hb.block b h.lt)
theorem MapV.fr{S:Nat->Prop}{w w':World}{z:Value}{b n:Nat}{g:Int->Value}(h:MapV w z b n g)(hf:Fr S w w')(hs:¬ S b):MapV w' z b n g:=h.same (hf.block b h.lt hs)
theorem MapV.look{w:World}{z:Value}{b n:Nat}{g:Int->Value}(h:MapV w z b n g){t e:TypeId}(ht:Tryz.prog.underlying t=some (.map 3 e))(hz:(zeroValue e).run Tryz.prog w=.ok z w){i:Int}(hi:(Lit.int .i64 i).wf=true) :
  (Instr.lookup t (.map (some b)) (.int .i64 i) false).run Tryz.prog w=.ok (g i) w:=by
 obtain⟨D,h1,h2,h3⟩:=h
 obtain⟨v,ps,r1,r2⟩:=h1.lookup (Maps.int_keyed mO) ht hz (zd:=.held z) (zp:=[]) rfl (Maps.keyOf_int_mk mO hi)
 rw [h3 i] at r2
 have r3:(DataW.held v:DataW Value)=.held (g i):=congrArg Prod.fst (aAP r2)
 have r4:v=g i:=DataW.held.inj r3
 exact r4 ▸ r1
theorem MapV.store{w:World}{z:Value}{b n:Nat}{g:Int->Value}(h:MapV w z b n g){t e:TypeId}(ht:Tryz.prog.underlying t=some (.map 3 e))(hn:n < maxLen){i:Int}(hi:(Lit.int .i64 i).wf=true)(v:Value) :
  ∃ w',(Instr.mapUpdate t (.map (some b)) (.int .i64 i) v).run Tryz.prog w=.ok () w'/\MapV w' z b (n+1) (nZ g i v)/\w.grownBy w' (some b):=by
 obtain⟨D,h1,h2,h3⟩:=h
 obtain⟨w',r1,r2,r3⟩:=h1.update (Maps.int_keyed mO) ht hn (val:=v) (d:=.held v) (ps:=[]) (Maps.keyOf_int_mk mO hi) rfl
 refine⟨w',r1,⟨_,r2,h2.put _ _,fun j=>?_⟩,r3⟩
 by_cases hj:j=i
 ·subst hj
  rw [Maps.atKey_put_same h2 (show WideAt.IsKeyLit (.int .i64 j) from trivial),uK]
 ·rw [Maps.atKey_put_other (fun e=>hj (by injection e)),nM _ _ hj,h3 j]
theorem nJ(w:World){ops:Array Oper}{rest:List Oper}{o:Oper}{a:Act}{Q:Exit->Act->World->Prop}(hg:o.guard=none)(m x:Operand)(t:TypeId)(hop:o.op=Op.lookup t m x false)(e:TypeId)
  (ht:Tryz.prog.underlying t=some (.map 3 e)) (z:Value) (b n:Nat) (g:Int->Value) (hm:a.eval m=.map (some b)) (h:MapV w z b n g) (hz:(zeroValue e).run Tryz.prog w=.ok z w) (i:Int) (hx:a.eval x=.int .i64 i) (hi:(Lit.int .i64 i).wf=true)
  (hK:wpList Tryz.prog ops Q rest (a.put o.dst (g i)) w):wpList Tryz.prog ops Q (o :: rest) a w:=by
 refine wpList_plain hg fun K' hK'=>?_
 have hrun:=h.look ht hz hi
 unfold Oper.wp
 simp [execOp,hop,hm,hx,hrun,Result.andThen]
 exact hK' _ _ hK
theorem eU(w:World){ops:Array Oper}{rest:List Oper}{o:Oper}{a:Act}{Q:Exit->Act->World->Prop}(hg:o.guard=none)(m x y:Operand)(t:TypeId)(hop:o.op=Op.mapUpdate t m x y)(e:TypeId)
  (ht:Tryz.prog.underlying t=some (.map 3 e)) (z:Value) (b n:Nat) (g:Int->Value) (hm:a.eval m=.map (some b)) (h:MapV w z b n g) (hn:n < maxLen) (i:Int) (hx:a.eval x=.int .i64 i) (hi:(Lit.int .i64 i).wf=true) (v:Value) (hy:a.eval y=v)
  (hK:∀ w',MapV w' z b (n+1) (nZ g i v)->w.grownBy w' (some b)->wpList Tryz.prog ops Q rest (a.put o.dst undef) w'):wpList Tryz.prog ops Q (o :: rest) a w:=by
 refine wpList_plain hg fun K' hK'=>?_
 obtain⟨w',hrun,r1,r2⟩:=h.store ht hn hi v
 unfold Oper.wp
 simp [execOp,hop,hm,hx,hy,hrun,Result.andThen]
 exact hK' _ _ (hK w' r1 r2)
abbrev bx(b:Nat):Value:=.pointer (some ⟨b,0,none⟩)
theorem wV{w w':World}{b:Nat}(h:∃ es clock,w.heap[b]?=some (.map es clock))(hf:Fr (fun k=>k=b) w w'):CK w w':=
 ⟨hf.size,fun k cur t fr _ hc=>(hf.block k (aB hc) (fun e=>by
  obtain⟨es,clock,hb⟩:=h
  rw [e,hb] at hc
  cases hc)).trans hc⟩
structure TW(GF OF RF GT OT RT MT:Nat)(w:World)(bm bg bo br bp bb:Nat)(c f:Bool):Prop where
 m:w.heap[bm]?=some (.cells #[.bool c,.bool f] 27 (0,0))
 g:w.heap[bg]?=some (.cells #[.func (.func GF) #[] #[bx bp]] GT (0,0))
 o:w.heap[bo]?=some (.cells #[.func (.func OF) #[] #[bx bm,bx bg,bx bo,bx br,bx bp]] OT (0,0))
 r:w.heap[br]?=some (.cells #[.func (.func RF) #[] #[]] RT (0,0))
 p:w.heap[bp]?=some (.cells #[.map (some bb)] MT (0,0))
theorem TW.ck{GF OF RF GT OT RT MT:Nat}{w w':World}{bm bg bo br bp bb:Nat}{c f:Bool}(h:TW GF OF RF GT OT RT MT w bm bg bo br bp bb c f)(hc:CK w w'):TW GF OF RF GT OT RT MT w' bm bg bo br bp bb c f:=
 ⟨hc.same _ _ _ _ (aB h.m) h.m,hc.same _ _ _ _ (aB h.g) h.g,hc.same _ _ _ _ (aB h.o) h.o,hc.same _ _ _ _ (aB h.r) h.r,hc.same _ _ _ _ (aB h.p) h.p⟩
def dE(f:Fl)(c o:Bool)(v:Value)(g:Value):Array Value:=#[.int .i64 f.k,.int .i64 f.n,.int .i64 f.mn,.int .i64 f.mx,.slice f.rq f.rs.length f.rc,.slice f.kq f.kl f.kc,.bool c,.bool o,v,g]
def Wr2(b s:Nat):Nat->Prop:=fun k=>k=b\/k=s
theorem fQ{w W wr:World}{b s:Nat}(h:∃ es clock,W.heap[b]?=some (.map es clock))(hs:w.heap.size<=s)(hB:Below w.heap.size w W)(hf:Fr (Wr2 b s) W wr):CK w wr:=
 ⟨i8 hB.size hf.size,fun k cur t fr hk hc=>by
  have h1:=(hB.block k hk).trans hc
  refine(hf.block k (aB h1) ?_).trans h1
  rintro (e | e)
  ·obtain⟨es,clock,hb⟩:=h
   rw [e,hb] at h1
   cases h1
  ·omega⟩
theorem sT{w W wr:World}{b s:Nat}(hs:w.heap.size<=s)(hB:Below w.heap.size w W)(hf:Fr (Wr2 b s) W wr):Fr (fun k=>k=b) w wr:=
 ⟨hf.os.trans hB.os,hf.tape.trans hB.tape,hf.output.trans hB.output,i8 hB.size hf.size,fun k hk hn=>(hf.block k (i6 hk hB.size) (fun z=>by
  rcases z with e | e
  ·exact hn e
  ·omega)).trans (hB.block k hk)⟩
theorem rS{T:Type}(en:T->Value)(g:Int->T)(k:Int)(x:T):nZ (fun i=>en (g i)) k (en x)=fun i=>en (nZ g k x i):=by
 funext i
 unfold nZ
 split <;> rfl
def bD(W:World)(b:Nat):Nat->List Value->World
 | _,[]=>W
 | o,v :: vs=>bD (W.setCell ⟨b,o,none⟩ v) b (o+1) vs
theorem aV(b:Nat):∀ (vs:List Value) (o:Nat) (W:World),Fr (fun k=>k=b) W (bD W b o vs)
 | [],_,W=>Fr.refl _ W
 | v :: vs,o,W=>((Fr.refl (fun k=>k=b) W).setCell (p:=⟨b,o,none⟩) rfl v).trans (aV b vs (o+1) _)
theorem uU(b:Nat)(t:TypeId):∀ (vs pre:List Value) (W:World) (cs:List Value),W.heap[b]?=some (.cells (pre ++ cs).toArray t (0,0))->cs.length=vs.length->(bD W b pre.length vs).heap[b]?=some (.cells (pre ++ vs).toArray t (0,0))
 | [],pre,W,cs,h,hl=>by
  have:cs=[]:=o3 hl
  subst this
  exact h
 | v :: vs,pre,W,[],h,hl=>by simp at hl
 | v :: vs,pre,W,c :: cs,h,hl=>by
  have h1:=aO h pre.length v
  have h2:=uU b t vs (pre ++ [v]) (W.setCell ⟨b,pre.length,none⟩ v) cs (by rw [h1];simp) (by simpa using hl)
  rw [m7,aBS] at h2
  simpa [bD] using h2
theorem bA{W:World}{b:Nat}{t:TypeId}{cs:Array Value}(h:W.heap[b]?=some (.cells cs t (0,0)))(vs:List Value)(hl:cs.size=vs.length):(bD W b 0 vs).heap[b]?=some (.cells vs.toArray t (0,0)):=
 uU b t vs [] W cs.toList (by simpa using h) (by simpa using hl)
theorem lY{S:Nat->Prop}{a b c:World}{x:Nat}(h:Fr S a b)(k:Fr (fun z=>z=x) b c)(hx:a.heap.size<=x):Fr S a c:=
 ⟨k.os.trans h.os,k.tape.trans h.tape,k.output.trans h.output,i8 h.size k.size,fun i hi hs=>(k.block i (i6 hi h.size) (by omega)).trans (h.block i hi hs)⟩
theorem Fr.grownNew{S:Nat->Prop}{a w w':World}{row:Option Nat}(h:Fr S a w)(hg:w.grownBy w' row)(hr:∀ k,row=some k->a.heap.size<=k):Fr S a w':=
 ⟨hg.os.trans h.os,hg.tape.trans h.tape,hg.output.trans h.output,i8 h.size hg.size,fun k hk hs=>(hg.block k (i6 hk h.size) (fun e=>by have:=hr k e.symm;omega)).trans (h.block k hk hs)⟩
theorem cR(W:World)(cs:List Value)(t:TypeId):∀ (j:Nat) (u:Value),cs[j]?=some u->(W.alloc (.cells cs.toArray t)).cell? ((⟨W.heap.size,0,none⟩:Addr).add j)=some u:=by
 intro j u h
 have hadd:(⟨W.heap.size,0,none⟩:Addr).add j=⟨W.heap.size,j,none⟩:=by unfold Addr.add;split <;> simp_all
 rw [hadd]
 exact aA (aE W (.cells cs.toArray t)) (i:=j) (by simpa using h)
theorem bS{w:World}{base:Nat}{e:TypeId}{size n b:Nat}{v:Value}{xs:List Value}(h:w.ownsRow base e size v n xs)(hb:∃ es cl,w.heap[b]?=some (.map es cl)):v.ownBlock≠some b:=fun q=>by
 obtain⟨_,_,cur,hc⟩:=aH h q
 obtain⟨es,cl,hm⟩:=hb
 rw [hm] at hc
 cases hc
theorem aK{w:World}{k:Nat}(o:Obj)(h:k=w.heap.size):(w.alloc o).heap[k]?=some o:=by rw [h];exact aE w o
theorem kW{α:Type}(f:α->List Value)(N:Nat)(hf:∀ x,(f x).length=N):∀ (xs:List α) (i:Nat) (x:α),xs[i]?=some x->∀ j,j < N->(xs.flatMap f)[i * N+j]?=(f x)[j]?
 | [],i,x,h,_,_=>by simp at h
 | y :: ys,0,x,h,j,hj=>by
  simp at h
  subst h
  rw [aBA,aAK,g8,o4 (by rw [hf];exact hj)]
 | y :: ys,i+1,x,h,j,hj=>by
  rw [aBA,aAB (by rw [hf,Nat.add_mul];omega),hf,show (i+1) * N+j - N=i * N+j by rw [Nat.add_mul];omega]
  exact kW f N hf ys i x (by simpa using h) j hj
def top(m:Bool):Int:=if m then 1114111 else 255
def bP(m:Bool)(c:Int):Prop:=0<=c/\c<=top m/\(m=true->c < 55296\/57343 < c)
def dR(m:Bool):List (Int × Int):=if m then [(0,55295),(57344,1114111)] else [(0,255)]
theorem kE(m:Bool):IsC (dR m) (bP m):=by
 cases m with
 | true=>
  refine⟨⟨by simp [dR],by simp [dR]⟩,fun r hr=>?_,fun c=>?_⟩
  ·simp [dR] at hr
   rcases hr with rfl | rfl <;> simp
  ·simp [dR,In,bP,top]
   omega
 | false=>
  refine⟨⟨by simp [dR],by simp [dR]⟩,fun r hr=>?_,fun c=>?_⟩
  ·simp [dR] at hr
   subst hr;simp
  ·simp [dR,In,bP,top]
theorem jO(m:Bool):(dR m).length<=2:=by cases m <;> simp [dR]
theorem bH7(m:Bool)(w:World):Calls Tryz.prog 217 #[.bool m] w fun e w'=>e=.returned (.int .i64 (top m))/\w'=w:=by
 cases m with
 | true=>
  go_enter Tryz.func217,Tryz.ntmps217
  go_wp2
  go_ret
  exact⟨rfl,rfl⟩
 | false=>
  go_enter Tryz.func217,Tryz.ntmps217
  go_wp2
  go_ret
  exact⟨rfl,rfl⟩
theorem bG4(m:Bool)(w:World):Calls Tryz.prog 212 #[.bool m] w fun e w'=>∃ v,e=.returned v/\RR w.heap.size w' v (dR m)/\Below w.heap.size w w':=by
 cases m with
 | true=>
  go_enter Tryz.func212,Tryz.ntmps212
  go_wp2_with (go_at_call 217;refine(bH7 _ _).mono ?_;rintro e w5 ⟨rfl,h5⟩;subst w5)
  go_ret
  exact⟨_,rfl,World.ownsRow_lit w #[.int .i64 0,.int .i64 55295,.int .i64 57344,.int .i64 1114111] 2 lz9 (by unfold maxLen;omega) rfl,bz9⟩
 | false=>
  go_enter Tryz.func212,Tryz.ntmps212
  go_wp2_with (go_at_call 217;refine(bH7 _ _).mono ?_;rintro e w5 ⟨rfl,h5⟩;subst w5)
  go_ret
  exact⟨_,rfl,World.ownsRow_lit w #[.int .i64 0,.int .i64 255] 1 lz9 (by unfold maxLen;omega) rfl,bz9⟩
end Go.Proofs.YtlaimbkenbijeaaGreatDoor
