/-
  Parts of the proof.
-/
import Derived.Test.YtliflleaeimngaaLongestProofNA0
import Derived.Test.YtliflleaeimngaaLongestProofNB4
import Derived.Deep.RegionLaw
import Derived.LaidMore
set_option linter.unusedSimpArgs false
namespace Go.Proofs.Ytliflleaeimngaa
open Go Go.RowKit
attribute [local go_sem] Oper.semAt_some
theorem lM:(Try.prog.info? 47).map (fun i=>(i.zero,i.size,i.bytes))=some (some (.agg #[.int .i64 0,.int .i64 0,.int .i64 0,.int .i64 0,.int .i64 0,.int .i64 0,.int .u64 0,.int .u64 0,.int .u64 0,.int .u64 0]),10,80):=by kernel_rfl
theorem uK(W:World)(cs:List Value)(t:TypeId):∀ (j:Nat) (u:Value),cs[j]?=some u->(W.alloc (.cells cs.toArray t)).cell? ((⟨W.heap.size,0,none⟩:Addr).add j)=some u:=fun j u hj=>by
 have e2:(⟨W.heap.size,0,none⟩:Addr).add j=⟨W.heap.size,j,none⟩:=by
  unfold Addr.add
  split
  ·next hz=>simp_all
  ·simp
 rw [e2]
 exact aA (aE W _) (by simpa using hj)
abbrev At1(b:Nat):Nat->Prop:=fun k=>k=b
theorem kQ(W:World)(g:Nat)(a0 a1 a2 a3:Value):Fr (At1 g) W ((((W.setCell ⟨g,0,none⟩ a0).setCell ⟨g,1,none⟩ a1).setCell ⟨g,2,none⟩ a2).setCell ⟨g,3,none⟩ a3):=
 Fr.setCell (S:=At1 g) (Fr.setCell (S:=At1 g) (Fr.setCell (S:=At1 g) (Fr.setCell (S:=At1 g) (Fr.refl _ _) (p:=⟨g,0,none⟩) rfl _) (p:=⟨g,1,none⟩) rfl _) (p:=⟨g,2,none⟩) rfl _) (p:=⟨g,3,none⟩) rfl _
def bM(L:List Ins):List Value:=L.flatMap inC
theorem dB(L:List Ins):(bM L).length=L.length*10:=by
 induction L with
 | nil=>rfl
 | cons x L ih=>simp only [bM,List.flatMap_cons,List.length_append,List.length_cons] at ih ⊢;rw [ih,cL];omega
theorem dS(L M:List Ins):bM (L++M)=bM L++bM M:=by simp [bM]
theorem eS{L:List Ins}{j:Nat}{i:Ins}(h:L[j]?=some i)(m:Nat)(v:Value)(hm:(inC i)[m]?=some v):(bM L)[j*10+m]?=some v:=by
 induction L generalizing j with
 | nil=>cases h
 | cons x L ih=>
  have hm10:m<10:=by have:=(f7.1 hm).1;rwa [cL] at this
  cases j with
  | zero=>
   cases h
   show (inC i++bM L)[0*10+m]?=some v
   rw [l4 (by rw [cL];omega),Nat.zero_mul,Nat.zero_add]
   exact hm
  | succ j=>
   show (inC x++bM L)[(j+1)*10+m]?=some v
   rw [o3 (by rw [cL];omega),cL,show (j+1)*10+m-10=j*10+m by omega]
   exact ih h
theorem LI.of_row{w:World}{base c n:Nat}{q:Option Addr}{L:List Ins}(h:w.ownsRow base 47 10 (.slice q n c) n (bM L)):LI w q L:=fun j i hi=>by
 rcases h.2 with⟨e,hn⟩ | ⟨g,cap,cur,e,h1,h2,h3,h4,h5,h6⟩
 ·have:=h.1
  rw [dB,hn] at this
  have:=(f7.1 hi).1
  omega
 ·cases e
  refine⟨g,0,rfl,aC h2,fun m v hm=>?_⟩
  have h8:=h.cells (g:=g) rfl (j*10+m) v (eS hi m v hm)
  rw [Nat.zero_add]
  have e2:(⟨g,0,none⟩:Addr).add (j*10+m)=⟨g,j*10+m,none⟩:=by
   unfold Addr.add
   split
   ·next hz=>simp_all
   ·simp
  rw [e2] at h8
  exact h8
theorem LI.newsL{w:World}{ad:Addr}{L:List Ins}(h:LI w (some ad) L)(hn:L≠[]):∃ g o,ad=⟨g,o,none⟩/\g<w.heap.size/\∀ j u,(bM L)[j]?=some u->w.cell? ⟨g,o+j,none⟩=some u:=by
 obtain⟨x,r,rfl⟩:=List.exists_cons_of_ne_nil hn
 obtain⟨g,o,h1,h2,_⟩:=h 0 x rfl
 obtain rfl:=Option.some.inj h1
 refine⟨g,o,rfl,h2,fun j u hj=>?_⟩
 have hjl:j<(x :: r).length*10:=by have:=(f7.1 hj).1;rwa [dB] at this
 have hq:j/10<(x :: r).length:=by omega
 obtain⟨i,hi⟩:∃ i,(x :: r)[j/10]?=some i:=⟨_,j4 hq⟩
 obtain⟨g',o',e,_,h3⟩:=h (j/10) i hi
 obtain⟨rfl,rfl⟩:g=g'/\o=o':=by have:=Option.some.inj e;cases this;exact⟨rfl,rfl⟩
 have hm:j%10<(inC i).length:=by rw [cL];omega
 have h4:=eS hi (j%10) _ (j4 hm)
 rw [show j/10*10+j%10=j by omega,hj] at h4
 have h5:=h3 (j%10) _ (j4 hm)
 rw [show o+j/10*10+j%10=o+j by omega,<- Option.some.inj h4] at h5
 exact h5
theorem LI.news{w:World}{ad:Addr}{L:List Ins}(h:LI w (some ad) L):∀ j u,(bM L)[j]?=some u->w.cell? (ad.add j)=some u:=fun j u hj=>by
 by_cases hn:L=[]
 ·rw [hn] at hj;cases hj
 ·obtain⟨g,o,rfl,_,h3⟩:=h.newsL hn
  have e2:(⟨g,o,none⟩:Addr).add j=⟨g,o+j,none⟩:=by
   unfold Addr.add
   split
   ·next hz=>simp_all
   ·simp
  rw [e2]
  exact h3 j u hj
theorem eL{w:World}{base:Nat}{e:TypeId}{size n:Nat}{v:Value}{xs:List Value}(h:w.ownsRow base e size v n xs)(hn:0<n):∃ g c,v=.slice (some ⟨g,0,none⟩) n c/\n<=c:=by
 rcases h.2 with⟨_,hz⟩ | ⟨g,cap,cur,hv,_,_,h3,_⟩
 ·omega
 ·exact⟨g,cap,hv,h3⟩
theorem pD(L:List Ins):∀ v∈bM L,v.oneCell'=true:=fun v hv=>by
 obtain⟨i,_,hi⟩:=List.mem_flatMap.1 hv
 exact sD i v hi
def mkI:Ins:=⟨-7,0,0,0,0,0,0#256⟩
theorem fX:bM [mkI,mkI]=[.int .i64 (-7),.int .i64 0,.int .i64 0,.int .i64 0,.int .i64 0,.int .i64 0,.int .u64 0,.int .u64 0,.int .u64 0,.int .u64 0,.int .i64 (-7),.int .i64 0,.int .i64 0,.int .i64 0,.int .i64 0,.int .i64 0,.int .u64 0,.int .u64 0,.int .u64 0,.int .u64 0]:=by simp [bM,inC,mkI,bG]
theorem tE{w:World}{base c n:Nat}{q:Option Addr}{L:List Ins}(h:w.ownsRow base 47 10 (.slice q n c) n (bM L++[.int .i64 (-7),.int .i64 0,.int .i64 0,.int .i64 0,.int .i64 0,.int .i64 0,.int .u64 0,.int .u64 0,.int .u64 0,.int .u64 0,.int .i64 (-7),.int .i64 0,.int .i64 0,.int .i64 0,.int .i64 0,.int .i64 0,.int .u64 0,.int .u64 0,.int .u64 0,.int .u64 0])):LI w q L:=fun j i hi=>by
 rw [<- fX,<- dS] at h
 exact LI.of_row h j i (by rw [l4 (f7.1 hi).1];exact hi)
abbrev wA(w:World)(p:Pg):World:=(w.alloc (.cells #[.slice p.q p.L.length p.c,.int .i64 p.g,.int .i64 p.k,.bool p.f] 24)).alloc (.cells #[.slice none 0 0,.int .i64 0,.int .i64 0,.bool false] 24)
end Go.Proofs.Ytliflleaeimngaa
