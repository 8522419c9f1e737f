/-
  Parts of the proof.
-/
import Derived.Test.YtliflleaeimngaaGreatDoorRightsProofA0
import Derived.Test.YtliflleaeimngaaGreatDoorRightsProofB20
import Derived.Deep.RegionLaw
import Derived.Test.YtliflleaeimngaaGreatDoorRightsProofB2
import Derived.Test.YtliflleaeimngaaGreatDoorRightsProofB21
import Derived.Laws.OwnMore
import Derived.Recover
import Derived.Test.YtliflleaeimngaaGreatDoorRightsProofB5
import Derived.Deep.LoopGhost
set_option linter.unusedSimpArgs false
set_option maxRecDepth 100000
set_option maxHeartbeats 8000000
namespace Go.Proofs.YtliflleaeimngaaGreatDoor
open Go Go.RowKit
section
set_option linter.unusedVariables false
attribute [local go_sem] Oper.semAt_some
def LeR(w:World)(p:Pg)(e:Ending)(w':World):Prop:=∃ g c,e=.returned (.agg #[.slice (some ⟨g,0,none⟩) p.L.length c,.int .i64 p.g,.int .i64 p.k,.bool p.f])/\w'.ownsRow w.heap.size 54 10 (.slice (some ⟨g,0,none⟩) (p.L.length+2) c) (p.L.length+2) (bC (p.L++[mkI,mkI]))/\wBl w w'
theorem aA9{w:World}{p:Pg}(hp:PgI w p)(hb:p.L.length*80+160<=140737488355328)(hqc:p.q=none->p.c=0):Calls Tryz.prog 5 #[.agg #[.slice p.q p.L.length p.c,.int .i64 p.g,.int .i64 p.k,.bool p.f]] w (LeR w p):=by
 have B1:Hid (wBl w (wA w p)):=(bz9).alloc (by simp) _
 have X1:Hid ((wA w p).heap[w.heap.size]?=some (.cells #[.slice p.q p.L.length p.c,.int .i64 p.g,.int .i64 p.k,.bool p.f] 24 (0,0))):=(Below.heap_alloc _ _ _ (by simp)).trans (aE w _)
 have Y1:Hid ((wA w p).heap[w.heap.size+1]?=some (.cells #[.slice none 0 0,.int .i64 0,.int .i64 0,.bool false] 24 (0,0))):=aD (by have:=aE (w.alloc (.cells #[.slice p.q p.L.length p.c,.int .i64 p.g,.int .i64 p.k,.bool p.f] 24)) (.cells #[.slice none 0 0,.int .i64 0,.int .i64 0,.bool false] 24);rw [r7] at this;exact this)
 have HP:=aD (hp.kept B1.o)
 obtain⟨t0,ti,tz0,tz1,tz2⟩:=info_parts jJ
 clear hp
 go_enter Tryz.func5,Tryz.ntmps5
 go_upto_region 1 with fail
 have e0:(w.alloc (.cells #[.slice p.q p.L.length p.c,.int .i64 p.g,.int .i64 p.k,.bool p.f] 24)).alloc (.cells #[.slice none 0 0,.int .i64 0,.int .i64 0,.bool false] 24)=wA w p:=rfl
 generalize (w.alloc (.cells #[.slice p.q p.L.length p.c,.int .i64 p.g,.int .i64 p.k,.bool p.f] 24)).alloc (.cells #[.slice none 0 0,.int .i64 0,.int .i64 0,.bool false] 24)=w1 at e0 ⊢
 rw [<- e0] at B1 X1 Y1 HP
 clear e0
 have l1:=aC X1.o
 have p0:w1.cell? ⟨w.heap.size,0,none⟩=some (.slice p.q p.L.length p.c):=aA X1.o (i:=0) rfl
 go_cut [3] (fun u wx=>w1.heap.size<=wx.heap.size/\wx.ownsRow w1.heap.size 54 10 u p.L.length (bC p.L)/\wBl w1 wx)
 case first=>
  obtain hq | ⟨ad,hq⟩:p.q=none\/∃ ad,p.q=some ad:=by cases p.q <;> simp
  ·have hc:=hqc hq
   have hL:p.L=[]:=by
    cases hl:p.L with
    | nil=>rfl
    | cons x r=>
     obtain⟨g,o,e,_⟩:=HP.o.li 0 x (by rw [hl];rfl)
     rw [hq] at e
     cases e
   rw [hq,hL,hc] at p0
   have OV:Hid (w1.ownsRow w1.heap.size 54 10 (.slice none 0 0) 0 []):=j8 _ _ _ _
   have HL:=aD hL
   clear hq hc hL hqc
   go_wp2_with (at_builtin;refine wpList_append_own_none rfl _ _ 22 rfl w1.heap.size 54 t0 10 fD ti (.slice none 0 0) 0 [] rfl OV.o rfl ?_)
   go_meet
   exact⟨j9 _,by rw [HL.o];exact OV.o,Below.refl _ _⟩
  ·rw [hq] at p0
   have NW:Hid (∀ j u,(bC p.L)[j]?=some u->w1.cell? (ad.add j)=some u):=aD (LI.news (hq ▸ HP.o.li))
   clear hq hqc
   go_wp2_with (at_builtin;refine wpList_append_own_at _ rfl _ _ 22 rfl w1.heap.size 54 t0 (.agg #[.int .i64 0,.int .i64 0,.int .i64 0,.int .i64 0,.int .i64 0,.int .i64 0,.int .u64 0,.int .u64 0,.int .u64 0,.int .u64 0]) 10 80 fD ti tz0 tz1 tz2 rfl (by decide) (.slice none 0 0) 0 [] rfl (j8 _ _ _ _) ad p.L.length p.c (bC p.L) rfl (cY _) NW.o (vP _) (by unfold maxLen;omega) (by omega) lz9 ?_;intro v6 W6 hown hgrow _ hblk)
   have HG:=aD hgrow
   have HO:=aD hown
   clear hown hgrow hblk
   go_wp2
   go_meet
   refine⟨HG.o.size,?_,(Below.refl _ _).grown HG.o lz9 (fun k hk=>by cases hk)⟩
   have:=HO.o
   rw [Nat.zero_add,l9] at this
   exact this
 case rest=>
  obtain⟨h1,h2,h3⟩:=hcut
  obtain⟨q1,c1,rfl⟩:=aK h2
  have BA:wBl wc (wc.alloc (.cells #[.int .i64 (-7),.int .i64 0,.int .i64 0,.int .i64 0,.int .i64 0,.int .i64 0,.int .u64 0,.int .u64 0,.int .u64 0,.int .u64 0] 54)):=bz9
  have B3:Hid (wBl w (wc.alloc (.cells #[.int .i64 (-7),.int .i64 0,.int .i64 0,.int .i64 0,.int .i64 0,.int .i64 0,.int .u64 0,.int .u64 0,.int .u64 0,.int .u64 0] 54))):=aD (aF (aF B1.o h3 lz9) BA lz9)
  have R3:Hid ((wc.alloc (.cells #[.int .i64 (-7),.int .i64 0,.int .i64 0,.int .i64 0,.int .i64 0,.int .i64 0,.int .u64 0,.int .u64 0,.int .u64 0,.int .u64 0] 54)).ownsRow w1.heap.size 54 10 (.slice q1 p.L.length c1) p.L.length (bC p.L)):=i9 h2 _
  have M3:Hid ((wc.alloc (.cells #[.int .i64 (-7),.int .i64 0,.int .i64 0,.int .i64 0,.int .i64 0,.int .i64 0,.int .u64 0,.int .u64 0,.int .u64 0,.int .u64 0] 54)).heap[wc.heap.size]?=some (.cells #[.int .i64 (-7),.int .i64 0,.int .i64 0,.int .i64 0,.int .i64 0,.int .i64 0,.int .u64 0,.int .u64 0,.int .u64 0,.int .u64 0] 54 (0,0))):=aE wc _
  have X3:=aD ((BA.block _ (j5 l1 h1)).trans ((h3.block _ l1).trans X1.o))
  have Y3:=aD ((BA.block _ (j5 (aC Y1.o) h1)).trans ((h3.block _ (aC Y1.o)).trans Y1.o))
  have szc:(wc.alloc (.cells #[.int .i64 (-7),.int .i64 0,.int .i64 0,.int .i64 0,.int .i64 0,.int .i64 0,.int .u64 0,.int .u64 0,.int .u64 0,.int .u64 0] 54)).heap.size=wc.heap.size+1:=by simp
  have H1:=aD h1
  clear h1 h2 h3 BA p0
  go_upto_region 3 with fail
  generalize (wc.alloc (.cells #[.int .i64 (-7),.int .i64 0,.int .i64 0,.int .i64 0,.int .i64 0,.int .i64 0,.int .u64 0,.int .u64 0,.int .u64 0,.int .u64 0] 54))=W3 at B3 R3 M3 X3 Y3 szc ⊢
  have p0:W3.cell? ⟨w.heap.size,0,none⟩=some (.slice p.q p.L.length p.c):=aA X3.o (i:=0) rfl
  have pf0:=aG X3.o 0
  have lx:=aC X3.o
  have lm:=aC M3.o
  have m0:=aA M3.o (i:=0) rfl
  have m1:=aA M3.o (i:=1) rfl
  have m2:=aA M3.o (i:=2) rfl
  have m3:=aA M3.o (i:=3) rfl
  have m4:=aA M3.o (i:=4) rfl
  have m5:=aA M3.o (i:=5) rfl
  have m6:=aA M3.o (i:=6) rfl
  have m7:=aA M3.o (i:=7) rfl
  have m8:=aA M3.o (i:=8) rfl
  have m9:=aA M3.o (i:=9) rfl
  have SZ:=aD (show w1.heap.size<=W3.heap.size by have:=H1.o;omega)
  clear szc
  have n0:(0:Int)<=(p.L.length:Int):=by omega
  go_region_law (refine eD rfl _ _ 22 rfl w1.heap.size 54 t0 (.agg #[.int .i64 0,.int .i64 0,.int .i64 0,.int .i64 0,.int .i64 0,.int .i64 0,.int .u64 0,.int .u64 0,.int .u64 0,.int .u64 0]) 10 80 fD ti tz0 tz1 tz2 rfl (by decide) (.slice q1 p.L.length c1) p.L.length (bC p.L) (by first |(simp [Act.eval];done) | simp [Act.eval,Act.put]) (World.ownsRow.drew (i9 R3.o _)) ⟨W3.heap.size,0,none⟩ 2 2 [.int .i64 (-7),.int .i64 0,.int .i64 0,.int .i64 0,.int .i64 0,.int .i64 0,.int .u64 0,.int .u64 0,.int .u64 0,.int .u64 0,.int .i64 (-7),.int .i64 0,.int .i64 0,.int .i64 0,.int .i64 0,.int .i64 0,.int .u64 0,.int .u64 0,.int .u64 0,.int .u64 0] (by first |(simp [Act.eval];done) | simp [Act.eval,Act.put]) rfl (qH W3 [.int .i64 (-7),.int .i64 0,.int .i64 0,.int .i64 0,.int .i64 0,.int .i64 0,.int .u64 0,.int .u64 0,.int .u64 0,.int .u64 0,.int .i64 (-7),.int .i64 0,.int .i64 0,.int .i64 0,.int .i64 0,.int .i64 0,.int .u64 0,.int .u64 0,.int .u64 0,.int .u64 0] _) (by simp [Value.oneCell']) (by unfold maxLen;omega) (by omega) (by have:=SZ.o;simp;omega) ?_;intro v8 W8 hown hgrow hblk;have G8:=aD hgrow;have O8:=aD hown;have X8:=aD ((hgrow.block _ (by first |(simp;omega) | simp) (fun e=>aJ R3.o X3.o (by decide) e.symm)).trans ((Below.heap_alloc _ _ _ lx).trans X3.o));have z0:W8.cell? ⟨w.heap.size,0,none⟩=some (.slice p.q p.L.length p.c):=aA X8.o (i:=0) rfl;have zf:=aG X8.o 0;obtain⟨g8,c8,rfl,hc8⟩:=eF hown (by omega);have hc9:(p.L.length:Int)<=(c8:Int):=(by omega);clear hown hgrow hblk)
  all_goals
   have FT:Hid (Fr (fun z=>(Value.slice q1 p.L.length c1).ownBlock=some z\/z=w.heap.size) W3 (W8.setCell ⟨w.heap.size,0,none⟩ (.slice (some ⟨g8,0,none⟩) p.L.length c8))):=aD (Fr.setCell (S:=fun z=>(Value.slice q1 p.L.length c1).ownBlock=some z\/z=w.heap.size) ((((Fr.refl _ W3).alloc _).drew).grown G8.o (fun z hz=>.inl hz)) (p:=⟨w.heap.size,0,none⟩) (.inr rfl) _)
   have X9:Hid ((W8.setCell ⟨w.heap.size,0,none⟩ (.slice (some ⟨g8,0,none⟩) p.L.length c8)).heap[w.heap.size]?=some (.cells #[.slice (some ⟨g8,0,none⟩) p.L.length c8,.int .i64 p.g,.int .i64 p.k,.bool p.f] 24 (0,0))):=aI X8.o 0 _
   have Y9:=aD ((FT.o.block _ (aC Y3.o) (fun q=>q.elim (fun e=>aJ R3.o Y3.o (by decide) e) (fun e=>by omega))).trans Y3.o)
   have O9:=aD (aL O8.o ((Fr.refl (At1 w.heap.size) W8).setCell (p:=⟨w.heap.size,0,none⟩) rfl (.slice (some ⟨g8,0,none⟩) p.L.length c8)) (fun z hz e=>aJ O8.o X8.o (by decide) (by rw [hz,show z=_ from e])))
   have B9:Hid (wBl w (W8.setCell ⟨w.heap.size,0,none⟩ (.slice (some ⟨g8,0,none⟩) p.L.length c8))):=aD (B3.o.trans (FT.o.below B3.o.size (fun k hk=>hk.elim (fun e=>j4 B1.o.size (aH R3.o e).1) (fun e=>by omega))))
   clear m0 m1 m2 m3 m4 m5 m6 m7 m8 m9 p0 pf0 z0 zf
   generalize (W8.setCell ⟨w.heap.size,0,none⟩ (.slice (some ⟨g8,0,none⟩) p.L.length c8))=W9 at FT X9 Y9 O9 B9 ⊢
   have x0:=aA X9.o (i:=0) rfl
   have x1:=aA X9.o (i:=1) rfl
   have x2:=aA X9.o (i:=2) rfl
   have x3:=aA X9.o (i:=3) rfl
   have y0:=aA Y9.o (i:=0) rfl
   have y1:=aA Y9.o (i:=1) rfl
   have y2:=aA Y9.o (i:=2) rfl
   have y3:=aA Y9.o (i:=3) rfl
   have f0:=aG Y9.o 0
   have f1:=aG Y9.o 1
   have f2:=aG Y9.o 2
   have f3:=aG Y9.o 3
   go_wp2
   refine bodyPost_ret (v:=.agg #[.slice (some ⟨g8,0,none⟩) p.L.length c8,.int .i64 p.g,.int .i64 p.k,.bool p.f]) (by simp [results,Tryz.results5,go_sem,y0,y1,y2,y3]) rfl ⟨g8,c8,rfl,?_,?_⟩
   ·rw [fI,kT]
    exact cV (aL O9.o (eQ _ _ _ _ _ _) (fun z hz e=>aJ O9.o Y9.o (by decide) (by rw [hz,show z=_ from e]))) B1.o.size
   ·exact B9.o.trans ((eQ _ _ _ _ _ _).below B9.o.size (fun k hk=>by have:k=w.heap.size+1:=hk;omega))
end
def jE(cur:Array Value)(o:Nat):List Value->Array Value
 | []=>cur
 | v :: vs=>jE (cur.setIfInBounds o v) (o+1) vs
theorem jL:∀ (vs:List Value) (cur:Array Value) (o:Nat),(jE cur o vs).size=cur.size
 | [],_,_=>rfl
 | v :: vs,cur,o=>by
  unfold jE
  rw [jL vs]
  simp
theorem lQ:∀ (vs:List Value) (cur:Array Value) (o k:Nat),o+vs.length<=cur.size->(jE cur o vs)[k]?=if o<=k/\k<o+vs.length then vs[k-o]? else cur[k]?
 | [],cur,o,k,_=>by
  unfold jE
  rw [if_neg (by simp)]
 | v :: vs,cur,o,k,h=>by
  simp only [p8] at h
  unfold jE
  rw [lQ vs _ (o+1) k (by simp;omega)]
  simp only [p8]
  by_cases h1:o+1<=k/\k<o+1+vs.length
  ·rw [if_pos h1,if_pos (by omega),show k-o=(k-(o+1))+1 by omega,List.getElem?_cons_succ]
  ·rw [if_neg h1]
   by_cases h2:k=o
   ·subst h2
    rw [if_pos (by omega),Nat.sub_self,Array.getElem?_setIfInBounds_self_of_lt (by omega)]
    rfl
   ·rw [if_neg (by omega),Array.getElem?_setIfInBounds_ne (by omega)]
theorem jM{g:Nat}{t:TypeId}{fz:Nat×Nat}:∀ (vs:List Value) (o:Nat) (W:World) (cur:Array Value),W.heap[g]?=some (.cells cur t fz)->(W.setCells g o vs).heap[g]?=some (.cells (jE cur o vs) t fz)
 | [],o,W,cur,h=>by unfold World.setCells jE;exact h
 | v :: vs,o,W,cur,h=>by
  have:=jM vs (o+1) (W.setCell ⟨g,o,none⟩ v) _ (aI h o v)
  unfold jE
  simpa [World.setCells] using this
theorem pX(b:Nat):∀ (vs:List Value) (o:Nat) (W:World),Fr (At1 b) W (W.setCells b o vs)
 | [],_,W=>by unfold World.setCells;exact Fr.refl _ W
 | v :: vs,o,W=>by
  have:=((Fr.refl (At1 b) W).setCell (p:=⟨b,o,none⟩) rfl v).trans (pX b vs (o+1) (W.setCell ⟨b,o,none⟩ v))
  simpa [World.setCells] using this
theorem jU(M:List Ins)(k:Nat):(bC M)[k]?=(M[k/10]?).bind fun i=>(inC i)[k%10]?:=by
 by_cases h:k/10<M.length
 ·have hi:=i8 h
  have hm:k%10<(inC M[k/10]).length:=by rw [dJ];omega
  have h4:=iR hi (k%10) _ (i8 hm)
  rw [show k/10*10+k%10=k by omega] at h4
  rw [h4,hi]
  exact(i8 hm).symm
 ·rw [r5 (by rw [cY];omega),r5 (by omega)]
  rfl
theorem aA4{w:World}{base g c n j:Nat}{M:List Ins}(h:w.ownsRow base 54 10 (.slice (some ⟨g,0,none⟩) n c) n (bC M))(hj:j<n)(i:Ins):(w.setCells g (j*10) (inC i)).ownsRow base 54 10 (.slice (some ⟨g,0,none⟩) n c) n (bC (M.set j i)):=by
 obtain⟨hl,h | ⟨g',cap,cur,hv,hb,hh,hn,hm,hz,ht⟩⟩:=h
 ·cases h.1
 ·injection hv with e1 e2 e3
  injection e1 with e1
  injection e1 with e1
  subst e1 e3
  have hM:M.length=n:=by rw [cY] at hl;omega
  refine⟨by rw [cY,List.length_set,hM],.inr ⟨g,c,jE cur (j*10) (inC i),rfl,hb,jM _ _ _ _ hh,hn,hm,by rw [jL];exact hz,?_⟩⟩
  have hsz:j*10+(inC i).length<=cur.size:=by rw [dJ,hz];omega
  apply List.ext_getElem?
  intro k
  by_cases hk:k<n*10
  ·rw [s5 hk,Array.getElem?_toList,lQ _ _ _ _ hsz,jU,dJ]
   by_cases hq:j*10<=k/\k<j*10+10
   ·rw [if_pos hq,show k/10=j by omega,l8 (by omega),show k-j*10=k%10 by omega]
    rfl
   ·rw [if_neg hq,n7 (by omega),<- jU,<- ht,s5 hk,Array.getElem?_toList]
  ·rw [r5 (by rw [List.length_take];omega),r5 (by rw [cY,List.length_set,hM];omega)]
theorem qG{w:World}{base g c n:Nat}{M:List Ins}(h:w.ownsRow base 54 10 (.slice (some ⟨g,0,none⟩) n c) n (bC M)):g<w.heap.size/\base<=g/\(∀ k,w.frozen? ⟨g,k,none⟩=false)/\∀ j i,M[j]?=some i->∀ m v,(inC i)[m]?=some v->w.cell? ⟨g,j*10+m,none⟩=some v:=by
 obtain⟨h1,h2,cur,h3⟩:=aH h (g:=g) rfl
 refine⟨h2,h1,fun k=>aG h3 k,fun j i hi m v hm=>?_⟩
 obtain⟨g',o',e,_,hr⟩:=LI.of_row h j i hi
 have e1:=j3 e
 injection e1 with e2 e3
 subst e2 e3
 have:=hr m v hm
 rwa [Nat.zero_add] at this
theorem uX{w:World}{base g c n j:Nat}{M:List Ins}(h:w.ownsRow base 54 10 (.slice (some ⟨g,0,none⟩) n c) n (bC M))(hj:j<n):w.there g (j*10) 10:=fun k hk=>by
 obtain⟨_,_,hf,hc⟩:=qG h
 have hM:M.length=n:=by have:=h.1;rw [cY] at this;omega
 refine⟨?_,hf _⟩
 have hm:k<(inC M[j]).length:=by rw [dJ];exact hk
 rw [hc j _ (i8 (by omega)) k _ (i8 hm)]
 rfl
theorem aH7{P:Program}{ops:Array Oper}{Q:Exit->Act->World->Prop}{d:Option Tmp}{xo yo:Operand}{ty:TypeId}{pos:String}{af:Array Edge}{gd:Option (Nat×Bool)}{rest:List Oper}{a:Act}{w:World}(h:wpList P ops Q (Oper.mk d (.store 54 xo yo) ty pos af gd :: rest) a w):wpList P ops Q (Oper.mk d (.store 54 xo yo) ty pos af gd :: rest) a w:=h
theorem nC{ops:Array Oper}{rest:List Oper}{op:Oper}{a:Act}{w:World}{Q:Exit->Act->World->Prop}(hgd:op.guard=none)(xo yo:Operand)(ho:op.op=.store 54 xo yo){base g c n j:Nat}{M:List Ins}(i:Ins)(hown:w.ownsRow base 54 10 (.slice (some ⟨g,0,none⟩) n c) n (bC M))(hj:j<n)(hx:a.eval xo=.pointer (some ⟨g,j*10,none⟩))(hy:a.eval yo=.agg #[.int .i64 i.op,.int .i64 i.x,.int .i64 i.y,.int .i64 i.n,.int .i64 i.mn,.int .i64 i.mx,.int .u64 (aB i.s 0),.int .u64 (aB i.s 1),.int .u64 (aB i.s 2),.int .u64 (aB i.s 3)])
  (h:∀ w',w'.ownsRow base 54 10 (.slice (some ⟨g,0,none⟩) n c) n (bC (M.set j i))->Fr (At1 g) w w'->wpList Tryz.prog ops Q rest (a.put op.dst undef) w'):wpList Tryz.prog ops Q (op :: rest) a w:=
 wpList_store_mid hgd 54 xo yo ho g (j*10) #[.int .i64 i.op,.int .i64 i.x,.int .i64 i.y,.int .i64 i.n,.int .i64 i.mn,.int .i64 i.mx,.int .u64 (aB i.s 0),.int .u64 (aB i.s 1),.int .u64 (aB i.s 2),.int .u64 (aB i.s 3)] hx hy (uX hown hj) wQ (all_oneCell_toArray (kW i)) (h _ (aA4 hown hj i) (pX g (inC i) (j*10) w))
section
attribute [local go_sem] Oper.semAt_some cD
theorem fS{L M:List Ins}{j:Nat}{a b:Ins}(h:L.take j=M.take j)(ha:L[j]?=some a)(hb:M[j]?=some b)(e:a=b):L.take (j+1)=M.take (j+1):=by
 rw [n5,n5,h,ha,hb,e]
theorem xY{w:World}{L M:List Ins}{q r:Option Addr}{c d:Nat}(hl:L.length<=9223372036854775807)(hx:LI w q L)(hy:LI w r M) :
  Calls Tryz.prog 42 #[.slice q L.length c,.slice r M.length d] w fun e w'=>e=.returned (.bool (decide (L=M)))/\wBl w w':=by
 have H1:=aD hx
 have H2:=aD hy
 clear hx hy
 by_cases hn:L.length=M.length
 case neg=>
  have e0:decide (L=M)=false:=j6 (fun e=>hn (by rw [e]))
  have n0:¬ ((L.length:Nat):Int)=((M.length:Nat):Int):=by omega
  rw [e0]
  clear e0
  go_enter Tryz.func42,Tryz.ntmps42
  go_wp2
  go_ret
  exact⟨rfl,Below.refl _ _⟩
 obtain⟨ans,ha⟩:∃ ans,decide (L=M)=ans:=⟨_,rfl⟩
 have HA:=aD ha
 rw [ha,<- hn]
 clear ha
 go_enter Tryz.func42,Tryz.ntmps42
 go_wp2
 go_loopw [13] (fun i wr=>∃ j:Nat,j<=L.length/\i=.int .i64 (j:Int)/\L.take j=M.take j/\wBl w wr) (fun i _=>L.length-(intOf i).toNat)
 case atStart=>exact⟨0,Nat.zero_le _,rfl,by simp,Below.refl _ _⟩
 case round=>
  obtain⟨j,hj,rfl,hpre,hbel⟩:=hrel
  have HP:=aD hpre
  have HB:=aD hbel
  clear hpre hbel
  by_cases hjl:j<L.length
  ·have i0:(j:Int)<(L.length:Int):=by omega
   obtain⟨a9,hga⟩:∃ a,L[j]?=some a:=⟨_,i8 hjl⟩
   obtain⟨b9,hgb⟩:∃ a,M[j]?=some a:=⟨_,i8 (by omega)⟩
   obtain⟨g1,o1,hq1,hl1,c0,c1,c2,c3,c4,c5,c6,c7,c8,c9⟩:=(H1.o.kept HB.o).ten hga
   obtain⟨g2,o2,hq2,hl2,d0,d1,d2,d3,d4,d5,d6,d7,d8,d9⟩:=(H2.o.kept HB.o).ten hgb
   have EI:=cC a9 b9
   have GA:=aD (And.intro hga hgb)
   obtain⟨sb,hsb⟩:∃ sb,decide (a9=b9)=sb:=⟨_,rfl⟩
   have HSB:=aD hsb
   rw [hsb] at EI
   rw [hq1,hq2]
   clear hga hgb hsb
   go_upto_region 6 with fail
   refine wx9 ?_
   repeat (go_big_quiet_step (first | exact rfl | exact EI _))
   refine wpQuiet_nil ?_
   intro w6 hw6
   have B6:=aD (aF HB.o (cZ hw6) lz9)
   clear hw6 EI c0 c1 c2 c3 c4 c5 c6 c7 c8 c9 d0 d1 d2 d3 d4 d5 d6 d7 d8 d9
   cases sb with
   | false=>
    have HN:Hid (ans=false):=by
     rw [<- HA.o]
     refine j6 fun e=>of_decide_eq_false HSB.o ?_
     have h1:=GA.o.1
     rw [e,GA.o.2] at h1
     exact(j3 h1).symm
    go_wp2
    go_ret
    exact⟨by rw [HN.o];rfl,B6.o⟩
   | true=>
    have HN:=aD (fS HP.o GA.o.1 GA.o.2 (of_decide_eq_true HSB.o))
    go_wp2
    go_roundw
    case rel=>exact⟨j+1,by omega,by go_num,HN.o,B6.o⟩
    case measure=>simp only [intOf];omega
  ·have i0:¬ (j:Int)<(L.length:Int):=by omega
   have HN:Hid (ans=true):=by
    rw [<- HA.o]
    refine p9 ?_
    have h1:=HP.o
    rw [k6 (by omega),k6 (by omega)] at h1
    exact h1
   go_wp2
   go_ret
   exact⟨by rw [HN.o];rfl,HB.o⟩
def smB(p q:Pg):Bool:=decide (p.L=q.L)&&p.g==q.g&&p.k==q.k&&p.f==q.f
theorem aF3{w:World}{p q:Pg}(hp:PgI w p)(hq:PgI w q):Calls Tryz.prog 18 #[.agg #[.slice p.q p.L.length p.c,.int .i64 p.g,.int .i64 p.k,.bool p.f],.agg #[.slice q.q q.L.length q.c,.int .i64 q.g,.int .i64 q.k,.bool q.f]] w fun e w'=>e=.returned (.bool (smB p q))/\wBl w w':=by
 have B1:Hid (wBl w ((w.alloc (.cells #[.slice p.q p.L.length p.c,.int .i64 p.g,.int .i64 p.k,.bool p.f] 24)).alloc (.cells #[.slice q.q q.L.length q.c,.int .i64 q.g,.int .i64 q.k,.bool q.f] 24))):=(bz9).alloc (by simp) _
 have X1:Hid (((w.alloc (.cells #[.slice p.q p.L.length p.c,.int .i64 p.g,.int .i64 p.k,.bool p.f] 24)).alloc (.cells #[.slice q.q q.L.length q.c,.int .i64 q.g,.int .i64 q.k,.bool q.f] 24)).heap[w.heap.size]?=some (.cells #[.slice p.q p.L.length p.c,.int .i64 p.g,.int .i64 p.k,.bool p.f] 24 (0,0))):=(Below.heap_alloc _ _ _ (by simp)).trans (aE w _)
 have X2:Hid (((w.alloc (.cells #[.slice p.q p.L.length p.c,.int .i64 p.g,.int .i64 p.k,.bool p.f] 24)).alloc (.cells #[.slice q.q q.L.length q.c,.int .i64 q.g,.int .i64 q.k,.bool q.f] 24)).heap[w.heap.size+1]?=some (.cells #[.slice q.q q.L.length q.c,.int .i64 q.g,.int .i64 q.k,.bool q.f] 24 (0,0))):=aD (by have:=aE (w.alloc (.cells #[.slice p.q p.L.length p.c,.int .i64 p.g,.int .i64 p.k,.bool p.f] 24)) (.cells #[.slice q.q q.L.length q.c,.int .i64 q.g,.int .i64 q.k,.bool q.f] 24);simpa using this)
 have HC:=aD (xY (c:=p.c) (d:=q.c) hp.len (hp.li.kept B1.o) (hq.li.kept B1.o))
 unfold smB
 obtain⟨r,hr⟩:∃ r,decide (p.L=q.L)=r:=⟨_,rfl⟩
 rw [hr] at HC ⊢
 clear hr hp hq
 go_enter Tryz.func18,Tryz.ntmps18
 go_upto_region 1 with fail
 generalize ((w.alloc (.cells #[.slice p.q p.L.length p.c,.int .i64 p.g,.int .i64 p.k,.bool p.f] 24)).alloc (.cells #[.slice q.q q.L.length q.c,.int .i64 q.g,.int .i64 q.k,.bool q.f] 24))=w1 at B1 X1 X2 HC ⊢
 have p0:w1.cell? ⟨w.heap.size,0,none⟩=some (.slice p.q p.L.length p.c):=aA X1.o (i:=0) rfl
 have q0:w1.cell? ⟨w.heap.size+1,0,none⟩=some (.slice q.q q.L.length q.c):=aA X2.o (i:=0) rfl
 have l1:=aC X1.o
 have l2:=aC X2.o
 go_wp2_with (go_at_call 42;(with_reducible refine(HC.o).mono ?_);rintro e w5 ⟨rfl,h52⟩;have B5:=aD (aF B1.o h52 lz9);have y1:=aA ((h52.block _ l1).trans X1.o) (i:=1) rfl;have y2:=aA ((h52.block _ l1).trans X1.o) (i:=2) rfl;have y3:=aA ((h52.block _ l1).trans X1.o) (i:=3) rfl;have z1:=aA ((h52.block _ l2).trans X2.o) (i:=1) rfl;have z2:=aA ((h52.block _ l2).trans X2.o) (i:=2) rfl;have z3:=aA ((h52.block _ l2).trans X2.o) (i:=3) rfl;clear h52)
 all_goals go_ret
 all_goals
  refine⟨?_,B5.o⟩
  first | rfl | simp_all
end
section
attribute [local go_sem] Oper.semAt_some cD
theorem zJ{w:World}{p q:Pg}(hp:PgI w p)(hq:PgI w q):Calls Tryz.prog 38 #[.agg #[.slice p.q p.L.length p.c,.int .i64 p.g,.int .i64 p.k,.bool p.f],.agg #[.slice q.q q.L.length q.c,.int .i64 q.g,.int .i64 q.k,.bool q.f]] w fun e w'=>e=.returned (.bool (smB p q))/\wBl w w':=by
 have B1:Hid (wBl w ((w.alloc (.cells #[.slice p.q p.L.length p.c,.int .i64 p.g,.int .i64 p.k,.bool p.f] 24)).alloc (.cells #[.slice q.q q.L.length q.c,.int .i64 q.g,.int .i64 q.k,.bool q.f] 24))):=(bz9).alloc (by simp) _
 have X1:Hid (((w.alloc (.cells #[.slice p.q p.L.length p.c,.int .i64 p.g,.int .i64 p.k,.bool p.f] 24)).alloc (.cells #[.slice q.q q.L.length q.c,.int .i64 q.g,.int .i64 q.k,.bool q.f] 24)).heap[w.heap.size]?=some (.cells #[.slice p.q p.L.length p.c,.int .i64 p.g,.int .i64 p.k,.bool p.f] 24 (0,0))):=(Below.heap_alloc _ _ _ (by simp)).trans (aE w _)
 have X2:Hid (((w.alloc (.cells #[.slice p.q p.L.length p.c,.int .i64 p.g,.int .i64 p.k,.bool p.f] 24)).alloc (.cells #[.slice q.q q.L.length q.c,.int .i64 q.g,.int .i64 q.k,.bool q.f] 24)).heap[w.heap.size+1]?=some (.cells #[.slice q.q q.L.length q.c,.int .i64 q.g,.int .i64 q.k,.bool q.f] 24 (0,0))):=aD (by have:=aE (w.alloc (.cells #[.slice p.q p.L.length p.c,.int .i64 p.g,.int .i64 p.k,.bool p.f] 24)) (.cells #[.slice q.q q.L.length q.c,.int .i64 q.g,.int .i64 q.k,.bool q.f] 24);simpa using this)
 have HP:=aD (hp.kept B1.o)
 have HQ:=aD (hq.kept B1.o)
 obtain⟨ans,ha⟩:∃ r,smB p q=r:=⟨_,rfl⟩
 have HA:=aD ha
 rw [ha]
 clear ha hp hq
 go_enter Tryz.func38,Tryz.ntmps38
 go_upto_region 1 with fail
 generalize ((w.alloc (.cells #[.slice p.q p.L.length p.c,.int .i64 p.g,.int .i64 p.k,.bool p.f] 24)).alloc (.cells #[.slice q.q q.L.length q.c,.int .i64 q.g,.int .i64 q.k,.bool q.f] 24))=w1 at B1 X1 X2 HP HQ ⊢
 have l1:=aC X1.o
 have l2:=aC X2.o
 have p0:w1.cell? ⟨w.heap.size,0,none⟩=some (.slice p.q p.L.length p.c):=aA X1.o (i:=0) rfl
 have p1:w1.cell? ⟨w.heap.size,1,none⟩=some (.int .i64 p.g):=aA X1.o (i:=1) rfl
 have p2:w1.cell? ⟨w.heap.size,2,none⟩=some (.int .i64 p.k):=aA X1.o (i:=2) rfl
 have p3:w1.cell? ⟨w.heap.size,3,none⟩=some (.bool p.f):=aA X1.o (i:=3) rfl
 have q0:w1.cell? ⟨w.heap.size+1,0,none⟩=some (.slice q.q q.L.length q.c):=aA X2.o (i:=0) rfl
 have q1:w1.cell? ⟨w.heap.size+1,1,none⟩=some (.int .i64 q.g):=aA X2.o (i:=1) rfl
 have q2:w1.cell? ⟨w.heap.size+1,2,none⟩=some (.int .i64 q.k):=aA X2.o (i:=2) rfl
 have q3:w1.cell? ⟨w.heap.size+1,3,none⟩=some (.bool q.f):=aA X2.o (i:=3) rfl
 have LP:=aD HP.o.len
 obtain⟨pq,pL,pc,pg,pk,pf⟩:=p
 obtain⟨qq,qL,qc,qg,qk,qf⟩:=q
 simp only at p0 p1 p2 p3 q0 q1 q2 q3 HP HQ LP HA ⊢
 by_cases hl:pL.length=qL.length
 case neg=>
  have n0:¬ ((pL.length:Nat):Int)=((qL.length:Nat):Int):=by omega
  have E:Hid (ans=false):=aD (by rw [<- HA.o];simp [smB];intro e;exact absurd (by rw [e]) hl)
  go_wp2
  go_ret
  exact⟨by rw [E.o];rfl,B1.o⟩
 by_cases hg:pg=qg
 case neg=>
  have E:Hid (ans=false):=aD (by rw [<- HA.o];simp [smB,hg])
  rw [<- hl] at q0
  go_wp2
  go_ret
  exact⟨by rw [E.o];rfl,B1.o⟩
 by_cases hk:pk=qk
 case neg=>
  have E:Hid (ans=false):=aD (by rw [<- HA.o];simp [smB,hk])
  subst hg
  rw [<- hl] at q0
  go_wp2
  go_ret
  exact⟨by rw [E.o];rfl,B1.o⟩
 by_cases hf:pf=qf
 case neg=>
  have E:Hid (ans=false):=aD (by rw [<- HA.o];simp [smB,hf])
  subst hg hk
  rw [<- hl] at q0
  cases pf <;> cases qf
  ·exact absurd rfl hf
  ·go_wp2
   go_ret
   exact⟨by rw [E.o];rfl,B1.o⟩
  ·go_wp2
   go_ret
   exact⟨by rw [E.o];rfl,B1.o⟩
  ·exact absurd rfl hf
 subst hg hk hf
 have HD:Hid (decide (pL=qL)=ans):=aD (by rw [<- HA.o];simp [smB])
 have HLN:=aD hl
 rw [<- hl] at q0
 go_wp2
 go_loopw [5] (fun i wr=>∃ j:Nat,j<=pL.length/\i=.int .i64 (j:Int)/\pL.take j=qL.take j/\wBl w1 wr) (fun i _=>pL.length-(intOf i).toNat)
 case atStart=>exact⟨0,Nat.zero_le _,rfl,by simp,Below.refl _ _⟩
 case round=>
  obtain⟨j,hj,rfl,hpre,hbel⟩:=hrel
  have HPr:=aD hpre
  have HB:=aD hbel
  have y0:wr.cell? ⟨w.heap.size,0,none⟩=some (.slice pq pL.length pc):=(hbel.cell (p:=⟨w.heap.size,0,none⟩) l1).trans p0
  have z0:wr.cell? ⟨w.heap.size+1,0,none⟩=some (.slice qq pL.length qc):=(hbel.cell (p:=⟨w.heap.size+1,0,none⟩) l2).trans q0
  have m1:=j5 l1 hbel.size
  have m2:=j5 l2 hbel.size
  have hlen:=LP.o
  clear hpre hbel
  by_cases hjl:j<pL.length
  ·have i0:(j:Int)<(pL.length:Int):=by omega
   obtain⟨a9,hga⟩:∃ a,pL[j]?=some a:=⟨_,i8 hjl⟩
   obtain⟨b9,hgb⟩:∃ a,qL[j]?=some a:=⟨_,i8 (by have:=HLN.o;omega)⟩
   obtain⟨g1,o1,hq1,hl1,c0,c1,c2,c3,c4,c5,c6,c7,c8,c9⟩:=(HP.o.kept HB.o).li.ten hga
   obtain⟨g2,o2,hq2,hl2,d0,d1,d2,d3,d4,d5,d6,d7,d8,d9⟩:=(HQ.o.kept HB.o).li.ten hgb
   simp only at hq1 hq2
   have EI:=cC a9 b9
   have GA:=aD (And.intro hga hgb)
   obtain⟨sb,hsb⟩:∃ sb,decide (a9=b9)=sb:=⟨_,rfl⟩
   have HSB:=aD hsb
   rw [hsb] at EI
   rw [hq1] at y0
   rw [hq2] at z0
   clear hga hgb hsb hq1 hq2
   go_upto_region 6 with fail
   refine wx9 ?_
   repeat (go_big_quiet_step (first | exact rfl | exact EI _))
   refine wpQuiet_nil ?_
   intro w6 hw6
   have B6:=aD (aF HB.o (cZ hw6) lz9)
   clear hw6 EI c0 c1 c2 c3 c4 c5 c6 c7 c8 c9 d0 d1 d2 d3 d4 d5 d6 d7 d8 d9
   cases sb with
   | false=>
    have HN:Hid (ans=false):=by
     rw [<- HD.o]
     refine j6 fun e=>of_decide_eq_false HSB.o ?_
     have h1:=GA.o.1
     rw [e,GA.o.2] at h1
     exact(j3 h1).symm
    go_wp2
    go_ret
    exact⟨by rw [HN.o];rfl,aF B1.o B6.o lz9⟩
   | true=>
    have HN:=aD (fS HPr.o GA.o.1 GA.o.2 (of_decide_eq_true HSB.o))
    go_wp2
    go_roundw
    case rel=>exact⟨j+1,by omega,by go_num,HN.o,B6.o⟩
    case measure=>simp only [intOf];omega
  ·have i0:¬ (j:Int)<(pL.length:Int):=by omega
   have HN:Hid (ans=true):=by
    rw [<- HD.o]
    refine p9 ?_
    have h1:=HPr.o
    rw [k6 (by omega),k6 (by have:=HLN.o;omega)] at h1
    exact h1
   go_wp2
   go_ret
   exact⟨by rw [HN.o];rfl,aF B1.o HB.o lz9⟩
end
section
set_option linter.unusedSimpArgs false
set_option linter.unusedVariables false
attribute [local go_sem] Oper.semAt_some
theorem kM{p:Pg}(h:(rtE p).1=0):rtE p=(0,0):=by
 unfold rtE at h ⊢
 split
 ·rename_i q;rw [if_pos q] at h;cases h
 ·rename_i q
  rw [if_neg q] at h
  split
  ·rename_i q;rw [if_pos q] at h;cases h
  ·rename_i q
   rw [if_neg q] at h
   split
   ·rename_i q;rw [if_pos q] at h;cases h
   ·rename_i q
    rw [if_neg q] at h
    cases hf:fbI p 0 p.L with
    | none=>rfl
    | some k=>rw [hf] at h;cases h
def txA(p:Pg):List UInt8:=if (rtE p).1=0 then txG p else []
def rcA(p:Pg):List Int:=if (rtE p).1=0 then eE (rcM p) else []
theorem qD(p:Pg):(rcA p).length<=40000:=by
 unfold rcA
 split
 ·rename_i h
  obtain⟨h1,h2⟩:=nL h
  rw [dG]
  exact j4 (pE h2).len h1
 ·simp
def TxP(p:Pg)(w:World)(e:Ending)(w':World):Prop:=e=.returned (.tuple #[.string (txt (txA p)),.int .i64 (rtE p).1])/\wBl w w'
def ReP(p:Pg)(w:World)(e:Ending)(w':World):Prop:=∃ v,e=.returned (.tuple #[v,.int .i64 (rtE p).1])/\OI w.heap.size w' v (rcA p)/\wBl w w'
theorem vK{w:World}{p:Pg}(h:PgI w p)(hT:T14 w):Calls Tryz.prog 10 #[.agg #[.slice p.q p.L.length p.c,.int .i64 p.g,.int .i64 p.k,.bool p.f]] w (TxP p w):=by
 unfold TxP txA
 by_cases hz:(rtE p).1=0
 ·rw [if_pos hz,hz]
  exact aE7 h hT (kM hz)
 ·rw [if_neg hz]
  exact wM h (a:=(rtE p).1) (b:=(rtE p).2) rfl hz
theorem vI{w:World}{p:Pg}(h:PgI w p):Calls Tryz.prog 7 #[.agg #[.slice p.q p.L.length p.c,.int .i64 p.g,.int .i64 p.k,.bool p.f]] w (TxP p w):=by
 unfold TxP txA
 by_cases hz:(rtE p).1=0
 ·rw [if_pos hz,hz]
  exact wT h (kM hz)
 ·rw [if_neg hz]
  exact rM h hz
theorem wW{W:World}{g c base:Nat}{l:List Int}(h:RowG W g c l)(hc:c<=maxLen)(hb:base<=g):OI base W (.slice (some ⟨g,0,none⟩) l.length c) l:=by
 have hl:=h.len
 obtain⟨cur,h1,h2,h3⟩:=h
 exact⟨by rw [cF];omega,.inr ⟨g,c,cur,rfl,hb,h1,hl,hc,by omega,by rw [Nat.mul_one];exact h3⟩⟩
theorem pS{w:World}{p:Pg}(h:PgI w p):Calls Tryz.prog 11 #[.agg #[.slice p.q p.L.length p.c,.int .i64 p.g,.int .i64 p.k,.bool p.f]] w (ReP p w):=by
 have hl:=qD p
 unfold ReP rcA
 unfold rcA at hl
 by_cases hz:(rtE p).1=0
 ·rw [if_pos hz,hz]
  rw [if_pos hz] at hl
  refine(mC h hz).mono ?_
  rintro e w' ⟨h1,g,rfl,h2,h3⟩
  have:=wW (base:=w.heap.size) h2 (by rw [dG] at hl;unfold maxLen;omega) h3
  rw [dG] at this
  refine⟨_,rfl,?_,h1⟩
  exact this
 ·rw [if_neg hz]
  refine(uU h hz).mono ?_
  rintro e w' ⟨h1,rfl⟩
  exact⟨_,rfl,j8 _ _ _ _,h1⟩
theorem pR{w:World}{p:Pg}(h:PgI w p):Calls Tryz.prog 8 #[.agg #[.slice p.q p.L.length p.c,.int .i64 p.g,.int .i64 p.k,.bool p.f]] w (ReP p w):=by
 unfold ReP rcA
 by_cases hz:(rtE p).1=0
 ·rw [if_pos hz,hz]
  refine(rN h (kM hz)).mono ?_
  rintro e w' ⟨h1,v,rfl,h2⟩
  exact⟨_,rfl,h2,h1⟩
 ·rw [if_neg hz]
  refine(nM h hz).mono ?_
  rintro e w' ⟨h1,rfl⟩
  exact⟨_,rfl,j8 _ _ _ _,h1⟩
theorem OI.kept{base:Nat}{w w':World}{v:Value}{l:List Int}(h:OI base w v l)(hb:wBl w w'):OI base w' v l:=cW h hb
theorem mI{w:World}{b b':Nat}{v v':Value}{l:List Int}(h:OI b w v l)(h':OI b' w v' l)(hl:l.length<=1000000) :
  Calls Tryz.prog 12 #[v,v'] w fun e w'=>e=.returned (.bool true)/\wBl w w':=by
 obtain⟨q,c,rfl⟩:=aK h
 obtain⟨q',c',rfl⟩:=aK h'
 have H:=aD h
 have H':=aD h'
 clear h h'
 go_enter Tryz.func12,Tryz.ntmps12
 go_wp2
 go_loopg [5] l.length (fun k i wr=>∃ j:Nat,j+k=l.length/\i=.int .i64 (j:Int)/\wBl w wr)
 case atStart=>exact⟨0,by omega,rfl,Below.refl _ _⟩
 case round=>
  obtain⟨j,hjk,rfl,hb⟩:=hrel
  have B:=aD hb
  have H1:=aD (OI.kept H.o hb)
  have H2:=aD (OI.kept H'.o hb)
  clear hb
  by_cases hj:j<l.length
  ·have j0:(0:Int)<=(j:Int):=by omega
   have j1:(j:Int)<(l.length:Int):=by omega
   obtain⟨g,c2,e1⟩:=cU H1.o (by omega)
   obtain⟨g',c2',e2⟩:=cU H2.o (by omega)
   cases e1
   cases e2
   have c1:=bY H1.o (j:=j) (dS (i8 hj))
   have c2:=bY H2.o (j:=j) (dS (i8 hj))
   have l1:=(aH H1.o (g:=g) rfl).2.1
   have l2:=(aH H2.o (g:=g') rfl).2.1
   generalize l[j]=x at c1 c2
   go_wp2
   go_region
   go_wp2
   go_roundg (l.length-(j+1))
   case measure=>omega
   case rel=>exact⟨j+1,by omega,by go_num,B.o.drew⟩
  ·have j1:¬ (j:Int)<(l.length:Int):=by omega
   go_wp2
   go_ret
   exact⟨rfl,B.o⟩
end
section
set_option linter.unusedSimpArgs false
set_option linter.unusedVariables false
attribute [local go_sem] Oper.semAt_some
def bkI:Ins:=⟨8,0,0,9,0,0,0#256⟩
theorem wN(p:Pg)(g c:Nat):smB ⟨some ⟨g,0,none⟩,p.L,c,p.g,p.k,p.f⟩ p=true:=by simp [smB]
theorem pH{w:World}{p:Pg}{base g c:Nat}(hn:p.L.length<=9223372036854775807)(ho:w.ownsRow base 54 10 (.slice (some ⟨g,0,none⟩) (p.L.length+2) c) (p.L.length+2) (bC (p.L++[mkI,mkI]))):PgI w ⟨some ⟨g,0,none⟩,p.L,c,p.g,p.k,p.f⟩:=by
 refine⟨hn,?_⟩
 have h:=ho
 rw [fI,kT] at h
 exact aG4 h
theorem aH5{w:World}{p:Pg}{base g c:Nat}(hp:PgI w p)(ho:w.ownsRow base 54 10 (.slice (some ⟨g,0,none⟩) (p.L.length+2) c) (p.L.length+2) (bC (p.L++[mkI,mkI])))(hb:p.L.length*80+160<=140737488355328)(hbase:base<=w.heap.size) :
  Calls Tryz.prog 15 #[.agg #[.slice (some ⟨g,0,none⟩) p.L.length c,.int .i64 p.g,.int .i64 p.k,.bool p.f],.agg #[.slice p.q p.L.length p.c,.int .i64 p.g,.int .i64 p.k,.bool p.f]] w fun e w'=>e=.returned (.bool true)/\Below base w w':=by
 have HQ0:=pH hp.len ho
 have BA:wBl w ((w.alloc (.cells #[.slice (some ⟨g,0,none⟩) p.L.length c,.int .i64 p.g,.int .i64 p.k,.bool p.f] 24)).alloc (.cells #[.slice p.q p.L.length p.c,.int .i64 p.g,.int .i64 p.k,.bool p.f] 24)):=(bz9).alloc (by simp) _
 have X1:Hid (((w.alloc (.cells #[.slice (some ⟨g,0,none⟩) p.L.length c,.int .i64 p.g,.int .i64 p.k,.bool p.f] 24)).alloc (.cells #[.slice p.q p.L.length p.c,.int .i64 p.g,.int .i64 p.k,.bool p.f] 24)).heap[w.heap.size]?=some (.cells #[.slice (some ⟨g,0,none⟩) p.L.length c,.int .i64 p.g,.int .i64 p.k,.bool p.f] 24 (0,0))):=(Below.heap_alloc _ _ _ (by simp)).trans (aE w _)
 have Y1:Hid (((w.alloc (.cells #[.slice (some ⟨g,0,none⟩) p.L.length c,.int .i64 p.g,.int .i64 p.k,.bool p.f] 24)).alloc (.cells #[.slice p.q p.L.length p.c,.int .i64 p.g,.int .i64 p.k,.bool p.f] 24)).heap[w.heap.size+1]?=some (.cells #[.slice p.q p.L.length p.c,.int .i64 p.g,.int .i64 p.k,.bool p.f] 24 (0,0))):=aD (by have:=aE (w.alloc (.cells #[.slice (some ⟨g,0,none⟩) p.L.length c,.int .i64 p.g,.int .i64 p.k,.bool p.f] 24)) (.cells #[.slice p.q p.L.length p.c,.int .i64 p.g,.int .i64 p.k,.bool p.f] 24);rw [r7] at this;exact this)
 have B1:=aD BA
 have P1:=aD (hp.kept BA)
 have Q1:=aD (HQ0.kept BA)
 have O1:=aD (cW ho BA)
 have HC:=aD (zJ Q1.o P1.o)
 rw [wN] at HC
 have hcap:=gO ho
 have hlen:=hp.len
 have S1:Hid (w.heap.size+1<((w.alloc (.cells #[.slice (some ⟨g,0,none⟩) p.L.length c,.int .i64 p.g,.int .i64 p.k,.bool p.f] 24)).alloc (.cells #[.slice p.q p.L.length p.c,.int .i64 p.g,.int .i64 p.k,.bool p.f] 24)).heap.size):=aC Y1.o
 obtain⟨pq,pL,pc,pg,pk,pf⟩:=p
 dsimp only at *
 clear hp ho HQ0 BA
 go_enter Tryz.func15,Tryz.ntmps15
 go_upto_region 1 with fail
 generalize ((w.alloc (.cells #[.slice (some ⟨g,0,none⟩) pL.length c,.int .i64 pg,.int .i64 pk,.bool pf] 24)).alloc (.cells #[.slice pq pL.length pc,.int .i64 pg,.int .i64 pk,.bool pf] 24))=w1 at B1 X1 Y1 P1 Q1 O1 HC S1 ⊢
 have lx:=aC X1.o
 have ly:=aC Y1.o
 have p0:=aA X1.o (i:=0) rfl
 have p1:=aA X1.o (i:=1) rfl
 have p2:=aA X1.o (i:=2) rfl
 have p3:=aA X1.o (i:=3) rfl
 have q0:=aA Y1.o (i:=0) rfl
 have q1:=aA Y1.o (i:=1) rfl
 have q2:=aA Y1.o (i:=2) rfl
 have q3:=aA Y1.o (i:=3) rfl
 go_upto_region 2 with (go_at_call 38;(with_reducible refine(HC.o).mono ?_);rintro e w2 ⟨rfl,h2⟩;have B2:=aD (aF B1.o h2 lz9);have X2:=aD ((h2.block _ lx).trans X1.o);have Y2:=aD ((h2.block _ ly).trans Y1.o);have O2:=aD (cW O1.o h2);clear h2)
 clear p0 p1 p2 p3 q0 q1 q2 q3 lx ly HC
 have p0:=aA X2.o (i:=0) rfl
 have q0:=aA Y2.o (i:=0) rfl
 have hw2:IntKind.wrap .i64 ((pL.length:Int)+2)=(pL.length:Int)+2:=wrap_small _ (by omega) (by omega)
 have hw1:IntKind.wrap .i64 ((pL.length:Int)+1)=(pL.length:Int)+1:=wrap_small _ (by omega) (by omega)
 have i0:(0:Int)<=(pL.length:Int)+2:=by omega
 have i1:(pL.length:Int)+2<=(c:Int):=by omega
 have e2:((pL.length:Int)+2).toNat=pL.length+2:=by omega
 have hT:=qG O2.o
 have lg:=hT.1
 have t0:w2.cell? ⟨g,pL.length*10,none⟩=some (.int .i64 (-7)):=hT.2.2.2 pL.length mkI (by simp) 0 _ rfl
 have t1:w2.cell? ⟨g,(pL.length+1)*10,none⟩=some (.int .i64 (-7)):=hT.2.2.2 (pL.length+1) mkI (by rw [o3 (by omega)];simp) 0 _ rfl
 have i3:(pL.length:Int)<(pL.length:Int)+2:=by omega
 have i4:(0:Int)<=(pL.length:Int):=by omega
 have i5:(pL.length:Int)+1<(pL.length:Int)+2:=by omega
 have i6:(0:Int)<=(pL.length:Int)+1:=by omega
 have e1:((pL.length:Int)+1).toNat=pL.length+1:=by omega
 clear hT
 go_upto_region 5 with fail
 clear p0 q0 t0 t1 lg e1 e2 i0 i1 i3 i4 i5 i6
 have BB:=aD (B2.o.mono hbase)
 have GB:base<=g:=(aH O2.o (g:=g) rfl).1
 have B0:Hid (bkI=⟨8,0,0,9,0,0,0#256⟩):=aD rfl
 go_loopg [8] (pL.length+2) (fun k i wr=>∃ (j:Nat) (M:List Ins),j+k=pL.length+2/\i=.int .i64 (j:Int)/\wr.ownsRow base 54 10 (.slice (some ⟨g,0,none⟩) (pL.length+2) c) (pL.length+2) (bC M)/\Below base w wr)
 case atStart=>exact⟨0,_,by omega,rfl,O2.o,BB.o⟩
 case round=>
  obtain⟨j,M,hjk,rfl,hO,hB⟩:=hrel
  have O:=aD hO
  have B:=aD hB
  have lg:=(aH hO (g:=g) rfl).2.1
  clear hO hB
  by_cases hj:j<pL.length+2
  ·have j0:(0:Int)<=(j:Int):=by omega
   have j1:(j:Int)<(pL.length:Int)+2:=by omega
   go_wp2_with (refine aH7 ?_;refine nC rfl _ _ rfl bkI O.o hj ?hx ?hy ?hz)
   case hx=>first |(simp [Act.eval];done) | rfl
   case hy=>first |(simp [Act.eval,bkI,bA];done) |(show _=Value.agg _;simp [bkI,bA];rfl)
   case hz=>
    intro w' h1 h2
    have O3:=aD h1
    have B3:=aD (h2.below (j4 hbase B.o.size) (fun z hz=>by rw [show z=g from hz];exact GB))
    clear h1 h2
    go_wp2
    go_roundg (pL.length+2-(j+1))
    case measure=>omega
    case rel=>exact⟨j+1,_,by omega,by go_num,O3.o,B.o.trans B3.o⟩
  ·have j1:¬ (j:Int)<(pL.length:Int)+2:=by omega
   go_wp2
   go_ret
   exact⟨rfl,B.o⟩
end
section
set_option linter.unusedSimpArgs false
set_option linter.unusedVariables false
attribute [local go_sem] Oper.semAt_some
theorem nH:(Tryz.prog.info? 31).map (fun i=>(i.zero,i.size,i.bytes))=some (some (.slice none 0 0),1,24):=by kernel_rfl
theorem rE:Tryz.prog.underlying 34=some (.slice 31):=by kernel_rfl
theorem vF(l:List Int)(i:Nat)(x:Int):(cJ l).set i (.int .i64 x)=cJ (l.set i x):=by simp [cJ,List.map_set]
structure LS(V0 V:World)(lv:Value)(vs:List Value)(ls:List (List Int)):Prop where
 bel:wBl V0 V
 len:ls.length=vs.length
 row:V.ownsRow V0.heap.size 31 1 lv vs.length vs
 own:∀ (j:Nat) v l,vs[j]?=some v->ls[j]?=some l->OI V0.heap.size V v l
 ap:∀ (i j:Nat) v v',i≠j->vs[i]?=some v->vs[j]?=some v'->v.ownBlock=none\/v.ownBlock≠v'.ownBlock
theorem aG2(V0:World):LS V0 V0 (.slice none 0 0) [] []:=⟨Below.refl _ _,rfl,j8 _ _ _ _,fun j v l h=>by simp at h,fun i j v v' _ h=>by simp at h⟩
theorem LS.kept{V0 V V':World}{lv:Value}{vs:List Value}{ls:List (List Int)}(h:LS V0 V lv vs ls)(hb:wBl V V'):LS V0 V' lv vs ls:=
 ⟨h.bel.trans (hb.mono h.bel.size),h.len,cW h.row hb,fun j v l h1 h2=>OI.kept (h.own j v l h1 h2) hb,h.ap⟩
theorem pK{b b':Nat}{V:World}{v lv:Value}{l:List Int}{n:Nat}{xs:List Value}(h:OI b V v l)(h':V.ownsRow b' 31 1 lv n xs):v.ownBlock=none\/v.ownBlock≠lv.ownBlock:=by
 cases e:v.ownBlock with
 | none=>exact .inl rfl
 | some k=>
  refine .inr fun q=>?_
  obtain⟨_,_,cur,h1⟩:=aH h e
  obtain⟨_,_,cur',h2⟩:=aH h' q.symm
  rw [h1] at h2
  cases h2
theorem nO{b b':Nat}{V:World}{v lv:Value}{l:List Int}{n:Nat}{xs:List Value}(h:OI b V v l)(h':V.ownsRow b' 31 1 lv n xs):lv.ownBlock=none\/lv.ownBlock≠v.ownBlock:=by
 cases e:lv.ownBlock with
 | none=>exact .inl rfl
 | some k=>
  rcases pK h h' with q | q
  ·exact .inr (by rw [q];simp)
  ·exact .inr (fun r=>q (by rw [e];exact r.symm))
theorem LS.push{V0 V V':World}{lv lv' v:Value}{vs:List Value}{ls:List (List Int)}{l:List Int}{o:Obj}(h:LS V0 V lv vs ls)(hv:OI V0.heap.size V v l)(hf:∀ (j:Nat) u,vs[j]?=some u->u.ownBlock=none\/u.ownBlock≠v.ownBlock)
  (hown:V'.ownsRow V0.heap.size 31 1 lv' (vs.length+1) (vs++[v])) (hg:(V.alloc o).grownBy V' lv.ownBlock):LS V0 V' lv' (vs++[v]) (ls++[l]):=by
 have k:∀ u m,OI V0.heap.size V u m->OI V0.heap.size V' u m:=fun u m hu=>(i9 hu o).kept hg (pK hu h.row)
 refine⟨?_,by simp [h.len],by rw [j2];exact hown,?_,?_⟩
 ·exact(h.bel.alloc h.bel.size _).grown hg (by have:=h.bel.size;simp;omega) (fun z hz=>(aH h.row hz).1)
 ·intro j u m h1 h2
  by_cases hj:j<vs.length
  ·rw [j7 hj] at h1
   rw [j7 (by rw [h.len];exact hj)] at h2
   exact k u m (h.own j u m h1 h2)
  ·rw [o3 (by omega)] at h1
   rw [o3 (by rw [h.len];omega),h.len] at h2
   obtain⟨h3,h4⟩:=g7.1 h1
   have hz:j-vs.length=0:=by simp at h3;omega
   rw [hz] at h1 h2
   simp at h1 h2
   subst h1 h2
   exact k _ _ hv
 ·intro i j u u' hne h1 h2
  have hi:=(g7.1 h1).1
  have hj:=(g7.1 h2).1
  rw [j2,List.length_singleton] at hi hj
  by_cases hi2:i<vs.length
  ·rw [j7 hi2] at h1
   by_cases hj2:j<vs.length
   ·rw [j7 hj2] at h2
    exact h.ap i j u u' hne h1 h2
   ·rw [o3 (by omega),show j-vs.length=0 by omega] at h2
    simp at h2
    subst h2
    exact hf i u h1
  ·rw [o3 (by omega),show i-vs.length=0 by omega] at h1
   simp at h1
   subst h1
   rw [j7 (by omega)] at h2
   rcases hf j u' h2 with q | q
   ·cases e:v.ownBlock with
    | none=>exact .inl rfl
    | some z=>exact .inr (by rw [q];simp)
   ·exact .inr (fun r=>q r.symm)
theorem LS.put{V0 V:World}{lv:Value}{vs:List Value}{ls:List (List Int)}{l:List Int}{j g n c k:Nat}(h:LS V0 V lv vs ls)(hv:vs[j]?=some (.slice (some ⟨g,0,none⟩) n c))(hl:ls[j]?=some l)(x:Int):LS V0 (V.setCell ⟨g,k,none⟩ (.int .i64 x)) lv vs (ls.set j (l.set k x)):=by
 have ho:=h.own j _ _ hv hl
 have hn:n=l.length:=by
  rcases ho.2 with⟨e,h2⟩ | ⟨_,_,_,e,_⟩
  ·cases e
  ·cases e;rfl
 subst hn
 have hf:Fr (At1 g) V (V.setCell ⟨g,k,none⟩ (.int .i64 x)):=(Fr.refl (At1 g) V).setCell (p:=⟨g,k,none⟩) rfl _
 refine⟨h.bel.setCell (aH ho (g:=g) rfl).1 _,by simp [h.len],aL h.row hf (fun z hz e=>?_),?_,h.ap⟩
 ·rcases nO ho h.row with q | q
  ·rw [q] at hz;cases hz
  ·exact q (by rw [hz,show z=g from e];rfl)
 ·intro i u m h1 h2
  by_cases e:i=j
  ·subst e
   rw [hv] at h1
   obtain rfl:=j3 h1
   rw [l8 (g7.1 hl).1] at h2
   obtain rfl:=j3 h2
   have:=(World.ownsRow.stored ho k (.int .i64 x)).1
   rw [vF] at this
   unfold OI
   rw [List.length_set]
   exact this
  ·rw [n7 (fun q=>e q.symm)] at h2
   refine aL (h.own i u m h1 h2) hf (fun z hz r=>?_)
   rcases h.ap i j u _ e h1 hv with q | q
   ·rw [q] at hz;cases hz
   ·exact q (by rw [hz,show z=g from r];rfl)
theorem LS.lt{V0 V:World}{lv:Value}{vs:List Value}{ls:List (List Int)}(h:LS V0 V lv vs ls){i:Nat}{u:Value}(hu:vs[i]?=some u){z:Nat}(hz:u.ownBlock=some z):z<V.heap.size:=by
 obtain⟨m,hm⟩:∃ m,ls[i]?=some m:=⟨_,i8 (by rw [h.len];exact(g7.1 hu).1)⟩
 exact(aH (h.own i u m hu hm) hz).2.1
theorem rI{α:Type}{l:List α}{j:Nat}{a:α}(h:l[j]?=some a):l.set j a=l:=by
 apply List.ext_getElem?
 intro k
 by_cases e:j=k
 ·subst e
  rw [l8 (g7.1 h).1,h]
 ·rw [n7 e]
theorem LS.mid{V0 V V':World}{v:Value}{vs:List Value}{ls:List (List Int)}{l:List Int}{o:Obj}{i j gr cr n:Nat}{u:Value}(h:LS V0 V (.slice (some ⟨gr,0,none⟩) n cr) vs ls)(hn:n=vs.length)(hv:vs[j]?=some v)(hl:ls[j]?=some l)(hg:(V.alloc o).grownBy V' v.ownBlock)(hu:vs[i]?=some u):gr<V'.heap.size/\V'.cell? ⟨gr,i,none⟩=some u/\V'.frozen? ⟨gr,i,none⟩=false:=by
 subst hn
 have row1:=(i9 h.row o).kept hg (nO (h.own j _ _ hv hl) h.row)
 exact⟨(aH row1 (g:=gr) rfl).2.1,bY row1 hu,World.ownsRow.frozenAt row1 i⟩
theorem LS.grow{V0 V V':World}{v v':Value}{vs:List Value}{ls:List (List Int)}{l:List Int}{o:Obj}{j gr cr n:Nat}{x:Int}(h:LS V0 V (.slice (some ⟨gr,0,none⟩) n cr) vs ls)(hn:n=vs.length)(hv:vs[j]?=some v)(hl:ls[j]?=some l)
  (hown:V'.ownsRow V0.heap.size 3 1 v' (l.length+1) (cJ l++[.int .i64 x])) (hg:(V.alloc o).grownBy V' v.ownBlock) (hb:v'.ownBlock=v.ownBlock\/v'.ownBlock=some (V.alloc o).heap.size):LS V0 (V'.setCell ⟨gr,j,none⟩ v') (.slice (some ⟨gr,0,none⟩) n cr) (vs.set j v') (ls.set j (l++[x])):=by
 subst hn
 have ho:=h.own j _ _ hv hl
 have hj:=(g7.1 hv).1
 have row1:=(i9 h.row o).kept hg (nO ho h.row)
 have own1:OI V0.heap.size V' v' (l++[x]):=by
  unfold OI
  rw [j2,dT]
  exact hown
 have hf:Fr (At1 gr) V' (V'.setCell ⟨gr,j,none⟩ v'):=(Fr.refl (At1 gr) V').setCell (p:=⟨gr,j,none⟩) rfl _
 have hne:∀ {u:Value} {m:List Int},OI V0.heap.size V' u m->∀ z,u.ownBlock=some z->¬ At1 gr z:=by
  intro u m hu z hz e
  rcases pK hu row1 with q | q
  ·rw [q] at hz;cases hz
  ·exact q (by rw [hz,show z=gr from e];rfl)
 have ap1:∀ (i:Nat) u,i≠j->vs[i]?=some u->u.ownBlock=none\/u.ownBlock≠v'.ownBlock:=by
  intro i u hi hu
  rcases hb with q | q
  ·rw [q];exact h.ap i j u v hi hu hv
  ·cases e:u.ownBlock with
   | none=>exact .inl rfl
   | some z=>
    have:=h.lt hu e
    refine .inr fun r=>?_
    rw [q] at r
    have hz:=j3 r
    simp at hz
    omega
 have hB:wBl V0 V':=(h.bel.alloc h.bel.size _).grown hg (by have:=h.bel.size;simp;omega) (fun z hz=>(aH ho hz).1)
 refine⟨hB.setCell (aH row1 (g:=gr) rfl).1 _,by simp [h.len],?_,?_,?_⟩
 ·have:=(World.ownsRow.stored row1 j v').1
  rw [List.length_set]
  exact this
 ·intro i u m h1 h2
  by_cases e:i=j
  ·subst e
   rw [l8 hj] at h1
   rw [l8 (by rw [h.len];exact hj)] at h2
   obtain rfl:=j3 h1
   obtain rfl:=j3 h2
   exact aL own1 hf (fun z hz=>hne own1 z hz)
  ·rw [n7 (fun q=>e q.symm)] at h1 h2
   have k:OI V0.heap.size V' u m:=(i9 (h.own i u m h1 h2) o).kept hg (h.ap i j u v e h1 hv)
   exact aL k hf (fun z hz=>hne k z hz)
 ·intro i i' u u' hne2 h1 h2
  by_cases e:i=j
  ·subst e
   rw [l8 hj] at h1
   rw [n7 hne2] at h2
   obtain rfl:=j3 h1
   rcases ap1 i' u' (fun q=>hne2 q.symm) h2 with q | q
   ·cases e2:v'.ownBlock with
    | none=>exact .inl rfl
    | some z=>exact .inr (by rw [q];simp)
   ·exact .inr (fun r=>q r.symm)
  ·rw [n7 (fun q=>e q.symm)] at h1
   by_cases e':i'=j
   ·subst e'
    rw [l8 hj] at h2
    obtain rfl:=j3 h2
    exact ap1 i u e h1
   ·rw [n7 (fun q=>e' q.symm)] at h2
    exact h.ap i i' u u' hne2 h1 h2
theorem LS.cell{V0 V:World}{gr cr n:Nat}{vs:List Value}{ls:List (List Int)}(h:LS V0 V (.slice (some ⟨gr,0,none⟩) n cr) vs ls)(hn:n=vs.length){j:Nat}{v:Value}(hv:vs[j]?=some v):gr<V.heap.size/\V.cell? ⟨gr,j,none⟩=some v/\V.frozen? ⟨gr,j,none⟩=false:=by
 subst hn
 exact⟨(aH h.row (g:=gr) rfl).2.1,bY h.row hv,World.ownsRow.frozenAt h.row j⟩
theorem xW{V0 V V':World}{lv v:Value}{vs:List Value}{ls:List (List Int)}{l:List Int}(h:LS V0 V lv vs ls)(hv:OI V.heap.size V' v l):∀ (k:Nat) u,vs[k]?=some u->u.ownBlock=none\/u.ownBlock≠v.ownBlock:=by
 intro k u hu
 cases e1:u.ownBlock with
 | none=>exact .inl rfl
 | some z=>
  have h1:=h.lt hu e1
  refine .inr fun e2=>?_
  have h2:=(aH hv e2.symm).1
  omega
end
section
attribute [local go_sem] Oper.semAt_some
theorem zM{w:World}{p:Pg}(h:PgI w p):Calls Tryz.prog 13 #[.agg #[.slice p.q p.L.length p.c,.int .i64 p.g,.int .i64 p.k,.bool p.f]] w fun e w'=>e=.returned (.bool (eV p))/\wBl w w':=by
 have B1:Hid (wBl w (w.alloc (.cells #[.slice p.q p.L.length p.c,.int .i64 p.g,.int .i64 p.k,.bool p.f] 24))):=bz9
 have X1:Hid ((w.alloc (.cells #[.slice p.q p.L.length p.c,.int .i64 p.g,.int .i64 p.k,.bool p.f] 24)).heap[w.heap.size]?=some (.cells #[.slice p.q p.L.length p.c,.int .i64 p.g,.int .i64 p.k,.bool p.f] 24 (0,0))):=aE w _
 have H:=aD (h.kept B1.o)
 have hlen:=h.len
 obtain⟨r,hr⟩:∃ r,eV p=r:=⟨_,rfl⟩
 rw [hr]
 have HR:Hid ((!p.L.any dK)=r):=aD hr
 clear h hr
 go_enter Tryz.func13,Tryz.ntmps13
 go_upto_region 1 with fail
 generalize (w.alloc (.cells #[.slice p.q p.L.length p.c,.int .i64 p.g,.int .i64 p.k,.bool p.f] 24))=w1 at B1 X1 H ⊢
 have x0:w1.cell? ⟨w.heap.size,0,none⟩=some (.slice p.q p.L.length p.c):=aA X1.o (i:=0) rfl
 go_wp2
 go_loopw [3] (fun i wr=>∃ j:Nat,j<=p.L.length/\i=.int .i64 (j:Int)/\(p.L.take j).any dK=false/\wr=w1) (fun i _=>p.L.length-(intOf i).toNat)
 case atStart=>exact⟨0,Nat.zero_le _,rfl,rfl,rfl⟩
 case round=>
  obtain⟨j,hj,rfl,hpre,hwr⟩:=hrel
  subst hwr
  have HP:=aD hpre
  clear hpre
  by_cases hjl:j<p.L.length
  ·have i0:(j:Int)<(p.L.length:Int):=by omega
   obtain⟨a9,hga⟩:∃ a,p.L[j]?=some a:=⟨_,i8 hjl⟩
   obtain⟨g1,o1,hq1,hl1,c0,c1,c2,c3,c4,c5,c6,c7,c8,c9⟩:=H.o.li.ten hga
   clear c1 c2 c3 c4 c5 c6 c7 c8 c9
   have GA:=aD hga
   have hw1:IntKind.wrap .i64 ((j:Int)+1)=(j:Int)+1:=wrap_small _ (by omega) (by omega)
   rw [hq1] at x0
   obtain⟨oo,hoo⟩:∃ oo,a9.op=oo:=⟨_,rfl⟩
   rw [hoo] at c0
   have HOO:=aD hoo
   clear hga hoo hq1
   have yes:∀ o:Int,oo=o->(o=8\/o=9\/o=10)->r=false:=fun o e h=>by
    rw [<- HR.o]
    have:p.L.any dK=true:=List.any_eq_true.2 ⟨a9,n6 GA.o,by unfold dK;rw [HOO.o,e];rcases h with rfl | rfl | rfl <;> rfl⟩
    rw [this]
    rfl
   have Y:=aD yes
   clear yes
   by_cases h8:oo=8
   ·have HN:=aD (Y.o 8 h8 (.inl rfl))
    subst h8
    go_wp2
    go_ret
    exact⟨by rw [HN.o];rfl,B1.o⟩
   by_cases h9:oo=9
   ·have HN:=aD (Y.o 9 h9 (.inr (.inl rfl)))
    subst h9
    go_wp2
    go_ret
    exact⟨by rw [HN.o];rfl,B1.o⟩
   by_cases h10:oo=10
   ·have HN:=aD (Y.o 10 h10 (.inr (.inr rfl)))
    subst h10
    go_wp2
    go_ret
    exact⟨by rw [HN.o];rfl,B1.o⟩
   have e8:(oo==8)=false:=by rw [i7];exact h8
   have e9:(oo==9)=false:=by rw [i7];exact h9
   have e10:(oo==10)=false:=by rw [i7];exact h10
   have HN:=aD (show (p.L.take (j+1)).any dK=false by
    rw [n5,GA.o,List.any_append,HP.o]
    simp only [Option.toList_some,List.any_cons,List.any_nil,Bool.or_false,Bool.false_or]
    unfold dK
    rw [HOO.o,e8,e9,e10]
    rfl)
   clear h8 h9 h10
   go_wp2
   go_roundw
   case rel=>exact⟨j+1,by omega,by go_num,HN.o,by first | rfl | trivial⟩
   case measure=>simp only [intOf];omega
  ·have i0:¬ (j:Int)<(p.L.length:Int):=by omega
   have HN:Hid (r=true):=aD (by
    have:=HP.o
    rw [k6 (by omega)] at this
    rw [<- HR.o,this]
    rfl)
   go_wp2
   go_ret
   exact⟨by rw [HN.o];rfl,B1.o⟩
end
section
attribute [local go_sem] Oper.semAt_some
theorem iG{P:Program}(w:World)(t xT e:TypeId)(v:Value)(h:P.underlying t=some (.pointer e)):(Instr.typeAssert (.iface t v) xT t false).run P w=.ok v w:=by
 simp [Instr.typeAssert,run_underlying h,go_sem,Result.andThen]
theorem yX:Tryz.prog.underlying 87=some (.pointer 92):=by kernel_rfl
abbrev pnc(g:Nat):PanicEntry:={ v:=.iface 87 (.pointer (some ⟨g,0,none⟩)),recovered:=false }
theorem mD(p q:Addr)(w:World) :
  CallsD Tryz.prog 39 #[.pointer (some p),.pointer (some q)] .returning w fun e u' w'=>e=.returned (.tuple #[])/\u'=.returning/\w'=w:=by
 refine callsD_of_wpS Tryz.func39 rfl fun c₀ cs hu=>?_
 apply wpS_seq
 apply wpS_region
 simp [wpOpsS,go_sem,recoverD,hu,Tryz.ntmps39,Exit.thenS]
 refine wpS_of_wp ?_
 rw [show (#[Value.pointer (some p),Value.pointer (some q)]++((Array.replicate 8 undef).setIfInBounds 1 Value.nilIface).setIfInBounds 0 Value.nilIface)=#[Value.pointer (some p),Value.pointer (some q),.nilIface,.nilIface,undef,undef,undef,undef,undef,undef] from rfl]
 go_wp2
 cases c₀
 simp_all [bodyPostS,results,Tryz.results39]
theorem gF(p q g:Nat)(older:List PanicEntry)(w:World)(hp:w.heap[p]?=some (.cells #[.slice none 0 0,.int .i64 0,.int .i64 0,.bool false] 24 (0,0)))(hq:w.heap[q]?=some (.cells #[.nilIface] 47 (0,0)))(hpq:p≠q) :
  CallsD Tryz.prog 39 #[.pointer (some ⟨p,0,none⟩),.pointer (some ⟨q,0,none⟩)] (.panicking (pnc g :: older)) w fun e u' w'=>
   e=.returned (.tuple #[])/\u'=.panicking ({ v:=.iface 87 (.pointer (some ⟨g,0,none⟩)),recovered:=true } :: older)/\w'.heap[p]?=some (.cells #[.slice none 0 0,.int .i64 0,.int .i64 0,.bool false] 24 (0,0))/\w'.heap[q]?=some (.cells #[.iface 87 (.pointer (some ⟨g,0,none⟩))] 47 (0,0))/\Fr (fun k=>k=p\/k=q) w w':=by
 refine callsD_of_wpS Tryz.func39 rfl fun c₀ cs hu=>?_
 apply wpS_seq
 apply wpS_region
 simp [wpOpsS,go_sem,recoverD,hu,Tryz.ntmps39,Exit.thenS]
 refine wpS_of_wp ?_
 rw [show (#[Value.pointer (some ⟨p,0,none⟩),Value.pointer (some ⟨q,0,none⟩)]++((Array.replicate 8 undef).setIfInBounds 1 (.iface 87 (.pointer (some ⟨g,0,none⟩)))).setIfInBounds 0 (.iface 87 (.pointer (some ⟨g,0,none⟩))))=#[Value.pointer (some ⟨p,0,none⟩),Value.pointer (some ⟨q,0,none⟩),.iface 87 (.pointer (some ⟨g,0,none⟩)),.iface 87 (.pointer (some ⟨g,0,none⟩)),undef,undef,undef,undef,undef,undef] from rfl]
 have p0:=aA hp (i:=0) rfl
 have p1:=aA hp (i:=1) rfl
 have p2:=aA hp (i:=2) rfl
 have p3:=aA hp (i:=3) rfl
 have q0:=aA hq (i:=0) rfl
 have pf0:=aG hp 0
 have pf1:=aG hp 1
 have pf2:=aG hp 2
 have pf3:=aG hp 3
 have qf:=aG hq 0
 have hta:∀ W,(Instr.typeAssert (.iface 87 (.pointer (some ⟨g,0,none⟩))) 20 87 false).run Tryz.prog W=.ok (.pointer (some ⟨g,0,none⟩)) W:=fun W=>iG W _ _ _ _ yX
 go_wp2
 go_region
 refine⟨rfl,_,rfl,.tuple #[],by simp [results,Tryz.results39],rfl,rfl,?_,?_,?_⟩
 ·exact cX (aI (aI (aI (aI hp 0 _) 1 _) 2 _) 3 _) hpq 0 _
 ·exact aI (cX (cX (cX (cX hq hpq.symm 0 _) hpq.symm 1 _) hpq.symm 2 _) hpq.symm 3 _) 0 _
 ·exact Fr.drew (Fr.setCell (S:=fun k=>k=p\/k=q) (Fr.setCell (S:=fun k=>k=p\/k=q) (Fr.setCell (S:=fun k=>k=p\/k=q) (Fr.setCell (S:=fun k=>k=p\/k=q) (Fr.setCell (S:=fun k=>k=p\/k=q) (Fr.refl _ _) (p:=⟨p,0,none⟩) (.inl rfl) _) (p:=⟨p,1,none⟩) (.inl rfl) _) (p:=⟨p,2,none⟩) (.inl rfl) _) (p:=⟨p,3,none⟩) (.inl rfl) _) (p:=⟨q,0,none⟩) (.inr rfl) _)
theorem xU{w:World}{b:Nat}{s:List UInt8}{m:Bool}{a:Int}(h:LB w b s m a):Calls Tryz.prog 74 #[.pointer (some ⟨b,0,none⟩)] w fun e w'=>e=.panicked [pnc w.heap.size]/\w'.heap[w.heap.size]?=some (.cells #[.int .i64 61,.int .i64 a] 92 (0,0))/\wBl w w':=by
 have c2:=aA h (i:=2) rfl
 go_enter Tryz.func74,Tryz.ntmps74
 go_wp2
 exact⟨rfl,rfl,aE w _,bz9⟩
theorem rO{w:World}{b:Nat}{s:List UInt8}{a:Int}{v:Value}(h:RB w b s a v)(hs:cL 10 s=(s,[],false))(hl:s.length<=1000000):Calls Tryz.prog 59 #[.pointer (some ⟨b,0,none⟩)] w fun e w'=>∃ g,e=.panicked [pnc g]/\w.heap.size<=g/\wBl w w':=by
 have H:=aD h
 have c0:=aA h (i:=0) rfl
 have HX:=aD (qT s 10 (by omega) w)
 rw [hs] at HX
 clear h hs
 go_enter Tryz.func59,Tryz.ntmps59
 go_upto_region 3 with (go_at_call 73;(with_reducible refine(HX.o).mono ?_);rintro e w5 ⟨rfl,h5⟩;have B5:=aD h5;have H5:=aD (H.o.kept h5);have d1:=aA H5.o (i:=1) rfl;clear h5)
 have L6:Hid (LB (w5.alloc (.cells #[.string (txt s),.bool true,.int .i64 a] 114)) w5.heap.size s true a):=aE w5 _
 have B6:Hid (wBl w (w5.alloc (.cells #[.string (txt s),.bool true,.int .i64 a] 114))):=aF B5.o (bz9) lz9
 generalize (w5.alloc (.cells #[.string (txt s),.bool true,.int .i64 a] 114))=w6 at L6 B6 ⊢
 have GU:=aD (xU L6.o)
 go_wp2_with (go_at_call 74;(with_reducible refine(GU.o).mono ?_);rintro e w7 ⟨rfl,h71,h72⟩;have B7:=aD (aF B6.o h72 lz9);clear h71 h72)
 exact⟨rfl,_,rfl,B6.o.size,B7.o⟩
theorem kN{w:World}{b:Nat}{s:List UInt8}{a:Int}{v:Value}(h:RB w b s a v)(hs:cL 10 s=(s,[],false))(hl:s.length<=1000000):Calls Tryz.prog 40 #[.pointer (some ⟨b,0,none⟩)] w fun e w'=>∃ g,e=.panicked [pnc g]/\w.heap.size<=g/\wBl w w':=by
 have B1:Hid (wBl w (w.alloc (.cells #[.slice none 0 0,.int .i64 0,.int .i64 0,.bool false] 24))):=bz9
 have HL:=aD (rO (h.kept B1.o) hs hl)
 clear h hs
 go_enter Tryz.func40,Tryz.ntmps40
 go_upto_region 1 with fail
 generalize (w.alloc (.cells #[.slice none 0 0,.int .i64 0,.int .i64 0,.bool false] 24))=w1 at B1 HL ⊢
 go_wp2_with (go_at_call 59;(with_reducible refine(HL.o).mono ?_);rintro e w7 ⟨g,rfl,h71,h72⟩;have G7:=aD h71;have B7:=aD (aF B1.o h72 lz9);clear h71 h72)
 exact⟨rfl,_,rfl,j4 B1.o.size G7.o,B7.o⟩
end
section
attribute [local go_sem] Oper.semAt_some
def RdP(w:World)(e:Ending)(w':World):Prop:=∃ q c,e=.returned (.tuple #[.agg #[.slice q 4 c,.int .i64 0,.int .i64 0,.bool false],.nilIface])/\w'.ownsRow w.heap.size 54 10 (.slice q 4 c) 4 (bC smL)/\wBl w w'
abbrev jO(w:World)(s:ByteArray):World:=((w.alloc (.cells #[.slice none 0 0,.int .i64 0,.int .i64 0,.bool false] 24)).alloc (.cells #[.nilIface] 47)).alloc (.cells #[.string s,.int .i64 0,.slice none 0 0] 89)
structure RFc(w wr:World):Prop where
 p:wr.heap[w.heap.size]?=some (.cells #[.slice none 0 0,.int .i64 0,.int .i64 0,.bool false] 24 (0,0))
 q:wr.heap[w.heap.size+1]?=some (.cells #[.nilIface] 47 (0,0))
 low:wBl w wr
theorem jN(w:World)(s:ByteArray):RFc w (jO w s)/\(jO w s).heap[w.heap.size+1+1]?=some (.cells #[.string s,.int .i64 0,.slice none 0 0] 89 (0,0)):=by
 have e1:(w.alloc (.cells #[.slice none 0 0,.int .i64 0,.int .i64 0,.bool false] 24)).heap.size=w.heap.size+1:=by simp
 have e2:((w.alloc (.cells #[.slice none 0 0,.int .i64 0,.int .i64 0,.bool false] 24)).alloc (.cells #[.nilIface] 47)).heap.size=w.heap.size+1+1:=by simp
 have h1:=aE w (.cells #[.slice none 0 0,.int .i64 0,.int .i64 0,.bool false] 24)
 have h2:=aE (w.alloc (.cells #[.slice none 0 0,.int .i64 0,.int .i64 0,.bool false] 24)) (.cells #[.nilIface] 47)
 have h3:=aE ((w.alloc (.cells #[.slice none 0 0,.int .i64 0,.int .i64 0,.bool false] 24)).alloc (.cells #[.nilIface] 47)) (.cells #[.string s,.int .i64 0,.slice none 0 0] 89)
 rw [e1] at h2
 rw [e2] at h3
 refine⟨⟨?_,?_,?_⟩,h3⟩
 ·exact(Below.heap_alloc _ _ _ (by rw [e2];omega)).trans ((Below.heap_alloc _ _ _ (by rw [e1];omega)).trans h1)
 ·exact(Below.heap_alloc _ _ _ (by rw [e2];omega)).trans h2
 ·exact((bz9).alloc (by omega) _).alloc (by omega) _
theorem zZ{w:World}(hT:z1_Tab w)(s:ByteArray)(hs:s=txt tx0):Calls Tryz.prog 17 #[.string s] w (RdP w):=by
 have hmf:∀ (fn:Fn) (first cap:Array Value) (w:World),(Instr.makeFunc fn first cap).run Tryz.prog w=.ok (.func fn first cap) w:=fun _ _ _ _=>rfl
 have FN:=aD (jN w s)
 have TB:=aD (hT.below (show wBl w (jO w s) from FN.o.1.low))
 have t2:=hT.1
 have HS:=aD hs
 clear hs hT
 go_enter_defers Tryz.func17,Tryz.ntmps17
 go_upto_region 3 with fail
 have e0:(((w.alloc (.cells #[.slice none 0 0,.int .i64 0,.int .i64 0,.bool false] 24)).alloc (.cells #[.nilIface] 47)).alloc (.cells #[.string s,.int .i64 0,.slice none 0 0] 89))=jO w s:=rfl
 have sz0:(jO w s).heap.size=w.heap.size+1+1+1:=by simp
 generalize (((w.alloc (.cells #[.slice none 0 0,.int .i64 0,.int .i64 0,.bool false] 24)).alloc (.cells #[.nilIface] 47)).alloc (.cells #[.string s,.int .i64 0,.slice none 0 0] 89))=w3 at e0 ⊢
 rw [<- e0] at FN TB sz0
 clear e0
 have R3:Hid (RB w3 (w.heap.size+1+1) tx0 0 (.slice none 0 0)):=aD (by have:=FN.o.2;rw [HS.o] at this;exact this)
 have HP:=aD (nN TB.o R3.o (by omega))
 go_upto_region 4 with (go_at_call 40;(with_reducible refine(HP.o).mono ?_);rintro e w4 ⟨q,c,rfl,h41,h42⟩;have P4:=aD ((h42.block _ (aC FN.o.1.p) (by show ¬ (w.heap.size=w.heap.size+1+1);omega)).trans FN.o.1.p);have Q4:=aD ((h42.block _ (aC FN.o.1.q) (by show ¬ (w.heap.size+1=w.heap.size+1+1);omega)).trans FN.o.1.q);have O4:=aD h41;have B4:Hid (wBl w w4):=aD (FN.o.1.low.trans (h42.below FN.o.1.low.size (fun k hk=>by have:k=w.heap.size+1+1:=hk;omega)));have c0:=aA P4.o (i:=0) rfl;have c1:=aA P4.o (i:=1) rfl;have c2:=aA P4.o (i:=2) rfl;have c3:=aA P4.o (i:=3) rfl;have f0:=aG P4.o 0;have f1:=aG P4.o 1;have f2:=aG P4.o 2;have f3:=aG P4.o 3;clear h41 h42)
 have FZ:=aD (eQ w4 w.heap.size (.slice q 4 c) (.int .i64 0) (.int .i64 0) (.bool false))
 have P5:Hid (((((w4.setCell ⟨w.heap.size,0,none⟩ (.slice q 4 c)).setCell ⟨w.heap.size,1,none⟩ (.int .i64 0)).setCell ⟨w.heap.size,2,none⟩ (.int .i64 0)).setCell ⟨w.heap.size,3,none⟩ (.bool false)).heap[w.heap.size]?=some (.cells #[.slice q 4 c,.int .i64 0,.int .i64 0,.bool false] 24 (0,0))):=aI (aI (aI (aI P4.o 0 _) 1 _) 2 _) 3 _
 clear c0 c1 c2 c3 f0 f1 f2 f3
 generalize ((((w4.setCell ⟨w.heap.size,0,none⟩ (.slice q 4 c)).setCell ⟨w.heap.size,1,none⟩ (.int .i64 0)).setCell ⟨w.heap.size,2,none⟩ (.int .i64 0)).setCell ⟨w.heap.size,3,none⟩ (.bool false))=w5 at FZ P5 ⊢
 have Q5:=aD ((FZ.o.block _ (aC Q4.o) (by show ¬ (w.heap.size+1=w.heap.size);omega)).trans Q4.o)
 have O5:=aD (aL (cV O4.o (show w.heap.size<=w3.heap.size by omega)) FZ.o (fun z hz e=>aJ O4.o P4.o (by decide) (by rw [hz,show z=_ from e])))
 have B5:Hid (wBl w w5):=aD (B4.o.trans (FZ.o.below B4.o.size (fun k hk=>by have:k=w.heap.size:=hk;omega)))
 have HR:Hid (Calls Tryz.prog 9 #[.agg #[.slice q 4 c,.int .i64 0,.int .i64 0,.bool false]] w5 (RtP ⟨q,smL,c,0,0,false⟩ w5)):=eI (p:=⟨q,smL,c,0,0,false⟩) ⟨(by decide:(4:Nat)<=9223372036854775807),LI.of_row O5.o⟩
 unfold RtP at HR
 rw [fV] at HR
 have d0:=aA P5.o (i:=0) rfl
 have d1:=aA P5.o (i:=1) rfl
 have d2:=aA P5.o (i:=2) rfl
 have d3:=aA P5.o (i:=3) rfl
 go_wp2_with (go_at_call 9;(with_reducible refine(HR.o).mono ?_);rintro e w6 ⟨rfl,h6⟩;have P6:=aD ((h6.block _ (aC P5.o)).trans P5.o);have Q6:=aD ((h6.block _ (aC Q5.o)).trans Q5.o);have O6:=aD (aL O5.o (Fr.of_below (S:=fun _=>False) h6) (fun _ _ q=>q));have B6:=aD (aF B5.o h6 lz9);have g0:=aA P6.o (i:=0) rfl;have g1:=aA P6.o (i:=1) rfl;have g2:=aA P6.o (i:=2) rfl;have g3:=aA P6.o (i:=3) rfl;have k0:=aG P6.o 0;have k1:=aG P6.o 1;have k2:=aG P6.o 2;have k3:=aG P6.o 3;have n0:=aA Q6.o (i:=0) rfl;have nf:=aG Q6.o 0;clear h6)
 have FY:=aD (eQ w6 w.heap.size (.slice q 4 c) (.int .i64 0) (.int .i64 0) (.bool false))
 have P7a:Hid (((((w6.setCell ⟨w.heap.size,0,none⟩ (.slice q 4 c)).setCell ⟨w.heap.size,1,none⟩ (.int .i64 0)).setCell ⟨w.heap.size,2,none⟩ (.int .i64 0)).setCell ⟨w.heap.size,3,none⟩ (.bool false)).heap[w.heap.size]?=some (.cells #[.slice q 4 c,.int .i64 0,.int .i64 0,.bool false] 24 (0,0))):=aI (aI (aI (aI P6.o 0 _) 1 _) 2 _) 3 _
 clear g0 g1 g2 g3 k0 k1 k2 k3 n0 nf d0 d1 d2 d3
 generalize ((((w6.setCell ⟨w.heap.size,0,none⟩ (.slice q 4 c)).setCell ⟨w.heap.size,1,none⟩ (.int .i64 0)).setCell ⟨w.heap.size,2,none⟩ (.int .i64 0)).setCell ⟨w.heap.size,3,none⟩ (.bool false))=w7 at FY P7a ⊢
 have Q7a:=aD ((FY.o.block _ (aC Q6.o) (by show ¬ (w.heap.size+1=w.heap.size);omega)).trans Q6.o)
 have O7a:=aD (aL O6.o FY.o (fun z hz e=>aJ O6.o P6.o (by decide) (by rw [hz,show z=_ from e])))
 have B7a:Hid (wBl w w7):=aD (B6.o.trans (FY.o.below B6.o.size (fun k hk=>by have:k=w.heap.size:=hk;omega)))
 have FX:Hid (Fr (At1 (w.heap.size+1)) w7 (w7.setCell ⟨w.heap.size+1,0,none⟩ .nilIface)):=Fr.setCell (S:=At1 (w.heap.size+1)) (Fr.refl _ _) (p:=⟨w.heap.size+1,0,none⟩) rfl _
 have Q8:Hid ((w7.setCell ⟨w.heap.size+1,0,none⟩ .nilIface).heap[w.heap.size+1]?=some (.cells #[.nilIface] 47 (0,0))):=aI Q7a.o 0 _
 generalize (w7.setCell ⟨w.heap.size+1,0,none⟩ .nilIface)=w8 at FX Q8 ⊢
 have P8:=aD ((FX.o.block _ (aC P7a.o) (by show ¬ (w.heap.size=w.heap.size+1);omega)).trans P7a.o)
 have O8:=aD (aL O7a.o FX.o (fun z hz e=>aJ O7a.o Q7a.o (by decide) (by rw [hz,show z=_ from e])))
 have B8:Hid (wBl w w8):=aD (B7a.o.trans (FX.o.below B7a.o.size (fun k hk=>by have:k=w.heap.size+1:=hk;omega)))
 have z0:=aA P8.o (i:=0) rfl
 have z1:=aA P8.o (i:=1) rfl
 have z2:=aA P8.o (i:=2) rfl
 have z3:=aA P8.o (i:=3) rfl
 have y0:=aA Q8.o (i:=0) rfl
 have hL:RdP w (.returned (.tuple #[.agg #[.slice q 4 c,.int .i64 0,.int .i64 0,.bool false],.nilIface])) w8:=⟨q,c,rfl,O8.o,B8.o⟩
 refine leaves_cons (f:=39) (args:=#[.pointer (some ⟨w.heap.size,0,none⟩),.pointer (some ⟨w.heap.size+1,0,none⟩)]) (by simp) (by simp [go_sem]) ?_
 refine(mD ⟨w.heap.size,0,none⟩ ⟨w.heap.size+1,0,none⟩ _).mono ?_
 rintro e u' w'' ⟨rfl,rfl,rfl⟩
 generalize RdP w=R at *
 simp [Leaves,settle,results,Tryz.results17,go_sem,z0,z1,z2,z3,y0]
 exact hL
def RdQ(w:World)(e:Ending)(w':World):Prop:=∃ g,e=.returned (.tuple #[.agg #[.slice none 0 0,.int .i64 0,.int .i64 0,.bool false],.iface 87 (.pointer (some ⟨g,0,none⟩))])/\wBl w w'
theorem xD{w:World}(s:ByteArray)(l:List UInt8)(hs:s=txt l)(hc:cL 10 l=(l,[],false))(hl:l.length<=1000000):Calls Tryz.prog 17 #[.string s] w (RdQ w):=by
 have hmf:∀ (fn:Fn) (first cap:Array Value) (w:World),(Instr.makeFunc fn first cap).run Tryz.prog w=.ok (.func fn first cap) w:=fun _ _ _ _=>rfl
 have FN:=aD (jN w s)
 have HS:=aD hs
 clear hs
 go_enter_defers Tryz.func17,Tryz.ntmps17
 go_upto_region 3 with fail
 have e0:(((w.alloc (.cells #[.slice none 0 0,.int .i64 0,.int .i64 0,.bool false] 24)).alloc (.cells #[.nilIface] 47)).alloc (.cells #[.string s,.int .i64 0,.slice none 0 0] 89))=jO w s:=rfl
 generalize (((w.alloc (.cells #[.slice none 0 0,.int .i64 0,.int .i64 0,.bool false] 24)).alloc (.cells #[.nilIface] 47)).alloc (.cells #[.string s,.int .i64 0,.slice none 0 0] 89))=w3 at e0 ⊢
 rw [<- e0] at FN
 clear e0
 have R3:Hid (RB w3 (w.heap.size+1+1) l 0 (.slice none 0 0)):=aD (by have:=FN.o.2;rw [HS.o] at this;exact this)
 have HP:=aD (kN R3.o hc hl)
 clear hc
 go_wp2_with (go_at_call 40;(with_reducible refine(HP.o).mono ?_);rintro e w4 ⟨g,rfl,h41,h42⟩;have P4:=aD ((h42.block _ (aC FN.o.1.p)).trans FN.o.1.p);have Q4:=aD ((h42.block _ (aC FN.o.1.q)).trans FN.o.1.q);have B4:Hid (wBl w w4):=aD (aF FN.o.1.low h42 lz9);clear h41 h42)
 refine leaves_cons (f:=39) (args:=#[.pointer (some ⟨w.heap.size,0,none⟩),.pointer (some ⟨w.heap.size+1,0,none⟩)]) (by simp) (by simp [go_sem]) ?_
 refine(gF w.heap.size (w.heap.size+1) g [] w4 P4.o Q4.o (by omega)).mono ?_
 rintro e u' w'' ⟨rfl,rfl,h1,h2,h3⟩
 have hL:RdQ w (.returned (.tuple #[.agg #[.slice none 0 0,.int .i64 0,.int .i64 0,.bool false],.iface 87 (.pointer (some ⟨g,0,none⟩))])) w'':=⟨g,rfl,B4.o.trans (h3.below B4.o.size (fun k hk=>by omega))⟩
 have z0:=aA h1 (i:=0) rfl
 have z1:=aA h1 (i:=1) rfl
 have z2:=aA h1 (i:=2) rfl
 have z3:=aA h1 (i:=3) rfl
 have y0:=aA h2 (i:=0) rfl
 generalize RdQ w=R at *
 simp [Leaves,settle,results,Tryz.results17,go_sem,z0,z1,z2,z3,y0]
 exact hL
end
section
attribute [local go_sem] Oper.semAt_some
def SmP(w:World)(e:Ending)(w':World):Prop:=∃ g,e=.returned (.agg #[.slice (some ⟨g,0,none⟩) 4 4,.int .i64 0,.int .i64 0,.bool false])/\w'.ownsRow w.heap.size 54 10 (.slice (some ⟨g,0,none⟩) 4 4) 4 (bC smL)/\wBl w w'
theorem zH(w:World):Calls Tryz.prog 16 #[] w (SmP w):=by
 go_enter Tryz.func16,Tryz.ntmps16
 go_wp2
 refine bodyPost_ret (v:=.agg #[.slice (some ⟨w.heap.size+1+1,0,none⟩) 4 4,.int .i64 0,.int .i64 0,.bool false]) (by simp [results,Tryz.results16,go_sem]) rfl ?_
 refine⟨_,rfl,⟨by simp [cY];rfl,.inr ⟨w.heap.size+1+1,4,#[.int .i64 2,.int .i64 1,.int .i64 3,.int .i64 0,.int .i64 0,.int .i64 0,.int .u64 0,.int .u64 0,.int .u64 0,.int .u64 0,.int .i64 1,.int .i64 0,.int .i64 0,.int .i64 0,.int .i64 0,.int .i64 0,.int .u64 0,.int .u64 8589934592,.int .u64 0,.int .u64 0,.int .i64 3,.int .i64 0,.int .i64 0,.int .i64 0,.int .i64 0,.int .i64 0,.int .u64 0,.int .u64 0,.int .u64 0,.int .u64 0,.int .i64 11,.int .i64 0,.int .i64 0,.int .i64 0,.int .i64 0,.int .i64 0,.int .u64 0,.int .u64 0,.int .u64 0,.int .u64 0],rfl,by omega,?_,j9 _,by unfold maxLen;omega,?_,?_⟩⟩,((bz9).alloc (by simp) _).alloc (by simp;omega) _⟩
 rotate_left
 ·rfl
 ·simp [bC,smL,inC,aL1,bA]
 ·have:=aE ((w.alloc (.cells #[.slice (some ⟨w.heap.size+1+1,0,none⟩) 4 4,.int .i64 0,.int .i64 0,.bool false] 24)).alloc (.cells #[.int .u64 0,.int .u64 8589934592,.int .u64 0,.int .u64 0] 52)) (.cells #[.int .i64 2,.int .i64 1,.int .i64 3,.int .i64 0,.int .i64 0,.int .i64 0,.int .u64 0,.int .u64 0,.int .u64 0,.int .u64 0,.int .i64 1,.int .i64 0,.int .i64 0,.int .i64 0,.int .i64 0,.int .i64 0,.int .u64 0,.int .u64 8589934592,.int .u64 0,.int .u64 0,.int .i64 3,.int .i64 0,.int .i64 0,.int .i64 0,.int .i64 0,.int .i64 0,.int .u64 0,.int .u64 0,.int .u64 0,.int .u64 0,.int .i64 11,.int .i64 0,.int .i64 0,.int .i64 0,.int .i64 0,.int .i64 0,.int .u64 0,.int .u64 0,.int .u64 0,.int .u64 0] 54)
  rw [r7,r7] at this
  exact this
theorem uV(q:Option Addr)(c:Nat):rcM ⟨q,smL,c,0,0,false⟩=[0,1,3,2]:=by kernel_rfl
theorem pQ(q:Option Addr)(c:Nat):eV ⟨q,smL,c,0,0,false⟩=true:=by kernel_rfl
theorem nK(q r:Option Addr)(c d:Nat):smB ⟨q,smL,c,0,0,false⟩ ⟨r,smL,d,0,0,false⟩=true:=by simp [smB]
theorem mH{w:World}{base c:Nat}{q:Option Addr}(h:w.ownsRow base 54 10 (.slice q 4 c) 4 (bC smL)):PgI w ⟨q,smL,c,0,0,false⟩:=⟨(by decide:(4:Nat)<=9223372036854775807),LI.of_row h⟩
theorem aB2{w:World}(hT:z1_Tab w):Calls Tryz.prog 4 #[] w fun e w'=>e=.returned (.bool true)/\wBl w w':=by
 have HT:=aD hT
 clear hT
 go_enter Tryz.func4,Tryz.ntmps4
 go_upto_region 2 with (go_at_call 16;(with_reducible refine(zH _).mono ?_);rintro e w1 ⟨g,rfl,h11,h12⟩;have G1:=aD (mH h11);have B1:=aD h12;clear h11 h12)
 have BA:wBl w1 (w1.alloc (.cells #[.slice (some ⟨g,0,none⟩) 4 4,.int .i64 0,.int .i64 0,.bool false] 24)):=bz9
 have B2:=aD (aF B1.o BA lz9)
 have G2:=aD (G1.o.kept BA)
 have X2:Hid ((w1.alloc (.cells #[.slice (some ⟨g,0,none⟩) 4 4,.int .i64 0,.int .i64 0,.bool false] 24)).heap[w1.heap.size]?=some (.cells #[.slice (some ⟨g,0,none⟩) 4 4,.int .i64 0,.int .i64 0,.bool false] 24)):=aE w1 _
 clear BA
 generalize (w1.alloc (.cells #[.slice (some ⟨g,0,none⟩) 4 4,.int .i64 0,.int .i64 0,.bool false] 24))=w2 at B2 G2 X2 ⊢
 have RT:Hid (Calls Tryz.prog 9 #[.agg #[.slice (some ⟨g,0,none⟩) 4 4,.int .i64 0,.int .i64 0,.bool false]] w2 fun e w'=>e=.returned (.tuple #[.int .i64 0,.int .i64 0])/\wBl w2 w'):=by
  have h:=eI G2.o
  unfold RtP at h
  rw [fV] at h
  exact h
 have p0:=aA X2.o (i:=0) rfl
 have p1:=aA X2.o (i:=1) rfl
 have p2:=aA X2.o (i:=2) rfl
 have p3:=aA X2.o (i:=3) rfl
 go_upto_region 3 with (go_at_call 9;(with_reducible refine(RT.o).mono ?_);rintro e w3 ⟨rfl,h3⟩;have B3:=aD (aF B2.o h3 lz9);have G3:=aD (G2.o.kept h3);have X3:=aD ((h3.block _ (aC X2.o)).trans X2.o);clear h3)
 clear p0 p1 p2 p3
 have p0:=aA X3.o (i:=0) rfl
 have p1:=aA X3.o (i:=1) rfl
 have p2:=aA X3.o (i:=2) rfl
 have p3:=aA X3.o (i:=3) rfl
 have TX:Hid (Calls Tryz.prog 10 #[.agg #[.slice (some ⟨g,0,none⟩) 4 4,.int .i64 0,.int .i64 0,.bool false]] w3 fun e w'=>e=.returned (.tuple #[.string ⟨#[112,114,111,103,114,97,109,32,48,32,48,10,115,112,108,105,116,32,49,32,51,10,98,121,116,101,32,54,49,10,106,117,109,112,32,48,10,109,97,116,99,104,10]⟩,.int .i64 0])/\wBl w3 w'):=by
  have h:=nF (p:=⟨some ⟨g,0,none⟩,smL,4,0,0,false⟩) G3.o (HT.o.below B3.o) rfl rfl rfl rfl
  exact h
 go_upto_region 4 with (go_at_call 10;(with_reducible refine(TX.o).mono ?_);rintro e w4 ⟨rfl,h3⟩;have B4:=aD (aF B3.o h3 lz9);have G4:=aD (G3.o.kept h3);have X4:=aD ((h3.block _ (aC X3.o)).trans X3.o);clear h3)
 clear p0 p1 p2 p3
 have RO:=aD (zZ (HT.o.below B4.o) ⟨#[112,114,111,103,114,97,109,32,48,32,48,10,115,112,108,105,116,32,49,32,51,10,98,121,116,101,32,54,49,10,106,117,109,112,32,48,10,109,97,116,99,104,10]⟩ rfl)
 go_upto_region 5 with (go_at_call 17;(with_reducible refine(RO.o).mono ?_);rintro e w5 ⟨q,c,rfl,h51,h52⟩;have B5:=aD (aF B4.o h52 lz9);have G5:=aD (G4.o.kept h52);have X5:=aD ((h52.block _ (aC X4.o)).trans X4.o);have Q5:=aD (mH h51);clear h51 h52)
 have BA:wBl w5 (w5.alloc (.cells #[.slice q 4 c,.int .i64 0,.int .i64 0,.bool false] 24)):=bz9
 have B6:=aD (aF B5.o BA lz9)
 have G6:=aD (G5.o.kept BA)
 have Q6:=aD (Q5.o.kept BA)
 have X6:=aD ((BA.block _ (aC X5.o)).trans X5.o)
 have Y6:Hid ((w5.alloc (.cells #[.slice q 4 c,.int .i64 0,.int .i64 0,.bool false] 24)).heap[w5.heap.size]?=some (.cells #[.slice q 4 c,.int .i64 0,.int .i64 0,.bool false] 24)):=aE w5 _
 clear BA
 generalize (w5.alloc (.cells #[.slice q 4 c,.int .i64 0,.int .i64 0,.bool false] 24))=w6 at B6 G6 Q6 X6 Y6 ⊢
 have p0:=aA X6.o (i:=0) rfl
 have p1:=aA X6.o (i:=1) rfl
 have p2:=aA X6.o (i:=2) rfl
 have p3:=aA X6.o (i:=3) rfl
 have RC:Hid (Calls Tryz.prog 11 #[.agg #[.slice (some ⟨g,0,none⟩) 4 4,.int .i64 0,.int .i64 0,.bool false]] w6 fun e w'=>wBl w6 w'/\∃ k,e=.returned (.tuple #[.slice (some ⟨k,0,none⟩) 4 4,.int .i64 0])):=by
  have h:=mC G6.o (by rw [fV])
  unfold RcP at h
  rw [uV] at h
  exact h.mono fun e w' ⟨h1,k,h2,_⟩=>⟨h1,k,h2⟩
 go_upto_region 6 with (go_at_call 11;(with_reducible refine(RC.o).mono ?_);rintro e w7 ⟨h3,k7,rfl⟩;have B7:=aD (aF B6.o h3 lz9);have G7:=aD (G6.o.kept h3);have Q7:=aD (Q6.o.kept h3);have X7:=aD ((h3.block _ (aC X6.o)).trans X6.o);have Y7:=aD ((h3.block _ (aC Y6.o)).trans Y6.o);clear h3)
 clear p0 p1 p2 p3
 have RN:=aD (xD (w:=w7) ⟨#[112,114,111,103,114,97,109,32,48,32,48]⟩ [112,114,111,103,114,97,109,32,48,32,48] rfl (by decide) (by decide))
 go_upto_region 7 with (go_at_call 17;(with_reducible refine(RN.o).mono ?_);rintro e w8 ⟨g8,rfl,h3⟩;have B8:=aD (aF B7.o h3 lz9);have G8:=aD (G7.o.kept h3);have Q8:=aD (Q7.o.kept h3);have X8:=aD ((h3.block _ (aC X7.o)).trans X7.o);have Y8:=aD ((h3.block _ (aC Y7.o)).trans Y7.o);clear h3)
 have BA:wBl w8 (w8.alloc (.cells #[.slice none 0 0,.int .i64 0,.int .i64 0,.bool false] 24)):=bz9
 have B9:=aD (aF B8.o BA lz9)
 have G9:=aD (G8.o.kept BA)
 have Q9:=aD (Q8.o.kept BA)
 have X9:=aD ((BA.block _ (aC X8.o)).trans X8.o)
 have Y9:=aD ((BA.block _ (aC Y8.o)).trans Y8.o)
 clear BA
 generalize (w8.alloc (.cells #[.slice none 0 0,.int .i64 0,.int .i64 0,.bool false] 24))=w9 at B9 G9 Q9 X9 Y9 ⊢
 have p0:=aA X9.o (i:=0) rfl
 have p1:=aA X9.o (i:=1) rfl
 have p2:=aA X9.o (i:=2) rfl
 have p3:=aA X9.o (i:=3) rfl
 have q0:=aA Y9.o (i:=0) rfl
 have q1:=aA Y9.o (i:=1) rfl
 have q2:=aA Y9.o (i:=2) rfl
 have q3:=aA Y9.o (i:=3) rfl
 have SM:Hid (Calls Tryz.prog 18 #[.agg #[.slice (some ⟨g,0,none⟩) 4 4,.int .i64 0,.int .i64 0,.bool false],.agg #[.slice q 4 c,.int .i64 0,.int .i64 0,.bool false]] w9 fun e w'=>e=.returned (.bool true)/\wBl w9 w'):=by
  have h:=aF3 G9.o Q9.o
  rw [nK] at h
  exact h
 go_upto_region 8 with (go_at_call 18;(with_reducible refine(SM.o).mono ?_);rintro e wA ⟨rfl,h3⟩;have BB:=aD (aF B9.o h3 lz9);have GB:=aD (G9.o.kept h3);have XB:=aD ((h3.block _ (aC X9.o)).trans X9.o);clear h3)
 clear p0 p1 p2 p3 q0 q1 q2 q3
 have p0:=aA XB.o (i:=0) rfl
 have p1:=aA XB.o (i:=1) rfl
 have p2:=aA XB.o (i:=2) rfl
 have p3:=aA XB.o (i:=3) rfl
 have FR:Hid (Calls Tryz.prog 14 #[.agg #[.slice (some ⟨g,0,none⟩) 4 4,.int .i64 0,.int .i64 0,.bool false]] wA fun e w'=>e=.returned (.bool true)/\wBl wA w'):=by
  have h:=xX GB.o
  rw [pQ] at h
  exact h
 go_wp2_with (go_at_call 14;(with_reducible refine(FR.o).mono ?_);rintro e wC ⟨rfl,h3⟩;have BC:=aD (aF BB.o h3 lz9);clear h3)
 go_ret
 exact⟨rfl,BC.o⟩
end
section
set_option linter.unusedSimpArgs false
set_option linter.unusedVariables false
attribute [local go_sem] Oper.semAt_some
theorem aC6(t:ByteArray):(t==t)=true:=by
 cases t with
 | mk d=>
  show (d==d)=true
  simp
theorem aK3(p:Pg)(q:Option Addr)(c:Nat):∀ (L:List Ins) (k:Nat),fbI ⟨q,p.L,c,p.g,p.k,p.f⟩ k L=fbI p k L
 | [],k=>rfl
 | x :: r,k=>by
  unfold fbI
  have e:bE ⟨q,p.L,c,p.g,p.k,p.f⟩ k x=bE p k x:=by unfold bE;rfl
  rw [e,aK3 p q c r (k+1)]
theorem wU(p:Pg)(q:Option Addr)(c:Nat):rtE ⟨q,p.L,c,p.g,p.k,p.f⟩=rtE p:=by
 unfold rtE
 dsimp only
 rw [aK3]
theorem aC9(p:Pg)(q:Option Addr)(c:Nat):∀ (f k:Nat) (L:List Int),rcL ⟨q,p.L,c,p.g,p.k,p.f⟩ f k L=rcL p f k L
 | 0,_,_=>rfl
 | f+1,k,L=>by
  unfold rcL
  cases L[k]? with
  | none=>rfl
  | some a=>
   dsimp only
   cases p.L[a.toNat]? with
   | none=>rfl
   | some i=>
    dsimp only
    exact aC9 p q c f (k+1) _
theorem aI2(p:Pg)(q:Option Addr)(c:Nat):txA ⟨q,p.L,c,p.g,p.k,p.f⟩=txA p:=by
 unfold txA
 rw [wU]
 rfl
theorem aI3(p:Pg)(q:Option Addr)(c:Nat):rcA ⟨q,p.L,c,p.g,p.k,p.f⟩=rcA p:=by
 unfold rcA rcM
 rw [wU,aC9]
theorem aH0(p:Pg)(q:Option Addr)(c:Nat):eV ⟨q,p.L,c,p.g,p.k,p.f⟩=eV p:=by unfold eV;rfl
theorem yC{p:Pg}{V:World}{q:Option Addr}{c:Nat}(h:PgI V ⟨q,p.L,c,p.g,p.k,p.f⟩):Calls Tryz.prog 9 #[.agg #[.slice q p.L.length c,.int .i64 p.g,.int .i64 p.k,.bool p.f]] V fun e w'=>e=.returned (.tuple #[.int .i64 (rtE p).1,.int .i64 (rtE p).2])/\wBl V w':=by
 have:=eI h
 unfold RtP at this
 rw [wU] at this
 exact this
theorem aC1{p:Pg}{V:World}{q:Option Addr}{c:Nat}(h:PgI V ⟨q,p.L,c,p.g,p.k,p.f⟩)(hT:T14 V):Calls Tryz.prog 10 #[.agg #[.slice q p.L.length c,.int .i64 p.g,.int .i64 p.k,.bool p.f]] V (TxP p V):=by
 have:=vK h hT
 unfold TxP at this
 rw [wU,aI2] at this
 exact this
theorem yD{p:Pg}{V:World}{q:Option Addr}{c:Nat}(h:PgI V ⟨q,p.L,c,p.g,p.k,p.f⟩):Calls Tryz.prog 11 #[.agg #[.slice q p.L.length c,.int .i64 p.g,.int .i64 p.k,.bool p.f]] V (ReP p V):=by
 have:=pS h
 unfold ReP at this
 rw [wU,aI3] at this
 exact this
theorem aC4{p:Pg}{V:World}{q:Option Addr}{c:Nat}(h:PgI V ⟨q,p.L,c,p.g,p.k,p.f⟩):Calls Tryz.prog 14 #[.agg #[.slice q p.L.length c,.int .i64 p.g,.int .i64 p.k,.bool p.f]] V fun e w'=>e=.returned (.bool (eV p))/\wBl V w':=by
 have:=xX h
 rw [aH0] at this
 exact this
structure RgH(w:World)(p:Pg)(yb g c:Nat)(rv:Value)(R:List Int)(V:World):Prop where
 bel:wBl w V
 box:V.heap[w.heap.size]?=some (.cells #[.slice p.q p.L.length p.c,.int .i64 p.g,.int .i64 p.k,.bool p.f] 24 (0,0))
 qbx:V.heap[yb]?=some (.cells #[.slice (some ⟨g,0,none⟩) p.L.length c,.int .i64 p.g,.int .i64 p.k,.bool p.f] 24 (0,0))
 own:V.ownsRow w.heap.size 54 10 (.slice (some ⟨g,0,none⟩) (p.L.length+2) c) (p.L.length+2) (bC (p.L++[mkI,mkI]))
 pg:PgI V p
 tab:T14 V
 rd:OI w.heap.size V rv R
theorem RgH.then{w V V':World}{p:Pg}{yb g c:Nat}{rv:Value}{R:List Int}(h:RgH w p yb g c rv R V)(hb:wBl V V'):RgH w p yb g c rv R V':=
 ⟨h.bel.trans (hb.mono h.bel.size),(hb.block _ (aC h.box)).trans h.box,(hb.block _ (aC h.qbx)).trans h.qbx,cW h.own hb,h.pg.kept hb,h.tab.kept hb,OI.kept h.rd hb⟩
theorem nP{w:World}{p:Pg}(hT:T14 w)(hp:PgI w p)(hb:p.L.length*80+160<=140737488355328)(hqc:p.q=none->p.c=0) :
  Calls Tryz.prog 3 #[.agg #[.slice p.q p.L.length p.c,.int .i64 p.g,.int .i64 p.k,.bool p.f]] w fun e w'=>e=.returned (.bool true)/\wBl w w':=by
 have B1:Hid (wBl w (w.alloc (.cells #[.slice p.q p.L.length p.c,.int .i64 p.g,.int .i64 p.k,.bool p.f] 24))):=bz9
 have X1:Hid ((w.alloc (.cells #[.slice p.q p.L.length p.c,.int .i64 p.g,.int .i64 p.k,.bool p.f] 24)).heap[w.heap.size]?=some (.cells #[.slice p.q p.L.length p.c,.int .i64 p.g,.int .i64 p.k,.bool p.f] 24 (0,0))):=aE w _
 have P1:=aD (hp.kept B1.o)
 have T1:=aD (hT.kept B1.o)
 have HB:=aD hb
 have HQC:=aD hqc
 have RL:=qD p
 have TXT:Hid (∀ V,PgI V p->Calls Tryz.prog 7 #[.agg #[.slice p.q p.L.length p.c,.int .i64 p.g,.int .i64 p.k,.bool p.f]] V (TxP p V)):=aD (fun V h=>vI h)
 have RCH:Hid (∀ V,PgI V p->Calls Tryz.prog 8 #[.agg #[.slice p.q p.L.length p.c,.int .i64 p.g,.int .i64 p.k,.bool p.f]] V (ReP p V)):=aD (fun V h=>pR h)
 have RGT:Hid (∀ V,PgI V p->Calls Tryz.prog 6 #[.agg #[.slice p.q p.L.length p.c,.int .i64 p.g,.int .i64 p.k,.bool p.f]] V fun e w'=>e=.returned (.tuple #[.int .i64 (rtE p).1,.int .i64 (rtE p).2])/\wBl V w'):=aD (fun V h=>eZ h)
 have FRE:Hid (∀ V,PgI V p->Calls Tryz.prog 13 #[.agg #[.slice p.q p.L.length p.c,.int .i64 p.g,.int .i64 p.k,.bool p.f]] V fun e w'=>e=.returned (.bool (eV p))/\wBl V w'):=aD (fun V h=>zM h)
 have CRG:Hid (∀ V (q:Option Addr) (c:Nat),PgI V ⟨q,p.L,c,p.g,p.k,p.f⟩->Calls Tryz.prog 9 #[.agg #[.slice q p.L.length c,.int .i64 p.g,.int .i64 p.k,.bool p.f]] V fun e w'=>e=.returned (.tuple #[.int .i64 (rtE p).1,.int .i64 (rtE p).2])/\wBl V w'):=aD (fun V q c h=>yC h)
 have CTX:Hid (∀ V (q:Option Addr) (c:Nat),PgI V ⟨q,p.L,c,p.g,p.k,p.f⟩->T14 V->Calls Tryz.prog 10 #[.agg #[.slice q p.L.length c,.int .i64 p.g,.int .i64 p.k,.bool p.f]] V (TxP p V)):=aD (fun V q c h hT=>aC1 h hT)
 have CRC:Hid (∀ V (q:Option Addr) (c:Nat),PgI V ⟨q,p.L,c,p.g,p.k,p.f⟩->Calls Tryz.prog 11 #[.agg #[.slice q p.L.length c,.int .i64 p.g,.int .i64 p.k,.bool p.f]] V (ReP p V)):=aD (fun V q c h=>yD h)
 have CFR:Hid (∀ V (q:Option Addr) (c:Nat),PgI V ⟨q,p.L,c,p.g,p.k,p.f⟩->Calls Tryz.prog 14 #[.agg #[.slice q p.L.length c,.int .i64 p.g,.int .i64 p.k,.bool p.f]] V fun e w'=>e=.returned (.bool (eV p))/\wBl V w'):=aD (fun V q c h=>aC4 h)
 unfold TxP at TXT CTX
 unfold ReP at RCH CRC
 obtain⟨ra,hra⟩:∃ r,(rtE p).1=r:=⟨_,rfl⟩
 obtain⟨rb,hrb⟩:∃ r,(rtE p).2=r:=⟨_,rfl⟩
 obtain⟨tx,htx⟩:∃ r,txt (txA p)=r:=⟨_,rfl⟩
 obtain⟨R,hR⟩:∃ r,rcA p=r:=⟨_,rfl⟩
 obtain⟨fr,hfr⟩:∃ r,eV p=r:=⟨_,rfl⟩
 rw [hra] at TXT RCH RGT CRG CTX CRC
 rw [hrb] at RGT CRG
 rw [htx] at TXT CTX
 rw [hR] at RCH CRC RL
 rw [hfr] at FRE CFR
 clear hra hrb htx hR hfr
 have bst:=aC6 tx
 obtain⟨pq,pL,pc,pg,pk,pf⟩:=p
 dsimp only at *
 clear hp hT hb hqc
 go_enter Tryz.func3,Tryz.ntmps3
 go_upto_region 1 with fail
 generalize (w.alloc (.cells #[.slice pq pL.length pc,.int .i64 pg,.int .i64 pk,.bool pf] 24))=w1 at B1 X1 P1 T1 ⊢
 go_upto_region 2 with (go_at_call 4;(with_reducible refine(aB2 T1.o.z).mono ?_);rintro e w2 ⟨rfl,h2⟩;have B2:=aD (aF B1.o h2 lz9);have X2:=aD ((h2.block _ (aC X1.o)).trans X1.o);have P2:=aD (P1.o.kept h2);have T2:=aD (T1.o.kept h2);clear h2)
 have p0:=aA X2.o (i:=0) rfl
 have p1:=aA X2.o (i:=1) rfl
 have p2:=aA X2.o (i:=2) rfl
 have p3:=aA X2.o (i:=3) rfl
 have LN:=aD (aA9 P2.o HB.o HQC.o)
 unfold LeR at LN
 dsimp only at LN
 go_upto_region 3 with (go_at_call 5;(with_reducible refine(LN.o).mono ?_);rintro e w3 ⟨g,c,rfl,h31,h32⟩;have B3:=aD (aF B2.o h32 lz9);have X3:=aD ((h32.block _ (aC X2.o)).trans X2.o);have P3:=aD (P2.o.kept h32);have T3:=aD (T2.o.kept h32);have O3:=aD (cV h31 B2.o.size);clear h31 h32)
 clear p0 p1 p2 p3 LN
 obtain⟨yb,hyb⟩:∃ yb,w3.heap.size=yb:=⟨_,rfl⟩
 have BA:wBl w3 (w3.alloc (.cells #[.slice (some ⟨g,0,none⟩) pL.length c,.int .i64 pg,.int .i64 pk,.bool pf] 24)):=bz9
 have Y4:Hid ((w3.alloc (.cells #[.slice (some ⟨g,0,none⟩) pL.length c,.int .i64 pg,.int .i64 pk,.bool pf] 24)).heap[w3.heap.size]?=some (.cells #[.slice (some ⟨g,0,none⟩) pL.length c,.int .i64 pg,.int .i64 pk,.bool pf] 24 (0,0))):=aE w3 _
 have R4:Hid (∀ rv RR,OI w.heap.size (w3.alloc (.cells #[.slice (some ⟨g,0,none⟩) pL.length c,.int .i64 pg,.int .i64 pk,.bool pf] 24)) rv RR->RgH w ⟨pq,pL,pc,pg,pk,pf⟩ yb g c rv RR (w3.alloc (.cells #[.slice (some ⟨g,0,none⟩) pL.length c,.int .i64 pg,.int .i64 pk,.bool pf] 24))):=aD (fun rv RR hr=>⟨aF B3.o BA lz9,(BA.block _ (aC X3.o)).trans X3.o,by rw [<- hyb];exact Y4.o,cW O3.o BA,P3.o.kept BA,T3.o.kept BA,hr⟩)
 rw [hyb] at Y4 ⊢
 have H4:=aD (R4.o (.slice none 0 0) [] (j8 _ _ _ _))
 generalize (w3.alloc (.cells #[.slice (some ⟨g,0,none⟩) pL.length c,.int .i64 pg,.int .i64 pk,.bool pf] 24))=w4 at H4 ⊢
 clear R4 Y4 BA B1 X1 P1 T1 B2 X2 P2 T2 B3 X3 P3 T3 O3 hyb
 have x4:=H4.o.box
 have p0:=aA x4 (i:=0) rfl
 have p1:=aA x4 (i:=1) rfl
 have p2:=aA x4 (i:=2) rfl
 have p3:=aA x4 (i:=3) rfl
 clear x4
 go_upto_region 4 with (go_at_call 6;(with_reducible refine(RGT.o _ H4.o.pg).mono ?_);rintro e w5 ⟨rfl,h5⟩;have H5:=aD (H4.o.then h5);clear h5)
 clear p0 p1 p2 p3
 have x5:=H5.o.box
 have p0:=aA x5 (i:=0) rfl
 have p1:=aA x5 (i:=1) rfl
 have p2:=aA x5 (i:=2) rfl
 have p3:=aA x5 (i:=3) rfl
 clear x5
 go_upto_region 5 with (go_at_call 7;(with_reducible refine(TXT.o _ H5.o.pg).mono ?_);rintro e w6 ⟨rfl,h6⟩;have H6:=aD (H5.o.then h6);clear h6)
 clear p0 p1 p2 p3
 have x6:=H6.o.box
 have p0:=aA x6 (i:=0) rfl
 have p1:=aA x6 (i:=1) rfl
 have p2:=aA x6 (i:=2) rfl
 have p3:=aA x6 (i:=3) rfl
 clear x6
 go_upto_region 9 with (go_at_call 8;(with_reducible refine(RCH.o _ H6.o.pg).mono ?_);rintro e V0 ⟨rv,rfl,h71,h72⟩;have H7:Hid (RgH w ⟨pq,pL,pc,pg,pk,pf⟩ yb g c rv R V0):=aD ⟨(H6.o.then h72).bel,(H6.o.then h72).box,(H6.o.then h72).qbx,(H6.o.then h72).own,(H6.o.then h72).pg,(H6.o.then h72).tab,cV h71 H6.o.bel.size⟩;clear h71 h72)
 clear p0 p1 p2 p3 H4 H5 H6 RGT TXT RCH
 have KH:=aD (fun (V:World) (hV:wBl V0 V)=>H7.o.then hV)
 obtain⟨t0,hi,hz0,hz1,hz2⟩:=info_parts fT
 obtain⟨u0,ui,uz0,uz1,uz2⟩:=info_parts nH
 have LN0:=aD (aG2 V0)
 go_loopw [11,12,13] (fun lv ok i wr=>∃ (j:Nat) (vs:List Value),j<=2/\i=.int .i64 (j:Int)/\ok=.bool true/\vs.length=j/\LS V0 wr lv vs (List.replicate j R)) (fun _ _ i _=>2-(intOf i).toNat)
 case atStart=>exact⟨0,[],by omega,rfl,rfl,rfl,LN0.o⟩
 case round=>
  obtain⟨j,vs,hj,rfl,rfl,hvl,hL⟩:=hrel
  have L0:=aD hL
  have G0:=aD (KH.o _ hL.bel)
  by_cases hj2:j<2
  ·have i0:(j:Int)<2:=by omega
   have y:=G0.o.qbx
   have q0:=aA y (i:=0) rfl
   have q1:=aA y (i:=1) rfl
   have q2:=aA y (i:=2) rfl
   have q3:=aA y (i:=3) rfl
   clear y hL
   have QP:=aD (fun (V:World) (h:RgH w ⟨pq,pL,pc,pg,pk,pf⟩ yb g c rv R V)=>pH h.pg.len h.own)
   dsimp only at QP
   go_upto_region 12 with (go_at_call 9;(with_reducible refine(CRG.o _ _ _ (QP.o _ G0.o)).mono ?_);rintro e wa ⟨rfl,h5⟩;have L1:=aD (L0.o.kept h5);have G1:=aD (G0.o.then h5);clear h5)
   clear q0 q1 q2 q3 L0 G0
   have y:=G1.o.qbx
   have q0:=aA y (i:=0) rfl
   have q1:=aA y (i:=1) rfl
   have q2:=aA y (i:=2) rfl
   have q3:=aA y (i:=3) rfl
   clear y
   go_upto_region 13 with (go_at_call 10;(with_reducible refine(CTX.o _ _ _ (QP.o _ G1.o) G1.o.tab).mono ?_);rintro e wb ⟨rfl,h5⟩;have L2:=aD (L1.o.kept h5);have G2:=aD (G1.o.then h5);clear h5)
   clear q0 q1 q2 q3 L1 G1
   have y:=G2.o.qbx
   have q0:=aA y (i:=0) rfl
   have q1:=aA y (i:=1) rfl
   have q2:=aA y (i:=2) rfl
   have q3:=aA y (i:=3) rfl
   clear y
   go_upto_region 14 with (go_at_call 11;(with_reducible refine(CRC.o _ _ _ (QP.o _ G2.o)).mono ?_);rintro e wc ⟨v,rfl,h51,h52⟩;have L3:=aD (L2.o.kept h52);have G3:=aD (G2.o.then h52);have O3:=aD (cV h51 L2.o.bel.size);have F3:=aD (xW L2.o h51);clear h51 h52)
   clear q0 q1 q2 q3 L2 G2 QP
   have hR1:R.length<=1000000:=by omega
   have NB:=aD (mI O3.o G3.o.rd hR1)
   go_upto_region 15 with (go_at_call 12;(with_reducible refine(NB.o).mono ?_);rintro e wd ⟨rfl,h5⟩;have L4:=aD (L3.o.kept h5);have G4:=aD (G3.o.then h5);have O4:=aD (OI.kept O3.o h5);clear h5)
   clear NB L3 G3 O3
   have x:=G4.o.box
   have q0:=aA x (i:=0) rfl
   have q1:=aA x (i:=1) rfl
   have q2:=aA x (i:=2) rfl
   have q3:=aA x (i:=3) rfl
   clear x
   go_upto_region 16 with (go_at_call 13;(with_reducible refine(FRE.o _ G4.o.pg).mono ?_);rintro e we ⟨rfl,h5⟩;have L5:=aD (L4.o.kept h5);have G5:=aD (G4.o.then h5);have O5:=aD (OI.kept O4.o h5);clear h5)
   clear q0 q1 q2 q3 L4 G4 O4
   have y:=G5.o.qbx
   have q0:=aA y (i:=0) rfl
   have q1:=aA y (i:=1) rfl
   have q2:=aA y (i:=2) rfl
   have q3:=aA y (i:=3) rfl
   clear y
   have QP:=pH G5.o.pg.len G5.o.own
   dsimp only at QP
   have CF:=aD (CFR.o _ _ _ QP)
   clear QP
   go_upto_region 17 with (go_at_call 14;(with_reducible refine(CF.o).mono ?_);rintro e wf ⟨rfl,h5⟩;have L6:=aD (L5.o.kept h5);have O6:=aD (OI.kept O5.o h5);clear h5)
   clear q0 q1 q2 q3 L5 G5 O5 CF
   obtain⟨ql,cl,rfl⟩:=aK L6.o.row
   have sz:=L6.o.bel.size
   obtain⟨qv,cv,hv⟩:=aK O6.o
   subst hv
   go_wp2_with (at_builtin;refine wpList_append_own_at _ rfl _ _ 34 rfl V0.heap.size 31 u0 (.slice none 0 0) 1 24 rE ui uz0 uz1 uz2 rfl (by decide) (.slice ql vs.length cl) vs.length vs rfl (i9 L6.o.row _) ⟨wf.heap.size,0,none⟩ 1 1 [.slice qv R.length cv] rfl rfl (bH _ _ _) (by simp [Value.oneCell']) (by unfold maxLen;omega) (by omega) (by first | omega |(simp;omega)) ?_;intro v8 w8 hown hgrow _ _;have L8:=aD (L6.o.push O6.o F3.o hown hgrow);clear hown hgrow)
   go_roundw
   case rel=>exact⟨j+1,vs++[.slice qv R.length cv],by omega,by go_num,rfl,by rw [j2,hvl];rfl,by rw [List.replicate_succ'];exact L8.o⟩
   case measure=>simp only [intOf];omega
  ·obtain rfl:j=2:=by omega
   rw [show ((2:Nat):Int)=2 from rfl]
   obtain⟨gr,cr,hlv⟩:=cU hL.row (by omega)
   subst hlv
   rw [hvl] at L0 ⊢
   clear hL G0 CRG CTX CRC CFR FRE
   obtain⟨n,hn⟩:∃ n,R.length=n:=⟨_,rfl⟩
   have RP:Hid (∀ (m:Nat) l,(List.replicate 2 R)[m]?=some l->l.length=n/\(m<0->l=List.replicate n (-1-(m:Int)))):=aD (fun m l h=>by
    rw [s7] at h
    split at h
    ·cases h;exact⟨hn,fun q=>absurd q (Nat.not_lt_zero _)⟩
    ·cases h)
   rw [hn] at RL
   go_upto_region 19 with fail
   go_loopw [22] (fun i wr2=>∃ (j:Nat) (ls:List (List Int)),j<=2/\i=.int .i64 (j:Int)/\LS V0 wr2 (.slice (some ⟨gr,0,none⟩) 2 cr) vs ls/\∀ (m:Nat) l,ls[m]?=some l->l.length=n/\(m<j->l=List.replicate n (-1-(m:Int)))) (fun i _=>2-(intOf i).toNat)
   case atStart=>exact⟨0,_,by omega,rfl,L0.o,RP.o⟩
   case round=>
    rename World=>wq
    obtain⟨j,ls,hj,rfl,hL1,hC⟩:=hrel
    have L1:=aD hL1
    have C1:=aD hC
    clear hC
    by_cases hj2:j<2
    ·have i0:(j:Int)<2:=by omega
     have j0:(0:Int)<=(j:Int):=by omega
     obtain⟨v,hv⟩:∃ v,vs[j]?=some v:=⟨_,i8 (by omega)⟩
     obtain⟨l,hl⟩:∃ l,ls[j]?=some l:=⟨_,i8 (by rw [hL1.len];omega)⟩
     have hln:=(C1.o j l hl).1
     obtain⟨q,c5,hsv⟩:=aK (hL1.own j v l hv hl)
     rw [hln] at hsv
     subst hsv
     have LS1:Hid (LS V0 wq (.slice (some ⟨gr,0,none⟩) 2 cr) vs (ls.set j l)):=aD (by rw [rI hl];exact L1.o)
     have hwj:IntKind.wrap .i64 (-1-(j:Int))=-1-(j:Int):=by rw [IntKind.wrap_i64];omega
     have HV:=aD hv
     have hjl:j<ls.length:=by rw [hL1.len];omega
     clear hL1 hl hv
     go_upto_region 22 with fail
     go_loopw [23] (fun k wr3=>∃ (kk:Nat) (l':List Int),kk<=n/\k=.int .i64 (kk:Int)/\LS V0 wr3 (.slice (some ⟨gr,0,none⟩) 2 cr) vs (ls.set j l')/\l'.length=n/\∀ x,x<kk->l'[x]?=some (-1-(j:Int))) (fun k _=>n-(intOf k).toNat)
     case atStart=>exact⟨0,l,by omega,rfl,LS1.o,hln,fun x hx=>absurd hx (Nat.not_lt_zero _)⟩
     case round=>
      rename World=>wk
      obtain⟨kk,l',hkk,rfl,hL2,hl',hx⟩:=hrel
      have L2:=aD hL2
      have HX:=aD hx
      obtain⟨lgr,cgr,-⟩:=hL2.cell hvl.symm HV.o
      clear hx hL2
      have hl2:(ls.set j l')[j]?=some l':=l8 hjl
      by_cases hk:kk<n
      ·have k0:(0:Int)<=(kk:Int):=by omega
       have k1:(kk:Int)<(n:Int):=by omega
       have ho:=L2.o.own j _ l' HV.o hl2
       obtain⟨g6,c6,e6⟩:=cU ho (by omega)
       have e7:q=some ⟨g6,0,none⟩:=by cases e6;rfl
       subst e7
       have hc5:c5=c6:=by cases e6;rfl
       subst hc5
       have hon:wk.ownsRow V0.heap.size 3 1 (.slice (some ⟨g6,0,none⟩) n c5) n (cJ l'):=by have:=ho;unfold OI at this;rw [hl'] at this;exact this
       obtain⟨x0,hx0⟩:∃ x,l'[kk]?=some x:=⟨_,i8 (by omega)⟩
       have cc:=bY hon (dS hx0)
       have cf:=World.ownsRow.frozenAt hon kk
       have lg6:=(aH hon (g:=g6) rfl).2.1
       have L3:=aD (L2.o.put (k:=kk) HV.o hl2 (-1-(j:Int)))
       rw [List.set_set] at L3
       have HX3:Hid (∀ x,x<kk+1->(l'.set kk (-1-(j:Int)))[x]?=some (-1-(j:Int))):=aD (fun x hxl=>by
        by_cases e:kk=x
        ·subst e;exact l8 (by omega)
        ·rw [n7 e];exact HX.o x (by omega))
       have hl3:(l'.set kk (-1-(j:Int))).length=n:=by rw [List.length_set];exact hl'
       clear ho e6 hon hx0 hl2
       go_wp2
       go_roundw
       case rel=>exact⟨kk+1,_,by omega,by go_num,L3.o,hl3,HX3.o⟩
       case measure=>simp only [intOf];omega
      ·have k1:¬ (kk:Int)<(n:Int):=by omega
       have E:Hid (l'=List.replicate n (-1-(j:Int))):=aD (List.ext_getElem? fun x=>by
        by_cases hxn:x<n
        ·rw [HX.o x (by omega),s7,if_pos hxn]
        ·rw [r5 (by omega),r5 (by simp;omega)])
       have CC:Hid (∀ (m:Nat) l,(ls.set j l')[m]?=some l->l.length=n/\(m<j+1->l=List.replicate n (-1-(m:Int)))):=aD (fun m l hm=>by
        by_cases e:j=m
        ·subst e
         rw [hl2] at hm
         cases hm
         exact⟨hl',fun _=>E.o⟩
        ·rw [n7 e] at hm
         exact⟨(C1.o m l hm).1,fun q=>(C1.o m l hm).2 (by omega)⟩)
       clear hl2
       go_wp2
       go_roundw
       case rel=>exact⟨j+1,_,by omega,by go_num,L2.o,CC.o⟩
       case measure=>simp only [intOf];omega
    ·obtain rfl:j=2:=by omega
     rw [show ((2:Nat):Int)=2 from rfl]
     have hll:ls.length=2:=hL1.len.trans hvl
     obtain⟨la,lb,hls⟩:∃ la lb,ls=[la,lb]:=by
      match ls,hll with
      | [la,lb],_=>exact⟨la,lb,rfl⟩
     subst hls
     have ea:=(C1.o 0 la rfl).2 (by omega)
     have eb:=(C1.o 1 lb rfl).2 (by omega)
     subst ea eb
     clear hL1 C1 hll
     go_upto_region 26 with fail
     go_loopw [24] (fun i wr2=>∃ (j:Nat) (vs':List Value),j<=9/\i=.int .i64 (j:Int)/\vs'.length=2/\LS V0 wr2 (.slice (some ⟨gr,0,none⟩) 2 cr) vs' [List.replicate (n+j) (-1-((0:Nat):Int)),List.replicate (n+j) (-1-((1:Nat):Int))]) (fun i _=>9-(intOf i).toNat)
     case atStart=>exact⟨0,vs,by omega,rfl,hvl,L1.o⟩
     case round=>
      rename World=>wk
      obtain⟨j,vs',hj,rfl,hvl',hL3⟩:=hrel
      have L3:=aD hL3
      clear hL3 L1 L0
      by_cases hj9:j<9
      ·have i0:(j:Int)<9:=by omega
       obtain⟨va,vb,hvs⟩:∃ va vb,vs'=[va,vb]:=by
        match vs',hvl' with
        | [va,vb],_=>exact⟨va,vb,rfl⟩
       subst hvs
       obtain⟨lgr,ca,-⟩:=L3.o.cell rfl (j:=0) rfl
       obtain⟨ma,hma⟩:∃ m,List.replicate (n+j) (-1-((0:Nat):Int))=m:=⟨_,rfl⟩
       obtain⟨mb,hmb⟩:∃ m,List.replicate (n+j) (-1-((1:Nat):Int))=m:=⟨_,rfl⟩
       rw [hma,hmb] at L3
       have la2:ma.length<=40009:=by rw [<- hma,r9];omega
       have lb2:mb.length<=40009:=by rw [<- hmb,r9];omega
       have HMA:Hid (ma++[-1]=List.replicate (n+(j+1)) (-1-((0:Nat):Int))):=aD (by rw [<- hma,show n+(j+1)=n+j+1 by omega,List.replicate_succ'];rfl)
       have HMB:Hid (mb++[-2]=List.replicate (n+(j+1)) (-1-((1:Nat):Int))):=aD (by rw [<- hmb,show n+(j+1)=n+j+1 by omega,List.replicate_succ'];rfl)
       clear hma hmb hvl'
       have sz:=L3.o.bel.size
       have oa:=aD (L3.o.own 0 va ma rfl rfl)
       obtain⟨qa,cqa,eqa⟩:=aK oa.o
       subst eqa
       go_upto_region 29 with (at_builtin;refine wpList_append_own_at _ rfl _ _ 31 rfl V0.heap.size 3 t0 (.int .i64 0) 1 8 dQ hi hz0 hz1 hz2 rfl (by decide) (.slice qa ma.length cqa) ma.length (cJ ma) rfl (i9 oa.o _) ⟨wk.heap.size,0,none⟩ 1 1 [.int .i64 (-1)] rfl rfl (bH _ _ _) (by simp [Value.oneCell']) (by unfold maxLen;omega) (by omega) (by first | omega |(simp;omega)) ?_;intro v8 w8 hown hgrow _ hblk;obtain⟨q8,c8,e8⟩:=aK hown;subst e8;have M8:=aD (L3.o.mid rfl (j:=0) (i:=0) rfl rfl hgrow rfl);have L8:=aD (L3.o.grow rfl (j:=0) rfl rfl hown hgrow (by first | exact hblk |(rw [r7];exact hblk)));have mg:=M8.o.1;have mc:=M8.o.2.1;have mf:=M8.o.2.2;clear hown hgrow hblk)
       generalize (w8.setCell ⟨gr,0,none⟩ (.slice q8 (ma.length+1) c8))=w9 at L8 ⊢
       clear lgr ca mg mc mf M8 oa sz
       dsimp only [List.set] at L8
       obtain⟨lgr,ca,-⟩:=L8.o.cell rfl (j:=1) rfl
       have sz:=L8.o.bel.size
       have ob:=aD (L8.o.own 1 vb mb rfl rfl)
       obtain⟨qb,cqb,eqb⟩:=aK ob.o
       subst eqb
       go_wp2_with (at_builtin;refine wpList_append_own_at _ rfl _ _ 31 rfl V0.heap.size 3 t0 (.int .i64 0) 1 8 dQ hi hz0 hz1 hz2 rfl (by decide) (.slice qb mb.length cqb) mb.length (cJ mb) rfl (i9 ob.o _) ⟨w9.heap.size,0,none⟩ 1 1 [.int .i64 (-2)] rfl rfl (bH _ _ _) (by simp [Value.oneCell']) (by unfold maxLen;omega) (by omega) (by first | omega |(simp;omega)) ?_;intro v10 w10 hown hgrow _ hblk;obtain⟨q10,c10,e10⟩:=aK hown;subst e10;have M10:=aD (L8.o.mid rfl (j:=1) (i:=1) rfl rfl hgrow rfl);have L10:=aD (L8.o.grow rfl (j:=1) rfl rfl hown hgrow (by first | exact hblk |(rw [r7];exact hblk)));have mg:=M10.o.1;have mc:=M10.o.2.1;have mf:=M10.o.2.2;clear hown hgrow hblk)
       dsimp only [List.set] at L10
       rw [HMA.o,HMB.o] at L10
       go_roundw
       case rel=>exact⟨j+1,_,by omega,by go_num,rfl,L10.o⟩
       case measure=>simp only [intOf];omega
      ·obtain rfl:j=9:=by omega
       rw [show ((9:Nat):Int)=9 from rfl]
       go_upto_region 31 with fail
       go_loopw [12,25] (fun ok i wr2=>∃ (j:Nat),j<=2/\ok=.bool true/\i=.int .i64 (j:Int)/\LS V0 wr2 (.slice (some ⟨gr,0,none⟩) 2 cr) vs' [List.replicate (n+9) (-1-((0:Nat):Int)),List.replicate (n+9) (-1-((1:Nat):Int))]) (fun _ i _=>2-(intOf i).toNat)
       case atStart=>exact⟨0,by omega,rfl,rfl,L3.o⟩
       case round=>
        rename World=>wm
        obtain⟨j,hj2,rfl,rfl,hL4⟩:=hrel
        have L4:=aD hL4
        clear hL4
        by_cases hj3:j<2
        ·have i1:(j:Int)<2:=by omega
         have j0:(0:Int)<=(j:Int):=by omega
         obtain⟨v,hv⟩:∃ v,vs'[j]?=some v:=⟨_,i8 (by omega)⟩
         have hls:([List.replicate (n+9) (-1-((0:Nat):Int)),List.replicate (n+9) (-1-((1:Nat):Int))]:List (List Int))[j]?=some (List.replicate (n+9) (-1-(j:Int))):=by
          match j,hj3 with
          | 0,_=>rfl
          | 1,_=>rfl
         have hwj:IntKind.wrap .i64 (-1-(j:Int))=-1-(j:Int):=by rw [IntKind.wrap_i64];omega
         have HV:=aD hv
         have HLS:=aD hls
         obtain⟨N,hN⟩:∃ N,n+9=N:=⟨_,rfl⟩
         have hN0:N<=40009:=by omega
         have ho0:=L4.o.own j v _ hv hls
         obtain⟨g6,c6,e6⟩:=cU ho0 (by rw [r9];omega)
         rw [r9,hN] at e6
         subst e6
         rw [hN] at HLS L4
         clear hv hls ho0
         go_upto_region 34 with fail
         go_loopw [12,26] (fun ok k wr3=>∃ (kk:Nat),kk<=N/\ok=.bool true/\k=.int .i64 (kk:Int)/\LS V0 wr3 (.slice (some ⟨gr,0,none⟩) 2 cr) vs' [List.replicate N (-1-((0:Nat):Int)),List.replicate N (-1-((1:Nat):Int))]) (fun _ k _=>N-(intOf k).toNat)
         case atStart=>exact⟨0,by omega,rfl,rfl,L4.o⟩
         case round=>
          rename World=>wz
          obtain⟨kk,hkk,rfl,rfl,hL5⟩:=hrel
          have L5:=aD hL5
          obtain⟨lgr,cgr,-⟩:=hL5.cell hvl'.symm HV.o
          have ho:=L5.o.own j _ _ HV.o HLS.o
          clear hL5
          by_cases hk:kk<N
          ·have k0:(0:Int)<=(kk:Int):=by omega
           have k1:(kk:Int)<(N:Int):=by omega
           have hx0:(List.replicate N (-1-(j:Int)))[kk]?=some (-1-(j:Int)):=by rw [s7,if_pos hk]
           have hon:wz.ownsRow V0.heap.size 3 1 (.slice (some ⟨g6,0,none⟩) N c6) N (cJ (List.replicate N (-1-(j:Int)))):=by have:=ho;unfold OI at this;rw [r9] at this;exact this
           have cc:=bY hon (dS hx0)
           have lg6:=(aH hon (g:=g6) rfl).2.1
           clear ho hon hx0
           go_wp2
           go_roundw
           case rel=>exact⟨kk+1,by omega,rfl,by go_num,L5.o⟩
           case measure=>simp only [intOf];omega
          ·have k1:¬ (kk:Int)<(N:Int):=by omega
           have L6:=L5
           rw [<- hN] at L6
           go_wp2
           go_roundw
           case rel=>exact⟨j+1,by omega,rfl,by go_num,L6.o⟩
           case measure=>simp only [intOf];omega
        ·obtain rfl:j=2:=by omega
         rw [show ((2:Nat):Int)=2 from rfl]
         have G9:=aD (KH.o _ L4.o.bel)
         have x:=G9.o.box
         have y:=G9.o.qbx
         have p0:=aA x (i:=0) rfl
         have p1:=aA x (i:=1) rfl
         have p2:=aA x (i:=2) rfl
         have p3:=aA x (i:=3) rfl
         have q0:=aA y (i:=0) rfl
         have q1:=aA y (i:=1) rfl
         have q2:=aA y (i:=2) rfl
         have q3:=aA y (i:=3) rfl
         have BK:=aD (aH5 G9.o.pg G9.o.own HB.o G9.o.bel.size)
         dsimp only at BK
         clear x y
         go_wp2_with (go_at_call 15;(with_reducible refine(BK.o).mono ?_);rintro e wX ⟨rfl,h5⟩;have BX:=aD (G9.o.bel.trans h5);clear h5)
         go_ret
         exact⟨rfl,BX.o⟩
end
end Go.Proofs.YtliflleaeimngaaGreatDoor
