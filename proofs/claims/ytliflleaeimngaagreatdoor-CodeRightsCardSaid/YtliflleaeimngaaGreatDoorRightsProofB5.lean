/-
  Parts of the proof.
-/
import Derived.Test.YtliflleaeimngaaGreatDoorRightsProofA0
import Derived.Test.YtliflleaeimngaaGreatDoorRightsProofB3
import Derived.Test.YtliflleaeimngaaGreatDoorRightsProofB4
import Derived.RangeFuncNested
import Derived.RangeFuncBound
import Derived.RangeFuncCalls
import Derived.RangeFuncLeaves
import Derived.RangeFuncBox
import Derived.Shelf.Abstract
import Derived.Shelf.RegionOpen
import Derived.OwnWalkIn
import Derived.TacticsInMore
import Derived.LoopNIn
import Derived.LoopIn
import Derived.Maps.AppendAt
import Derived.Sort.OwnSortedInts
import Derived.Test.YtliflleaeimngaaGreatDoorRightsProofB2
import Derived.Laws.CopyOwn
set_option linter.unusedSimpArgs false
set_option maxRecDepth 100000
set_option maxHeartbeats 8000000
namespace Go.Proofs.YtliflleaeimngaaGreatDoor
open Go Go.RowKit
section
open Go Go.RowKit Go.Shelf
attribute [local go_sem] Oper.semAt_some
theorem mS{W W':World}(hb:wBl W W'):W.grownBy W' none:=⟨hb.os,hb.tape,hb.output,hb.size,fun k hk _=>hb.block k hk⟩
structure gS(N:Nat)(W W':World):Prop where
 size:W.heap.size<=W'.heap.size
 same:∀ (k:Nat) (cur:Array Value) (t:TypeId) (fr:Nat×Nat),N<=k->W.heap[k]?=some (.cells cur t fr)->W'.heap[k]?=some (.cells cur t fr)
theorem aK9{N:Nat}{A B C:World}(h:gS N A B)(k:gS N B C):gS N A C:=⟨j4 h.size k.size,fun i cur t fr hi hc=>k.same i cur t fr hi (h.same i cur t fr hi hc)⟩
theorem aL0{N:Nat}(W:World)(l:Nat)(o o':Obj)(_:N<=l)(h:W.heap[l]?=some o)(hc:o.isCells=false)(_:o.isWalk=false):gS N W (W.putObj l o'):=
 ⟨(grownBy_putObj' W l o').size,fun k cur t fr _ hk=>by
  have hne:k≠l:=fun e=>by subst e;rw [hk] at h;cases h;cases hc
  exact(World.putObj_heap_other hne).trans hk⟩
theorem Fr.ckeep{S:Nat->Prop}{N:Nat}{W W':World}(h:Fr S W W')(hs:∀ k,S k->k<N):gS N W W':=
 ⟨h.size,fun k cur t fr hk hc=>(h.block k (aC hc) (fun q=>by have:=hs k q;omega)).trans hc⟩
theorem Fr.keepsFrom{S:Nat->Prop}{N:Nat}{W W':World}(h:Fr S W W')(hs:∀ k,S k->k<N):KeepsFrom N W W':=
 ⟨h.size,fun k o hk hc _=>(h.block k (aC hc) (fun q=>by have:=hs k q;omega)).trans hc⟩
theorem aK5(b:Nat)(w:World) :
  Calls Tryz.prog 56 #[.pointer (some ⟨b,0,none⟩)] w fun e w'=>e=.returned (.func (.func 69) #[] #[.pointer (some ⟨w.heap.size,0,none⟩)])/\w'=w.alloc (.cells #[.pointer (some ⟨b,0,none⟩)] 73):=by
 go_enter Tryz.func56,Tryz.ntmps56
 go_wp2
 go_ret
 exact⟨rfl,rfl⟩
theorem kU(L:List Int)(k:Nat)(h:k<L.length):L.take (k+1)=L.take k++[L[k]]:=by
 rw [n5,i8 h];rfl
theorem aC7(n:Nat)(hn:1<=n)(l B b o p room:Nat)(L:List Int)(N:Nat)(J Jx:List Int->World->Prop)
  (hJ:∀ pre A B,J pre A->wBl A B->J pre B)
  (hY:∀ pre x W,J pre W->pre.length<L.length->YieldAt Fence.wide (n-1) Tryz.prog l #[.int .i64 x] W fun e W'=>
   (e=.returned (.bool true)/\J (pre++[x]) W'/\gS N W W')\/(e=.returned (.bool false)/\Jx (pre++[x]) W'))
  (W:World) (hB:W.cell? ⟨B,0,none⟩=some (.pointer (some ⟨b,0,none⟩))) (hM:MAt W b o p room L) (hN:N<=W.heap.size) (h0:J [] W) :
  CallsIn Fence.wide n Tryz.prog 69 #[.func (.yield l) #[] #[],.pointer (some ⟨B,0,none⟩)] W fun e W'=>(∃ v,e=.returned v) /\
   ((∃ ys,ys=L/\J ys W')\/(∃ pre,pre <+: L/\Jx pre W')):=by
 have hfn:∀ f,Fence.wide.fn f:=fun _=>trivial
 have c0:=hM.cellb0
 have HM:Hid (MAt W b o p room L):=hM
 have hl:=hM.len
 have hr:=hM.hr
 have HC:Hid (∀ j,j<L.length->W.cell? ⟨o,0+j,none⟩=some (.int .i64 (L.getD j 0))):=fun j hj=>by
  rw [Nat.zero_add,HM.o.cello (i8 hj)];simp [List.getD,hj]
 clear hM
 refine callsIn_of_wp Tryz.func69 rfl trivial ?_ rfl
 simp only [Tryz.ntmps69,List.size_toArray,p8,List.length_nil,Nat.reduceAdd,Nat.reduceSub,Array.replicate_succ,Array.replicate_zero,List.push_toArray,List.append_toArray,l9,n4]
 gi_wp2_with (gi_at_call 70;refine(callsIn_wide.2 (Tryz.slices_Clone_int o 0 L.length room L W lz9 (by omega) HC.o)).mono ?_;rintro e w1 ⟨v,rfl,hown,hnil,hb1⟩;obtain⟨g,cap,cur,rfl,hg0,hg1,hg2,hg3,hg4,hg5⟩:=hown.2.resolve_left (fun q=>hnil q.1))
 have HJ1:Hid (J [] w1):=hJ _ _ _ h0 hb1
 have HN1:Hid (N<=g):=j4 hN hg0
 have HG1:Hid (w1.heap[g]?=some (.cells cur 3 (0,0))):=hg1
 have HT:Hid (cur.toList.take L.length=cJ L):=(show cur.toList.take L.length=cJ L from by simpa [cJ] using hg5)
 clear hb1 hown hnil hg0 hg1 hg4 hg5 c0 HC h0 hB
 unfold maxLen at hg3
 gi_loopw [11] (fun i wr=>∃ k:Nat,k<=L.length/\i=.int .i64 k/\wr.heap[g]?=some (.cells cur 3 (0,0))/\J (L.take k) wr) (fun i _=>L.length-(intOf i).toNat)
 case atStart=>exact⟨0,Nat.zero_le _,rfl,HG1.o,by simpa using HJ1.o⟩
 case round=>
  obtain⟨k,hk,rfl,hg,hj⟩:=hrel
  have HG:Hid (wr.heap[g]?=some (.cells cur 3 (0,0))):=hg
  have HJ:Hid (J (L.take k) wr):=hj
  clear HJ1 HG1 hg hj
  by_cases hlt:k<L.length
  ·have HX:Hid (L.take (k+1)=L.take k++[L[k]]):=kU L k hlt
   have hcell:wr.cell? ⟨g,k,none⟩=some (.int .i64 L[k]):=by
    have e:=dS (i8 hlt)
    rw [<- HT.o,s5 hlt] at e
    have:cur[k]?=some (.int .i64 L[k]):=by simpa using e
    simp [World.cell?,HG.o,this]
   have HP:Hid (L.take (k+1) <+: L):=List.take_prefix _ _
   obtain⟨x,hx⟩:∃ x,L[k]=x:=⟨_,rfl⟩
   rw [hx] at hcell HX
   clear hx
   have i0:(0:Int)<=(k:Int):=by omega
   have i1:(k:Int)<(L.length:Int):=by omega
   obtain⟨fn,tmps,assign,body,hy,hR⟩:=hY (L.take k) x wr HJ.o (by simp;omega)
   gi_wp2
   refine hR.mono ?_
   rintro e W3 (⟨rfl,hJ3,hk3⟩ | ⟨rfl,hJx3⟩)
   ·have HG3:Hid (W3.heap[g]?=some (.cells cur 3 (0,0))):=hk3.same _ _ _ _ HN1.o HG.o
    have HJ3:Hid (J (L.take k++[x]) W3):=hJ3
    clear hJ3 hk3 hY hy hR
    gi_wp2
    go_roundw
    case rel=>exact⟨k+1,by omega,by go_num,HG3.o,by rw [HX.o];exact HJ3.o⟩
    case measure=>simp [intOf];omega
   ·gi_wp2
    refine bodyPost_ret (results_none rfl _ _ _) rfl ?_
    exact⟨⟨_,rfl⟩,.inr ⟨L.take k++[x],by rw [<- HX.o];exact HP.o,hJx3⟩⟩
  ·have hke:L.take k=L:=k6 (by omega)
   rw [hke] at HJ
   clear hke
   gi_wp2
   go_end0
   exact⟨⟨_,rfl⟩,.inl ⟨L,rfl,HJ.o⟩⟩
theorem vS(n:Nat)(hn:1<=n)(B b o p room:Nat)(L:List Int)(w:World)(hB:Boxed w B 73 (.pointer (some ⟨b,0,none⟩)))(hM:MAt w b o p room L) :
  SeqStopsK Fence.wide n Tryz.prog 69 #[.pointer (some ⟨B,0,none⟩)] (fun x:Int=>#[Value.int .i64 x]) (gS w.heap.size) (fun ys=>ys=L) (fun pre=>pre <+: L) L.length w:=fun l J Jx W hW hJ _ hY h0=>
 aC7 n hn l B b o p room L w.heap.size J Jx (fun pre A B h hb=>hJ pre A B none h (mS hb) (fun r e=>by cases e)) hY W ((hW.cell (p:=⟨B,0,none⟩) hB.lt).trans hB.cell) (hM.kept hW) hW.size h0
def fW(a:Act)(q d:Nat)(x:Int):Act:={ tmps:=(a.tmps.setIfInBounds q (.int .i64 x)).setIfInBounds d (.int .i64 x),defers:=[] }
def gI(a:Act)(D:Nat):Act:={ a with defers:={ target:=.collected D,args:=#[] } :: a.defers }
theorem vT{g:Operand}{ps:Array Tmp}{assign body:Code}{Q:Exit->Act->World->Prop}{a:Act}{w:World}{n:Nat}(hn:3<=n)(d q:Nat)(B b o p room:Nat)(L:List Int)
  (hg:a.eval g=.func (.func 69) #[] #[.pointer (some ⟨B,0,none⟩)]) (hps:ps=#[q]) (hB:Boxed w B 73 (.pointer (some ⟨b,0,none⟩))) (hM:MAt w b o p room L)
  (I:List Int->World->Prop) (Ix:Code->List Int->World->Prop) (hI:OwnFrom w.heap.size I) (hIx:∀ c,OwnFrom w.heap.size (Ix c)) (h0:I [] w)
  (hassign:∀ (l:Nat) (x:Int) (W:World) (K:Act->World->Prop),K (fW a q d x) W ->
   assign.wpIn (Fence.wide.inRound l) (n-1-1) Tryz.prog (Exit.then K (fun _ _ _=>False)) { tmps:=a.tmps.setIfInBounds q (.int .i64 x),defers:=[] } W)
  (hbody:∀ (l:Nat) (pre:List Int) (x:Int) (W:World),I pre W->pre.length<L.length ->
   body.wpIn (Fence.wide.inRound l) (n-1-1) Tryz.prog (ownPostG w.heap.size (gS w.heap.size) I Ix (pre++[x]) W) (fW a q d x) W)
  (hdone:∀ (D:Nat) (W:World),w.heap.size<=D->I L W->W.heap[D]?=some (.deferred (some []))->Q .normal (gI a D) W)
  (hstop:∀ (D:Nat) (c:Code) (pre:List Int) (W:World),w.heap.size<=D->pre <+: L->Ix c pre W->W.heap[D]?=some (.deferred (some []))->c.wpIn Fence.wide n Tryz.prog Q (gI a D) W) :
  (Code.rangeFunc g ps assign body).wpIn Fence.wide n Tryz.prog Q a w:=by
 subst hps
 refine wpIn_rangeFunc_ownG rfl (by omega) (gf:=69) (lb:=#[.pointer (some ⟨B,0,none⟩)]) hg trivial (enters_of Tryz.func69 (by kernel_rfl) rfl)
  (vS (n-1) (by omega) B b o p room L w hB hM) aK9 aL0 (Below.refl _ _) (fun _=>rfl) I Ix hI hIx h0 (fW a q d) (fun l x W K hK=>by have:=hassign l x W K hK;simpa using this) hbody ?_ hstop
 rintro D xs W hD rfl hi hK
 exact hdone D W hD hi hK
end
section
open Go Go.RowKit Go.Shelf
attribute [local go_sem] Oper.semAt_some
theorem iQ{W W':World}{row:Option Nat}{B:Nat}(hg:W.grownBy W' row)(hr:∀ r,row=some r->B<=r/\∃ o:Obj,W.heap[r]?=some o/\o.isCells=false){k:Nat}{cur:Array Value}{t:TypeId}{fr:Nat×Nat}(hc:W.heap[k]?=some (.cells cur t fr)) :
  W'.heap[k]?=some (.cells cur t fr):=by
 refine(hg.block k (aC hc) (fun e=>?_)).trans hc
 obtain⟨_,o,ho,hq⟩:=hr k e.symm
 rw [hc] at ho
 cases ho
 cases hq
def RowG(W:World)(g cap:Nat)(l:List Int):Prop:=∃ cur,W.heap[g]?=some (.cells cur 3 (0,0))/\cur.size=cap/\cur.toList.take l.length=cJ l
theorem RowG.lt{W:World}{g cap:Nat}{l:List Int}(h:RowG W g cap l):g<W.heap.size:=by obtain⟨_,h,_⟩:=h;exact aC h
theorem RowG.same{W W':World}{g cap:Nat}{l:List Int}(h:RowG W g cap l)(e:W'.heap[g]?=W.heap[g]?):RowG W' g cap l:=by unfold RowG;rw [e];exact h
theorem RowG.len{W:World}{g cap:Nat}{l:List Int}(h:RowG W g cap l):l.length<=cap:=by
 obtain⟨cur,_,h2,h3⟩:=h
 have:=congrArg List.length h3
 simp [cF,h2] at this
 omega
theorem RowG.fz{W:World}{g cap:Nat}{l:List Int}(h:RowG W g cap l)(i:Nat):W.frozen? ⟨g,i,none⟩=false:=by
 obtain⟨cur,h1,_⟩:=h
 simp [World.frozen?,h1]
theorem RowG.spare{W:World}{g cap:Nat}{l:List Int}(h:RowG W g cap l)(hl:l.length<cap):∃ u,W.cell? ⟨g,l.length,none⟩=some u:=by
 obtain⟨cur,hc,h2,h3⟩:=h
 exact⟨cur[l.length]'(by omega),by simp [World.cell?,hc,h2,hl]⟩
theorem RowG.push{W:World}{g cap:Nat}{l:List Int}(h:RowG W g cap l)(hl:l.length<cap)(x:Int):RowG (W.setCell ⟨g,l.length,none⟩ (.int .i64 x)) g cap (l++[x]):=by
 obtain⟨cur,hc,h2,h3⟩:=h
 refine⟨_,aI hc _ _,by simp [h2],?_⟩
 have hl:l.length<cur.toList.length:=by simp;omega
 rw [Array.toList_setIfInBounds,j2,List.length_singleton,List.take_set,n5,h3,dT]
 rw [i8 hl,Option.toList_some,List.set_append_right _ _ (by rw [cF];omega),cF]
 simp [cJ]
theorem RowG.setCell{W:World}{g cap:Nat}{l:List Int}(h:RowG W g cap l){a:Addr}(hne:g≠a.block)(v:Value):RowG (W.setCell a v) g cap l:=h.same (Below.heap_setCell W a v g hne)
theorem RowG.alloc{W:World}{g cap:Nat}{l:List Int}(h:RowG W g cap l)(o:Obj):RowG (W.alloc o) g cap l:=h.same (Below.heap_alloc W o g h.lt)
theorem RowG.made(W:World)(c:Nat):RowG (W.alloc (.cells (madeCells #[.int .i64 0] c) 3)) W.heap.size c []:=⟨_,World.alloc_heap_new W _,size_madeCells _ _,by simp [cJ]⟩
theorem iT{W W':World}{B:Nat}{t:TypeId}{v:Value}(h:Boxed W B t v)(e:W'.heap[B]?=W.heap[B]?):Boxed W' B t v:=e.trans h
theorem yG{S:Nat->Prop}{W W':World}{B:Nat}{t:TypeId}{v:Value}(h:Boxed W B t v)(hb:Fr S W W')(hg:¬ S B):Boxed W' B t v:=iT h (hb.block _ h.lt hg)
theorem vR{W:World}{B:Nat}{t:TypeId}{v:Value}(h:Boxed W B t v)(u:Value):Boxed (W.setCell ⟨B,0,none⟩ u) B t u:=by
 have:=aI (show W.heap[B]?=some (.cells #[v] t (0,0)) from h) 0 u
 simpa [Boxed] using this
def eE(L:List Int):List Int:=L.mergeSort fun x y=>decide (x<=y)
theorem dG(L:List Int):(eE L).length=L.length:=by simp [eE]
theorem aF0{w:World}{g cap:Nat}{L:List Int}(h:RowG w g cap L)(hl:L.length<4611686018427387904)(c:Nat) :
  Calls Tryz.prog 57 #[.slice (some ⟨g,0,none⟩) L.length c] w fun e w'=>e=.returned (.tuple #[])/\RowG w' g cap (eE L)/\Fr (fun k=>k=g) w w':=by
 have hc:=h.len
 obtain⟨cur,g1,g2,g3⟩:=h
 refine(Tryz.slices_Sort_int g 0 c L w (holds_of_blockI g1 (by simpa [cJ] using g3)) (aC g1) hl).mono ?_
 rintro e w2 ⟨rfl,n,os,rfl⟩
 refine⟨rfl,⟨_,heap_sortedI _ g1,by simp [Sort.putCells,g2],take_putCellsI cur (eE L) (by rw [dG];omega)⟩,?_⟩
 exact(Fr.refl _ _).grown (grownBy_sortedI _) (fun k e=>(j3 e).symm)
theorem rP(n:Nat)(hn:3<=n){w:World}{b o p room:Nat}{L:List Int}(hM:MAt w b o p room L) :
  CallsIn Fence.wide n Tryz.prog 35 #[.pointer (some ⟨b,0,none⟩)] w fun e W'=>e=.returned (.slice (some ⟨w.heap.size,0,none⟩) L.length L.length)/\RowG W' w.heap.size L.length (eE L)/\wBl w W':=by
 have h1:1<=n:=by omega
 have h2:1<=n-1-1:=by omega
 have hfn:∀ f,Fence.wide.fn f:=fun _=>trivial
 have HM:Hid (MAt w b o p room L):=hM
 have hl:=hM.len
 have hr:=hM.hr
 have m0:=jR L.length (by omega)
 clear hM
 refine callsIn_of_wp_marks Tryz.func35 rfl trivial ?_ rfl
 simp only [Tryz.ntmps35,List.size_toArray,p8,List.length_nil,Nat.reduceAdd,Nat.reduceSub,Array.replicate_succ,Array.replicate_zero,List.push_toArray,List.append_toArray,l9,n4]
 gi_wp2_with first |(gi_at_call 31;refine(callsIn_wide.2 (qK HM.o)).mono ?_;rintro e w' ⟨rfl,rfl⟩) |(gi_at_call 56;refine(callsIn_wide.2 (aK5 b _)).mono ?_;rintro e w' ⟨rfl,rfl⟩)
 have bR:=((RowG.made w' L.length).alloc (.cells #[.slice (some ⟨w'.heap.size,0,none⟩) 0 L.length] 31)).alloc (.cells #[.pointer (some ⟨b,0,none⟩)] 73)
 have bL:=(Boxed.new (w'.alloc (.cells (madeCells #[.int .i64 0] L.length) 3)) 31 (.slice (some ⟨w'.heap.size,0,none⟩) 0 L.length)).alloc (.cells #[.pointer (some ⟨b,0,none⟩)] 73)
 have bB:=Boxed.new ((w'.alloc (.cells (madeCells #[.int .i64 0] L.length) 3)).alloc (.cells #[.slice (some ⟨w'.heap.size,0,none⟩) 0 L.length] 31)) 73 (.pointer (some ⟨b,0,none⟩))
 have hV0:Below w'.heap.size w' (((w'.alloc (.cells (madeCells #[.int .i64 0] L.length) 3)).alloc (.cells #[.slice (some ⟨w'.heap.size,0,none⟩) 0 L.length] 31)).alloc (.cells #[.pointer (some ⟨b,0,none⟩)] 73)):=
  ((bz9).alloc (by simp) _).alloc (by simp;omega) _
 have hVs:(((w'.alloc (.cells (madeCells #[.int .i64 0] L.length) 3)).alloc (.cells #[.slice (some ⟨w'.heap.size,0,none⟩) 0 L.length] 31)).alloc (.cells #[.pointer (some ⟨b,0,none⟩)] 73)).heap.size=w'.heap.size+1+1+1:=by simp
 simp only [r7] at bL bB
 obtain⟨V,hV⟩:∃ V,(((w'.alloc (.cells (madeCells #[.int .i64 0] L.length) 3)).alloc (.cells #[.slice (some ⟨w'.heap.size,0,none⟩) 0 L.length] 31)).alloc (.cells #[.pointer (some ⟨b,0,none⟩)] 73))=V:=⟨_,rfl⟩
 rw [hV] at bR bL bB hV0 hVs ⊢
 clear hV m0
 refine vT hn 4 10 (w'.heap.size+1+1) b o p room L rfl rfl bB (HM.o.kept hV0)
  (fun pre W=>(RowG W w'.heap.size L.length pre/\Boxed W (w'.heap.size+1) 31 (.slice (some ⟨w'.heap.size,0,none⟩) pre.length L.length))/\Below w'.heap.size w' W)
  (fun _ _ _=>False)
  (OwnFrom.and (fun pre W W' row hs hg hr=>⟨by obtain⟨cur,h1,h2,h3⟩:=hs.1;exact⟨cur,iQ hg hr h1,h2,h3⟩,iQ hg hr hs.2⟩) (ownFrom_below lz9 (by omega)))
  (fun _ _ _ _ _ hs _ _=>hs)
  ⟨⟨bR,bL⟩,hV0⟩ ?_ ?_ ?_ ?_
 ·intro l x W K hK
  gi_wp2
  exact hK
 ·rintro l pre x W ⟨⟨hR,hBx⟩,hBe⟩ hlt
  obtain⟨u,cu⟩:=hR.spare hlt
  have fu:=hR.fz pre.length
  have HR:Hid (RowG W w'.heap.size L.length pre):=hR
  have HX:Hid (Boxed W (w'.heap.size+1) 31 (.slice (some ⟨w'.heap.size,0,none⟩) pre.length L.length)):=hBx
  have c1:=hBx.cell
  have f1:=hBx.frozen
  have cu2:=(hBe.size)
  clear hR hBx
  have e1:=World.cell?_of_block (a:=⟨w'.heap.size,pre.length,none⟩) (Below.heap_alloc W (.cells #[.int .i64 x] 3) w'.heap.size HR.o.lt)
  have e2:=World.frozen?_of_block (a:=⟨w'.heap.size,pre.length,none⟩) (Below.heap_alloc W (.cells #[.int .i64 x] 3) w'.heap.size HR.o.lt)
  have e3:=World.cell?_of_block (a:=⟨w'.heap.size+1,0,none⟩) (Below.heap_alloc W (.cells #[.int .i64 x] 3) (w'.heap.size+1) HX.o.lt)
  have e4:=World.frozen?_of_block (a:=⟨w'.heap.size+1,0,none⟩) (Below.heap_alloc W (.cells #[.int .i64 x] 3) (w'.heap.size+1) HX.o.lt)
  rw [cu] at e1
  rw [fu] at e2
  rw [c1] at e3
  rw [f1] at e4
  simp only [fW,List.setIfInBounds_toArray,List.set_cons_succ,List.set_cons_zero]
  gi_wp2
  have hF:Fr (fun k=>k=w'.heap.size\/k=w'.heap.size+1) W (((W.alloc (.cells #[.int .i64 x] 3)).setCell ⟨w'.heap.size,pre.length,none⟩ (.int .i64 x)).setCell ⟨w'.heap.size+1,0,none⟩ (.slice (some ⟨w'.heap.size,0,none⟩) (pre.length+1) L.length)):=
   (((Fr.refl _ _).alloc _).setCell (.inl rfl) _).setCell (.inr rfl) _
  refine⟨hF.keepsFrom (fun k hk=>by omega),hF.ckeep (fun k hk=>by omega),⟨?_,?_⟩,hBe.trans (hF.below hBe.size (fun k hk=>by omega))⟩
  ·exact((HR.o.alloc _).push hlt x).setCell (by simp) _
  ·have:=vR (iT (HX.o.alloc (.cells #[.int .i64 x] 3)) (Below.heap_setCell _ ⟨w'.heap.size,pre.length,none⟩ (.int .i64 x) _ (by simp))) (.slice (some ⟨w'.heap.size,0,none⟩) (pre.length+1) L.length)
   simpa using this
 ·rintro D W hD ⟨⟨hR,hBx⟩,hBe⟩ hK
  simp only [gI]
  have c1:=hBx.cell
  have HX:Hid (Boxed W (w'.heap.size+1) 31 (.slice (some ⟨w'.heap.size,0,none⟩) L.length L.length)):=hBx
  have HR:Hid (RowG W w'.heap.size L.length L):=hR
  have HK:Hid (W.heap[D]?=some (.deferred (some []))):=hK
  have hne:D≠w'.heap.size:=by omega
  clear hBx hR hK
  gi_wp2_with (gi_at_call 57;refine(callsIn_wide.2 (aF0 HR.o (by omega) L.length)).mono ?_;rintro e w2 ⟨rfl,hrow,hfr⟩;have X2:Hid (Boxed w2 (w'.heap.size+1) 31 (.slice (some ⟨w'.heap.size,0,none⟩) L.length L.length)):=yG HX.o hfr (by omega);have R2:Hid (RowG w2 w'.heap.size L.length (eE L)):=hrow;have B2:Hid (Below w'.heap.size w' w2):=hBe.trans (hfr.below hBe.size (fun k hk=>by omega));have K2:Hid (w2.heap[D]?=some (.deferred (some []))):=(hfr.block D (aC HK.o) hne).trans HK.o;clear hrow hfr;have c2:=X2.o.cell)
  refine⟨by simp,.inl ⟨_,_,rfl,run_takeDeferred K2.o,?_⟩⟩
  exact⟨_,results_tmp rfl _ _ _,rfl,R2.o.same (World.putObj_heap_other hne.symm),B2.o.trans (belowK_b (w:=w') lz9 w2 D _ _ (by omega) K2.o rfl rfl)⟩
 ·rintro D c pre W _ _ h _
  exact h.elim
theorem wY{w:World}{b o p room:Nat}{L:List Int}(hM:MAt w b o p room L) :
  Calls Tryz.prog 35 #[.pointer (some ⟨b,0,none⟩)] w fun e W'=>e=.returned (.slice (some ⟨w.heap.size,0,none⟩) L.length L.length)/\RowG W' w.heap.size L.length (eE L)/\wBl w W':=
 callsIn_wide.1 (rP 3 lz9 hM)
end
theorem aA6(room:Int)(h0:0<=room)(h1:room<=100000)(w:World) :
  Calls Tryz.prog 29 #[.int .i64 room] w fun e w'=>∃ b o p,e=.returned (.tuple #[.pointer (some ⟨b,0,none⟩),.int .i64 0])/\MAt w' b o p room.toNat []/\New3 w.heap.size b o p/\wBl w w':=by
 have:=aK0 room.toNat (by omega) w
 rw [show ((room.toNat:Nat):Int)=room by omega] at this
 exact this
theorem New3.own{n b o p:Nat}(h:New3 n b o p):∀ k,uY b o p k->n<=k:=fun k hk=>by
 rcases hk with rfl | rfl | rfl
 ·exact h.b
 ·exact h.o
 ·exact h.p
section
attribute [local go_sem] Oper.semAt_some
def ldI(i:Ins)(a:Int):List Int:=(if hsT (shT i.op) 64 then [a+1] else [])++((if hsT (shT i.op) 2 then [i.x] else [])++(if hsT (shT i.op) 4 then [i.y] else []))
def kQ(n:Nat)(L xs:List Int):List Int:=xs.foldl (eG n) L
def rcL(p:Pg):Nat->Nat->List Int->List Int
 | 0,_,L=>L
 | f+1,k,L=>match L[k]? with
  | none=>L
  | some a=>match p.L[a.toNat]? with
   | none=>L
   | some i=>rcL p f (k+1) (kQ p.L.length L (ldI i a))
def rcM(p:Pg):List Int:=rcL p (p.L.length+1) 0 [0]
theorem iJ(n:Nat)(L:List Int)(x:Int)(r:List Int):kQ n L (x :: r)=kQ n (eG n L x) r:=rfl
def RcP(p:Pg)(w:World)(e:Ending)(w':World):Prop:=wBl w w'/\∃ g,e=.returned (.tuple #[.slice (some ⟨g,0,none⟩) (rcM p).length (rcM p).length,.int .i64 0])/\RowG w' g (rcM p).length (eE (rcM p))/\w.heap.size<=g
def RcQ(p:Pg)(w:World)(e:Ending)(w':World):Prop:=wBl w w'/\e=.returned (.tuple #[.slice none 0 0,.int .i64 (rtE p).1])
theorem nL{p:Pg}(h:(rtE p).1=0):p.L.length<=40000/\p.L≠[]:=by
 unfold rtE at h
 split at h
 ·exact absurd h (by decide)
 split at h
 ·exact absurd h (by decide)
 split at h
 ·exact absurd h (by decide)
 ·rename_i h1 _ h2
  exact⟨by omega,fun e=>h2 (by rw [e];rfl)⟩
theorem xJ(n:Nat)(L:List Int)(x:Int):L.length<=(eG n L x).length:=by
 unfold eG
 split
 ·simp
 ·exact j9 _
theorem mG(n:Nat):∀ (xs L:List Int),L.length<=(kQ n L xs).length
 | [],_=>j9 _
 | x :: r,L=>j4 (xJ n L x) (mG n r (eG n L x))
theorem xF{p:Pg}{k:Nat}{L:List Int}{a:Int}{i:Ins}(hk:k<p.L.length+1)(ha:L[k]?=some a)(hi:p.L[a.toNat]?=some i):rcL p (p.L.length+1-k) k L=rcL p (p.L.length+1-(k+1)) (k+1) (kQ p.L.length L (ldI i a)):=by
 rw [show p.L.length+1-k=(p.L.length+1-(k+1))+1 by omega,rcL,ha]
 simp only [hi]
theorem aA1{p:Pg}{k:Nat}{L:List Int}(hk:k<p.L.length+1)(ha:L.length<=k):rcL p (p.L.length+1-k) k L=L:=by
 rw [show p.L.length+1-k=(p.L.length+1-(k+1))+1 by omega,rcL,r5 ha]
theorem uU{w:World}{p:Pg}(h:PgI w p)(hz:(rtE p).1≠0):Calls Tryz.prog 11 #[.agg #[.slice p.q p.L.length p.c,.int .i64 p.g,.int .i64 p.k,.bool p.f]] w (RcQ p w):=by
 have B1:Hid (wBl w (w.alloc (.cells #[.slice p.q p.L.length p.c,.int .i64 p.g,.int .i64 p.k,.bool p.f] 24))):=bz9
 have n1:=aE w (.cells #[.slice p.q p.L.length p.c,.int .i64 p.g,.int .i64 p.k,.bool p.f] 24)
 have X1:Hid ((w.alloc (.cells #[.slice p.q p.L.length p.c,.int .i64 p.g,.int .i64 p.k,.bool p.f] 24)).heap[w.heap.size]?=some (.cells #[.slice p.q p.L.length p.c,.int .i64 p.g,.int .i64 p.k,.bool p.f] 24 (0,0))):=n1
 have HC:=aD (eI (h.kept B1.o))
 have H:=aD h
 unfold RtP at HC
 obtain⟨⟨re,rk⟩,hr⟩:∃ r,rtE p=r:=⟨_,rfl⟩
 rw [hr] at HC hz
 have HR:=aD hr
 clear n1 h hr
 simp only at hz HC
 have z0:(re != 0)=true:=by simp [hz]
 go_enter Tryz.func11,Tryz.ntmps11
 go_upto_region 1 with fail
 generalize (w.alloc (.cells #[.slice p.q p.L.length p.c,.int .i64 p.g,.int .i64 p.k,.bool p.f] 24))=w1 at B1 X1 HC ⊢
 have p0:=aA X1.o (i:=0) rfl
 have p1:=aA X1.o (i:=1) rfl
 have p2:=aA X1.o (i:=2) rfl
 have p3:=aA X1.o (i:=3) rfl
 have l1:=aC X1.o
 go_wp2_with (go_at_call 9;(with_reducible refine(HC.o).mono ?_);rintro e w2 ⟨rfl,h2⟩;have B2:=aD (aF B1.o h2 lz9);clear h2)
 go_ret2
 exact⟨B2.o,by rw [HR.o];rfl⟩
theorem mC{w:World}{p:Pg}(h:PgI w p)(hz:(rtE p).1=0):Calls Tryz.prog 11 #[.agg #[.slice p.q p.L.length p.c,.int .i64 p.g,.int .i64 p.k,.bool p.f]] w (RcP p w):=by
 have B1:Hid (wBl w (w.alloc (.cells #[.slice p.q p.L.length p.c,.int .i64 p.g,.int .i64 p.k,.bool p.f] 24))):=bz9
 have n1:=aE w (.cells #[.slice p.q p.L.length p.c,.int .i64 p.g,.int .i64 p.k,.bool p.f] 24)
 have X1:Hid ((w.alloc (.cells #[.slice p.q p.L.length p.c,.int .i64 p.g,.int .i64 p.k,.bool p.f] 24)).heap[w.heap.size]?=some (.cells #[.slice p.q p.L.length p.c,.int .i64 p.g,.int .i64 p.k,.bool p.f] 24 (0,0))):=n1
 have HC:=aD (eI (h.kept B1.o))
 have H:=aD h
 unfold RtP at HC
 obtain⟨⟨re,rk⟩,hr⟩:∃ r,rtE p=r:=⟨_,rfl⟩
 rw [hr] at HC hz
 have HR:=aD hr
 clear n1 h hr
 simp only at hz HC
 subst hz
 obtain⟨hlen,hne⟩:=nL (p:=p) (by rw [HR.o])
 have HN:=aD hne
 clear hne
 go_enter Tryz.func11,Tryz.ntmps11
 go_upto_region 1 with fail
 generalize (w.alloc (.cells #[.slice p.q p.L.length p.c,.int .i64 p.g,.int .i64 p.k,.bool p.f] 24))=w1 at B1 X1 HC ⊢
 have p0:=aA X1.o (i:=0) rfl
 have p1:=aA X1.o (i:=1) rfl
 have p2:=aA X1.o (i:=2) rfl
 have p3:=aA X1.o (i:=3) rfl
 have l1:=aC X1.o
 go_wp2_with first
  |(go_at_call 9;(with_reducible refine(HC.o).mono ?_);rintro e w2 ⟨rfl,h2⟩;have B2:=aD (aF B1.o h2 lz9);have X2:=aD ((h2.block _ l1).trans X1.o);have y0:w2.cell? ⟨w.heap.size,0,none⟩=some (.slice p.q p.L.length p.c):=aA X2.o (i:=0) rfl;clear h2 p0 p1 p2 p3)
  |(go_at_call 29;(with_reducible refine(aA6 _ (by omega) (by omega) _).mono ?_);rintro e w3 ⟨mb,mo,mp,rfl,h31,h32,h33⟩;have M3:=aD h31;have N3:=aD h32;have B3:=aD (aF B2.o h33 lz9);have X3:=aD ((h33.block _ (aC X2.o)).trans X2.o);clear h31 h32 h33 y0)
  |(go_at_call 30;(with_reducible refine(qF M3.o _).mono ?_);rintro e w4 ⟨rfl,h41,h42⟩;have M4:=aD h41;have F4:=aD h42;clear h41 h42)
 have M5:Hid (MAt w4 mb mo mp p.L.length [0]):=by
  have h1:=M4.o
  rw [o6] at h1
  have h2:eG p.L.length [] 0=[0]:=if_pos ⟨by omega,by have:=List.length_pos_iff.2 HN.o;omega,by simp⟩
  rw [h2] at h1
  exact h1
 have own:Hid (∀ k,uY mb mo mp k->w2.heap.size<=k):=N3.o.own
 clear M4 M3
 go_loopw [8] (fun i wr=>∃ (k:Nat) (L:List Int),i=.int .i64 (k:Int)/\k<=L.length/\MAt wr mb mo mp p.L.length L/\rcM p=rcL p (p.L.length+1-k) k L/\Fr (uY mb mo mp) w3 wr) (fun i _=>p.L.length+1-(intOf i).toNat)
 case atStart=>exact⟨0,[0],rfl,Nat.zero_le _,M5.o,rfl,F4.o⟩
 case round=>
  obtain⟨k,L,rfl,hk,hM,hP,hF⟩:=hrel
  have M0:=aD hM
  have HP:=aD hP
  have F0:=aD hF
  have hrl:=hM.len
  have hsz:=hF.size
  have LN:=aD (qK hM)
  have BW:Hid (wBl w wr):=aD (B3.o.trans (hF.below B3.o.size (fun z hz=>j4 B2.o.size (own.o z hz))))
  have l3:Hid (w.heap.size<w2.heap.size):=aC X2.o
  have XW:Hid (wr.heap[w.heap.size]?=some (.cells #[.slice p.q p.L.length p.c,.int .i64 p.g,.int .i64 p.k,.bool p.f] 24 (0,0))):=aD ((hF.block _ (aC X3.o) (fun q=>by have:=own.o _ q;have:=l3.o;omega)).trans X3.o)
  clear hM hP hF
  by_cases hkl:k<L.length
  ·have i0:(k:Int)<(L.length:Int):=by omega
   obtain⟨a,ha⟩:∃ a,L[k]?=some a:=⟨_,i8 hkl⟩
   obtain⟨ha0,ha1⟩:=M0.o.inr (n6 ha)
   obtain⟨a,rfl⟩:∃ a':Nat,a=(a':Int):=⟨a.toNat,by omega⟩
   have hal:a<p.L.length:=by omega
   have AT:Hid (Calls Tryz.prog 32 #[.pointer (some ⟨mb,0,none⟩),.int .i64 (k:Int)] wr fun e w'=>e=.returned (.tuple #[.int .i64 (a:Int),.bool true])/\w'=wr):=by
    have:=aK4 M0.o (k:Int)
    rw [show atV L (k:Int)=(a:Int) by unfold atV;rw [if_pos ⟨by omega,by omega⟩,o6,ha];rfl,show atB L (k:Int)=true from p9 ⟨by omega,by omega⟩] at this
    exact this
   obtain⟨i,hi⟩:∃ i,p.L[a]?=some i:=⟨_,i8 hal⟩
   obtain⟨g1,o1,hq1,hl1,c0,c1,c2,c3,c4,c5,c6,c7,c8,c9⟩:=(H.o.kept BW.o).li.ten hi
   have ST:=aD (xF (p:=p) (by omega) ha (i:=i) (by rw [o6];exact hi))
   have PL:=aD (mG p.L.length (ldI i (a:Int)) L)
   have y0:wr.cell? ⟨w.heap.size,0,none⟩=some (.slice p.q p.L.length p.c):=aA XW.o (i:=0) rfl
   have ly:=aC XW.o
   rw [hq1] at y0
   have SH:=aO i.op
   unfold ldI at ST PL
   obtain⟨t,ht⟩:∃ t,shT i.op=t:=⟨_,rfl⟩
   rw [ht] at SH ST PL
   have H64:=aU t 64
   have H2:=aU t 2
   have H4:=aU t 4
   obtain⟨b64,hb64⟩:∃ b,hsT t 64=b:=⟨_,rfl⟩
   obtain⟨b2,hb2⟩:∃ b,hsT t 2=b:=⟨_,rfl⟩
   obtain⟨b4,hb4⟩:∃ b,hsT t 4=b:=⟨_,rfl⟩
   rw [hb64] at H64 ST PL
   rw [hb2] at H2 ST PL
   rw [hb4] at H4 ST PL
   have hw1:IntKind.wrap .i64 ((a:Int)+1)=(a:Int)+1:=wrap_small _ (by omega) (by omega)
   have ob:=aD M0.o.ltb
   have oo:=aD M0.o.lto
   have op:=aD M0.o.ltp
   clear ht hb64 hb2 hb4 ha hi hq1
   go_wp2_with first
    |(go_at_call 31;(with_reducible refine(LN.o).mono ?_);rintro e w5 ⟨rfl,rfl⟩)
    |(go_at_call 32;(with_reducible refine(AT.o).mono ?_);rintro e w5 ⟨rfl,rfl⟩)
    |(go_at_call 33;(with_reducible refine(SH _).mono ?_);rintro e w5 ⟨rfl,rfl⟩)
    | fail
   have hbA:wBl w5 (w5.alloc (.cells #[.int .i64 i.op,.int .i64 i.x,.int .i64 i.y,.int .i64 i.n,.int .i64 i.mn,.int .i64 i.mx,.int .u64 (aB i.s 0),.int .u64 (aB i.s 1),.int .u64 (aB i.s 2),.int .u64 (aB i.s 3)] 54)):=bz9
   have M1:=aD (M0.o.kept hbA)
   have F1:=aD (F0.o.then hbA)
   have XI:Hid ((w5.alloc (.cells #[.int .i64 i.op,.int .i64 i.x,.int .i64 i.y,.int .i64 i.n,.int .i64 i.mn,.int .i64 i.mx,.int .u64 (aB i.s 0),.int .u64 (aB i.s 1),.int .u64 (aB i.s 2),.int .u64 (aB i.s 3)] 54)).heap[w5.heap.size]?=some (.cells #[.int .i64 i.op,.int .i64 i.x,.int .i64 i.y,.int .i64 i.n,.int .i64 i.mn,.int .i64 i.mx,.int .u64 (aB i.s 0),.int .u64 (aB i.s 1),.int .u64 (aB i.s 2),.int .u64 (aB i.s 3)] 54 (0,0))):=aE w5 _
   clear c0 c1 c2 c3 c4 c5 c6 c7 c8 c9 y0 hbA SH
   generalize (w5.alloc (.cells #[.int .i64 i.op,.int .i64 i.x,.int .i64 i.y,.int .i64 i.n,.int .i64 i.mn,.int .i64 i.mx,.int .u64 (aB i.s 0),.int .u64 (aB i.s 1),.int .u64 (aB i.s 2),.int .u64 (aB i.s 3)] 54))=V at M1 F1 XI ⊢
   have no:Hid (¬ uY mb mo mp w5.heap.size):=aD (fun q=>by have h1:=ob.o;have h2:=oo.o;have h3:=op.o;rcases q with q | q | q <;> omega)
   have d1:V.cell? ⟨w5.heap.size,1,none⟩=some (.int .i64 i.x):=aA XI.o (i:=1) rfl
   have d2:V.cell? ⟨w5.heap.size,2,none⟩=some (.int .i64 i.y):=aA XI.o (i:=2) rfl
   cases b64 <;> cases b2 <;> cases b4
   all_goals
    go_wp2_with first
     |(go_at_call 34;(with_reducible refine(H64 _).mono ?_);rintro e w6 ⟨rfl,rfl⟩)
     |(go_at_call 34;(with_reducible refine(H2 _).mono ?_);rintro e w6 ⟨rfl,rfl⟩)
     |(go_at_call 34;(with_reducible refine(H4 _).mono ?_);rintro e w6 ⟨rfl,rfl⟩)
     |(go_at_call 30;(with_reducible refine(qF MB.o _).mono ?_);rintro e wc ⟨rfl,hc1,hc2⟩;have MC:=aD hc1;have FC:=aD (FB.o.trans hc2);clear hc1 hc2)
     |(go_at_call 30;(with_reducible refine(qF MA.o _).mono ?_);rintro e wb ⟨rfl,hc1,hc2⟩;have MB:=aD hc1;have FB:=aD (FA.o.trans hc2);have XB:=aD ((hc2.block _ (aC XA.o) no.o).trans XA.o);have s1:wb.cell? ⟨w5.heap.size,1,none⟩=some (.int .i64 i.x):=aA XB.o (i:=1) rfl;have s2:wb.cell? ⟨w5.heap.size,2,none⟩=some (.int .i64 i.y):=aA XB.o (i:=2) rfl;clear hc1 hc2)
     |(go_at_call 30;(with_reducible refine(qF M1.o _).mono ?_);rintro e wa ⟨rfl,hc1,hc2⟩;have MA:=aD hc1;have FA:=aD (F1.o.trans hc2);have XA:=aD ((hc2.block _ (aC XI.o) no.o).trans XI.o);have r1:wa.cell? ⟨w5.heap.size,1,none⟩=some (.int .i64 i.x):=aA XA.o (i:=1) rfl;have r2:wa.cell? ⟨w5.heap.size,2,none⟩=some (.int .i64 i.y):=aA XA.o (i:=2) rfl;clear hc1 hc2)
    go_roundw
    case rel=>first
     | exact⟨k+1,_,by go_num,j4 hkl PL.o,MC.o,HP.o.trans ST.o,FC.o⟩
     | exact⟨k+1,_,by go_num,j4 hkl PL.o,MB.o,HP.o.trans ST.o,FB.o⟩
     | exact⟨k+1,_,by go_num,j4 hkl PL.o,MA.o,HP.o.trans ST.o,FA.o⟩
     | exact⟨k+1,_,by go_num,j4 hkl PL.o,M1.o,HP.o.trans ST.o,F1.o⟩
    case measure=>simp only [intOf];omega
  ·have i0:¬ (k:Int)<(L.length:Int):=by omega
   have HE:Hid (rcM p=L):=by have h1:=HP.o;rw [aA1 (by omega) (by omega)] at h1;exact h1
   have RI:=aD (wY M0.o)
   go_wp2_with first
    |(go_at_call 31;(with_reducible refine(LN.o).mono ?_);rintro e w5 ⟨rfl,rfl⟩)
    |(go_at_call 35;(with_reducible refine(RI.o).mono ?_);rintro e w6 ⟨rfl,h61,h62⟩;have R6:=aD h61;have B6:=aD h62;clear h61 h62)
   go_ret2
   refine⟨aF BW.o B6.o lz9,_,?_,?_,BW.o.size⟩
   ·rw [HE.o];rfl
   ·rw [HE.o];exact R6.o
end
structure Bd(n:Nat)(L:List Int):Prop where
 nd:L.Nodup
 bd:∀ x∈L,0<=x/\x<(n:Int)
theorem Bd.len{n:Nat}{L:List Int}(h:Bd n L):L.length<=n:=by
 have h2:=pig n (L.map Int.toNat) ?_ (fun x hx=>by
  obtain⟨y,hy,rfl⟩:=List.mem_map.1 hx
  have:=h.bd y hy
  omega)
 ·simpa using h2
 ·refine List.pairwise_map.2 (h.nd.imp_of_mem fun {a b} ha hb hne e=>hne ?_)
  have:=h.bd a ha
  have:=h.bd b hb
  omega
theorem xI(n:Nat)(L:List Int)(x:Int):L <+: eG n L x:=by
 unfold eG
 split
 ·exact List.prefix_append _ _
 ·exact List.prefix_refl _
theorem fX(n:Nat):∀ (xs L:List Int),L <+: kQ n L xs
 | [],L=>List.prefix_refl L
 | x :: r,L=>(xI n L x).trans (fX n r (eG n L x))
theorem Bd.put{n:Nat}{L:List Int}(h:Bd n L)(x:Int):Bd n (eG n L x):=by
 unfold eG
 split
 ·rename_i hx
  refine⟨List.nodup_append.2 ⟨h.nd,by simp,fun a ha b hb e=>?_⟩,fun y hy=>?_⟩
  ·have:=List.mem_singleton.1 hb
   subst this
   subst e
   exact hx.2.2 ha
  ·rcases o4.1 hy with hy | hy
   ·exact h.bd y hy
   ·obtain rfl:=List.mem_singleton.1 hy
    exact⟨hx.1,hx.2.1⟩
 ·exact h
theorem lB{n:Nat}:∀ (xs L:List Int),Bd n L->Bd n (kQ n L xs)
 | [],_,h=>h
 | x :: r,L,h=>by
  rw [iJ]
  exact lB r (eG n L x) (h.put x)
theorem aA2{n:Nat}{L:List Int}{x:Int}(h0:0<=x)(h1:x<n):x∈eG n L x:=by
 unfold eG
 split
 ·simp
 ·rename_i h
  exact Classical.byContradiction fun hx=>h ⟨h0,h1,hx⟩
theorem qE{n:Nat}:∀ {xs L:List Int} {y:Int},y∈xs->0<=y->y<n->y∈kQ n L xs
 | x :: r,L,y,h,h0,h1=>by
  rcases k9.1 h with rfl | h
  ·exact(fX n r (eG n L y)).subset (aA2 h0 h1)
  ·rw [iJ]
   exact qE h h0 h1
theorem qA(p:Pg):∀ (f k:Nat) (L:List Int),L <+: rcL p f k L
 | 0,_,L=>List.prefix_refl L
 | f+1,k,L=>by
  unfold rcL
  split
  ·exact List.prefix_refl L
  ·split
   ·exact List.prefix_refl L
   ·exact(fX _ _ _).trans (qA p f _ _)
theorem xG(p:Pg):∀ (f k:Nat) (L:List Int),Bd p.L.length L->Bd p.L.length (rcL p f k L)
 | 0,_,_,h=>h
 | f+1,k,L,h=>by
  unfold rcL
  split
  ·exact h
  ·split
   ·exact h
   ·exact xG p f _ _ (lB _ _ h)
def Cls(p:Pg)(R:List Int)(a:Int):Prop:=∀ i,p.L[a.toNat]?=some i->∀ y∈ldI i a,0<=y->y<(p.L.length:Int)->y∈R
theorem qC(p:Pg):∀ (f k:Nat) (L:List Int),Bd p.L.length L->p.L.length+1<=f+k->(∀ j a,j<k->L[j]?=some a->Cls p L a)->∀ a∈rcL p f k L,Cls p (rcL p f k L) a
 | 0,k,L,hb,hf,hc,a,ha=>by
  obtain⟨j,hj⟩:=s6 (show a∈L from ha)
  have hl:=hb.len
  have hjl:=(g7.1 hj).1
  exact hc j a (by omega) hj
 | f+1,k,L,hb,hf,hc,a,ha=>by
  unfold rcL at ha ⊢
  split at ha
  ·rename_i hk
   obtain⟨j,hj⟩:=s6 ha
   have hjl:=(g7.1 hj).1
   have hkl:=List.getElem?_eq_none_iff.1 hk
   exact hc j a (by omega) hj
  ·rename_i b hk
   have hbb:=hb.bd b (n6 hk)
   obtain⟨i,hi⟩:∃ i,p.L[b.toNat]?=some i:=⟨_,i8 (by omega)⟩
   simp only [hi] at ha ⊢
   refine qC p f (k+1) _ (lB _ _ hb) (by omega) (fun j x hj hx=>?_) a ha
   have hkl:=(g7.1 hk).1
   have hpre:=fX p.L.length (ldI i b) L
   obtain⟨t,ht⟩:=hpre
   have hx2:L[j]?=some x:=by
    rw [<- ht,j7 (by omega)] at hx
    exact hx
   by_cases hjk:j<k
   ·intro i' hi' y hy h0 h1
    rw [<- ht]
    exact List.mem_append_left _ (hc j x hjk hx2 i' hi' y hy h0 h1)
   ·obtain rfl:j=k:=by omega
    rw [hk] at hx2
    obtain rfl:=j3 hx2
    intro i' hi' y hy h0 h1
    rw [hi] at hi'
    obtain rfl:=j3 hi'
    exact qE hy h0 h1
theorem pE{p:Pg}(h:p.L≠[]):Bd p.L.length (rcM p):=xG p _ _ _ ⟨by simp,fun x hx=>by
 obtain rfl:=List.mem_singleton.1 hx
 have:=List.length_pos_iff.2 h
 omega⟩
theorem aA0{p:Pg}(h:p.L≠[]){a:Int}(ha:a∈rcM p):Cls p (rcM p) a:=qC p _ _ _ ⟨by simp,fun x hx=>by
 obtain rfl:=List.mem_singleton.1 hx
 have:=List.length_pos_iff.2 h
 omega⟩ (by omega) (fun j a hj=>absurd hj (Nat.not_lt_zero _)) a ha
section
set_option linter.unusedSimpArgs false
attribute [local go_sem] Oper.semAt_some
def usA(o:Int):List Bool:=if o=1 then [true,false,false,false,false,true] else if o=2 then [false,true,true,false,false,false] else if o=3 then [false,true,false,false,false,false] else if o=4\/o=5 then [false,false,false,false,false,true] else if o=6\/o=7\/o=8\/o=9 then [false,false,false,true,false,true] else if o=10 then [false,true,true,true,true,false] else [false,false,false,false,false,false]
def isO(o:Int):Bool:=decide (1<=o/\o<=11)
def ubV(l:List Bool):List Value:=l.map Value.bool
theorem aN(o:Int)(w:World):Calls Tryz.prog 22 #[.int .i64 o] w fun e w'=>e=.returned (.tuple #[.agg (ubV (usA o)).toArray,.bool (isO o)])/\wBl w w':=by
 by_cases h1:o=1
 ·subst h1
  go_enter Tryz.func22,Tryz.ntmps22
  go_wp2
  refine bodyPost_ret (v:=.tuple #[.agg #[.bool true,.bool false,.bool false,.bool false,.bool false,.bool true],.bool true]) (by simp [results,Tryz.results22,go_sem]) rfl ⟨rfl,bz9⟩
 by_cases h2:o=2
 ·subst h2
  go_enter Tryz.func22,Tryz.ntmps22
  go_wp2
  refine bodyPost_ret (v:=.tuple #[.agg #[.bool false,.bool true,.bool true,.bool false,.bool false,.bool false],.bool true]) (by simp [results,Tryz.results22,go_sem]) rfl ⟨rfl,bz9⟩
 by_cases h3:o=3
 ·subst h3
  go_enter Tryz.func22,Tryz.ntmps22
  go_wp2
  refine bodyPost_ret (v:=.tuple #[.agg #[.bool false,.bool true,.bool false,.bool false,.bool false,.bool false],.bool true]) (by simp [results,Tryz.results22,go_sem]) rfl ⟨rfl,bz9⟩
 by_cases h4:o=4
 ·subst h4
  go_enter Tryz.func22,Tryz.ntmps22
  go_wp2
  refine bodyPost_ret (v:=.tuple #[.agg #[.bool false,.bool false,.bool false,.bool false,.bool false,.bool true],.bool true]) (by simp [results,Tryz.results22,go_sem]) rfl ⟨rfl,bz9⟩
 by_cases h5:o=5
 ·subst h5
  go_enter Tryz.func22,Tryz.ntmps22
  go_wp2
  refine bodyPost_ret (v:=.tuple #[.agg #[.bool false,.bool false,.bool false,.bool false,.bool false,.bool true],.bool true]) (by simp [results,Tryz.results22,go_sem]) rfl ⟨rfl,bz9⟩
 by_cases h6:o=6
 ·subst h6
  go_enter Tryz.func22,Tryz.ntmps22
  go_wp2
  refine bodyPost_ret (v:=.tuple #[.agg #[.bool false,.bool false,.bool false,.bool true,.bool false,.bool true],.bool true]) (by simp [results,Tryz.results22,go_sem]) rfl ⟨rfl,bz9⟩
 by_cases h7:o=7
 ·subst h7
  go_enter Tryz.func22,Tryz.ntmps22
  go_wp2
  refine bodyPost_ret (v:=.tuple #[.agg #[.bool false,.bool false,.bool false,.bool true,.bool false,.bool true],.bool true]) (by simp [results,Tryz.results22,go_sem]) rfl ⟨rfl,bz9⟩
 by_cases h8:o=8
 ·subst h8
  go_enter Tryz.func22,Tryz.ntmps22
  go_wp2
  refine bodyPost_ret (v:=.tuple #[.agg #[.bool false,.bool false,.bool false,.bool true,.bool false,.bool true],.bool true]) (by simp [results,Tryz.results22,go_sem]) rfl ⟨rfl,bz9⟩
 by_cases h9:o=9
 ·subst h9
  go_enter Tryz.func22,Tryz.ntmps22
  go_wp2
  refine bodyPost_ret (v:=.tuple #[.agg #[.bool false,.bool false,.bool false,.bool true,.bool false,.bool true],.bool true]) (by simp [results,Tryz.results22,go_sem]) rfl ⟨rfl,bz9⟩
 by_cases h10:o=10
 ·subst h10
  go_enter Tryz.func22,Tryz.ntmps22
  go_wp2
  refine bodyPost_ret (v:=.tuple #[.agg #[.bool false,.bool true,.bool true,.bool true,.bool true,.bool false],.bool true]) (by simp [results,Tryz.results22,go_sem]) rfl ⟨rfl,bz9⟩
 by_cases h11:o=11
 ·subst h11
  go_enter Tryz.func22,Tryz.ntmps22
  go_wp2
  refine bodyPost_ret (v:=.tuple #[.agg #[.bool false,.bool false,.bool false,.bool false,.bool false,.bool false],.bool true]) (by simp [results,Tryz.results22,go_sem]) rfl ⟨rfl,bz9⟩
 have e1:(o==1)=false:=by rw [i7];exact h1
 have e2:(o==2)=false:=by rw [i7];exact h2
 have e3:(o==3)=false:=by rw [i7];exact h3
 have e4:(o==4)=false:=by rw [i7];exact h4
 have e5:(o==5)=false:=by rw [i7];exact h5
 have e6:(o==6)=false:=by rw [i7];exact h6
 have e7:(o==7)=false:=by rw [i7];exact h7
 have e8:(o==8)=false:=by rw [i7];exact h8
 have e9:(o==9)=false:=by rw [i7];exact h9
 have e10:(o==10)=false:=by rw [i7];exact h10
 have e11:(o==11)=false:=by rw [i7];exact h11
 have hu:usA o=[false,false,false,false,false,false]:=by unfold usA;rw [if_neg h1,if_neg h2,if_neg h3,if_neg (fun q=>q.elim h4 h5),if_neg (fun q=>by rcases q with q | q | q | q <;> contradiction),if_neg h10]
 have hi:isO o=false:=by unfold isO;rw [j6];omega
 rw [hu,hi]
 clear h1 h2 h3 h4 h5 h6 h7 h8 h9 h10 h11 hu hi
 go_enter Tryz.func22,Tryz.ntmps22
 go_wp2
 refine bodyPost_ret (v:=.tuple #[.agg #[.bool false,.bool false,.bool false,.bool false,.bool false,.bool false],.bool false]) (by simp [results,Tryz.results22,go_sem]) rfl ⟨rfl,bz9⟩
end
def fnD(p:Pg)(k:Nat)(i:Ins):Bool:=
 match usA i.op with
 | [b0,b1,b2,b3,b4,b5]=>
  let n:=if (i.op==9||i.op==10) then p.k else p.g
  !(!isO i.op ||(!b0 && !decide (i.s=0#256))) &&
  !(b1 && !(decide (0<=i.x)&&decide (i.x<p.L.length)) || !b1 && !decide (i.x=0)||b2 && !(decide (0<=i.y)&&decide (i.y<p.L.length)) || !b2 && !decide (i.y=0)) &&
  !(b3&&(decide (i.n<0)||decide (n<=i.n)) || !b3 && !decide (i.n=0)) &&
  !(!b4&&(!decide (i.mn=0) || !decide (i.mx=0))) &&
  !(b4&&(decide (i.mn<0)||decide (255<i.mn) || !decide (i.mx=-1)&&(decide (i.mx<i.mn)||decide (255<i.mx)))) &&
  (!b5||decide ((k:Int)<p.L.length-1))
 | _=>false
section
def ldU(i:Ins)(a:Int):List Int:=
 (if (usA i.op).getD 5 false then [a+1] else [])++((if (usA i.op).getD 1 false then [i.x] else [])++(if (usA i.op).getD 2 false then [i.y] else []))
def LrA(P:List Ins)(a:Int):Prop:=∀ R:Int->Prop,R 0->(∀ a i x,R a->P[a.toNat]?=some i->x∈ldU i a->R x)->R a
theorem LrA.start{P:List Ins}:LrA P 0:=fun _ h _=>h
theorem LrA.go{P:List Ins}{a x:Int}{i:Ins}(h:LrA P a)(hi:P[a.toNat]?=some i)(hx:x∈ldU i a):LrA P x:=fun R h0 h1=>h1 a i x (h R h0 h1) hi hx
theorem LrA.ind{P:List Ins}{a:Int}{Q:Int->Prop}(h:LrA P a)(h0:Q 0)(h1:∀ a i x,LrA P a->Q a->P[a.toNat]?=some i->x∈ldU i a->Q x):Q a:=
 (h (fun a=>LrA P a/\Q a) ⟨LrA.start,h0⟩ (fun a i x hr hi hx=>⟨hr.1.go hi hx,h1 a i x hr.1 hr.2 hi hx⟩)).2
structure SeN(P:List Ins)(S:List Bool)(W:List Int):Prop where
 len:S.length=P.length
 ws:∀ x∈W,LrA P x/\0<=x/\x<P.length
 ss:∀ k:Nat,S[k]?=some true->LrA P k
 cl:∀ (k:Nat) i x,S[k]?=some true->P[k]?=some i->x∈ldU i k->S[x.toNat]?=some true\/x∈W
 z:S[0]?=some true\/(0:Int)∈W
section
variable {P:List Ins} {S:List Bool} {W:List Int} {a:Int}
theorem rK(h:0<P.length):SeN P (List.replicate P.length false) [0]:=by
 have no:∀ k:Nat,(List.replicate P.length false)[k]?≠some true:=by
  intro k q
  rw [s7] at q
  split at q <;> simp at q
 refine⟨by simp,?_,fun k q=>absurd q (no k),fun k i x q=>absurd q (no k),Or.inr (by simp)⟩
 intro x hx
 simp only [k9,l0,or_false] at hx
 subst hx
 exact⟨LrA.start,by omega,by omega⟩
theorem wS(h:SeN P S (W++[a]))(hs:S[a.toNat]?=some true):SeN P S W:=by
 refine⟨h.len,fun x hx=>h.ws x (by simp [hx]),h.ss,?_,?_⟩
 ·intro k i x h1 h2 h3
  rcases h.cl k i x h1 h2 h3 with q | q
  ·exact Or.inl q
  ·simp only [o4,k9,l0,or_false] at q
   rcases q with q | q
   ·exact Or.inr q
   ·subst q
    exact Or.inl hs
 ·rcases h.z with q | q
  ·exact Or.inl q
  ·simp only [o4,k9,l0,or_false] at q
   rcases q with q | q
   ·exact Or.inr q
   ·subst q
    exact Or.inl hs
theorem wR{i:Ins}(hb:∀ (k:Nat) i x,P[k]?=some i->x∈ldU i k->0<=x/\x<P.length)(h:SeN P S (W++[a]))(hi:P[a.toNat]?=some i):SeN P (S.set a.toNat true) (W++ldU i a):=by
 obtain⟨hr,ha,hl⟩:=h.ws a (by simp)
 have hk:a.toNat<S.length:=by rw [h.len];omega
 have keep:∀ k:Nat,S[k]?=some true->(S.set a.toNat true)[k]?=some true:=by
  intro k q
  rw [List.getElem?_set]
  split
  ·rfl
  ·exact q
 have me:(S.set a.toNat true)[a.toNat]?=some true:=by
  rw [List.getElem?_set]
  simp [hk]
 have back:∀ k:Nat,(S.set a.toNat true)[k]?=some true->k=a.toNat\/S[k]?=some true:=by
  intro k q
  by_cases e:a.toNat=k
  ·exact Or.inl e.symm
  ·rw [List.getElem?_set,if_neg e] at q
   exact Or.inr q
 have ea:((a.toNat:Nat):Int)=a:=Int.toNat_of_nonneg ha
 refine⟨by rw [List.length_set];exact h.len,?_,?_,?_,?_⟩
 ·intro x hx
  rw [o4] at hx
  rcases hx with q | q
  ·exact h.ws x (by simp [q])
  ·exact⟨hr.go hi q,hb a.toNat i x hi (by rw [ea];exact q)⟩
 ·intro k q
  rcases back k q with e | e
  ·subst e
   rw [ea]
   exact hr
  ·exact h.ss k e
 ·intro k j x h1 h2 h3
  rcases back k h1 with e | e
  ·subst e
   rw [hi] at h2
   cases h2
   rw [ea] at h3
   exact Or.inr (by simp [h3])
  ·rcases h.cl k j x e h2 h3 with q | q
   ·exact Or.inl (keep _ q)
   ·simp only [o4,k9,l0,or_false] at q
    rcases q with q | q
    ·exact Or.inr (by simp [q])
    ·subst q
     exact Or.inl me
 ·rcases h.z with q | q
  ·exact Or.inl (keep 0 q)
  ·simp only [o4,k9,l0,or_false] at q
   rcases q with q | q
   ·exact Or.inr (by simp [q])
   ·subst q
    exact Or.inl me
theorem lR(hb:∀ (k:Nat) i x,P[k]?=some i->x∈ldU i k->0<=x/\x<P.length)(h:SeN P S [])(k:Nat):S[k]?=some true↔LrA P k:=by
 constructor
 ·exact h.ss k
 ·intro hr
  have:=hr.ind (Q:=fun a=>0<=a/\S[a.toNat]?=some true) ⟨by omega,h.z.elim id (fun q=>by cases q)⟩ (by
   intro a i x _ q hi hx
   have ea:((a.toNat:Nat):Int)=a:=Int.toNat_of_nonneg q.1
   rcases h.cl a.toNat i x q.2 hi (by rw [ea];exact hx) with q2 | q2
   ·exact⟨(hb a.toNat i x hi (by rw [ea];exact hx)).1,q2⟩
   ·cases q2)
  simpa using this.2
def unS(S:List Bool):Nat:=(S.filter (fun b=>!b)).length
theorem yY{k:Nat}(h:S[k]?=some false):unS (S.set k true)+1=unS S:=by
 induction S generalizing k with
 | nil=>simp at h
 | cons b l ih=>
  cases k with
  | zero=>
   simp at h
   subst h
   simp [unS]
  | succ k=>
   have:=ih (k:=k) (by simpa using h)
   unfold unS at this ⊢
   cases b <;> simp at this ⊢ <;> omega
theorem aB0(i:Ins)(a:Int):(ldU i a).length<=3:=by
 unfold ldU
 split <;> split <;> split <;> simp
end
end
def dR(S:List Bool):List Int:=((List.range S.length).filter (fun k=>S.getD k false)).map (fun k:Nat=>(k:Int))
theorem rL{S:List Bool}{x:Int}:x∈dR S ↔ ∃ k:Nat,x=k/\S[k]?=some true:=by
 unfold dR
 simp only [List.mem_map,List.mem_filter,List.mem_range]
 constructor
 ·rintro ⟨k,⟨h1,h2⟩,rfl⟩
  refine⟨k,rfl,?_⟩
  rw [i8 h1]
  rw [k8,i8 h1] at h2
  simpa using h2
 ·rintro ⟨k,rfl,h⟩
  refine⟨k,⟨(g7.1 h).1,?_⟩,rfl⟩
  rw [k8,h]
  rfl
theorem lS(S:List Bool):(dR S).Pairwise (· < ·):=by
 unfold dR
 rw [List.pairwise_map]
 refine List.Pairwise.imp ?_ (List.pairwise_lt_range.filter _)
 intro a b h
 omega
theorem nI{S:List Bool}{F:List Int}(hn:F.Nodup)(hm:∀ x:Int,x∈F ↔ ∃ k:Nat,x=k/\S[k]?=some true):dR S=F.mergeSort (fun x y=>decide (x<=y)):=by
 have h1:(dR S).Pairwise (fun x y=>decide (x<=y)=true):=(lS S).imp (fun h=>by simp;omega)
 have h2:(F.mergeSort (fun x y=>decide (x<=y))).Pairwise (fun x y=>decide (x<=y)=true):=List.pairwise_mergeSort (fun a b c h1 h2=>by simp at *;omega) (fun a b=>by simp;omega) F
 have hnd:(dR S).Nodup:=(lS S).imp (fun h=>by omega)
 have hp:(dR S).Perm F:=(List.perm_ext_iff_of_nodup hnd hn).2 (fun x=>by rw [rL,hm])
 refine List.Perm.eq_of_pairwise ?_ h1 h2 (hp.trans (List.mergeSort_perm F _).symm)
 intro a b _ _ h3 h4
 simp at h3 h4
 omega
theorem nJ(S:List Bool)(k:Nat)(hk:k<S.length):dR (S.take (k+1))=dR (S.take k)++(if S[k]'hk=true then [(k:Int)] else []):=by
 have e:S.take (k+1)=S.take k++[S[k]'hk]:=by simp
 have hl:(S.take k).length=k:=by simp;omega
 rw [e]
 generalize hT:S.take k=T at hl
 subst hl
 unfold dR
 rw [j2,List.length_singleton,List.range_succ,List.filter_append,List.map_append]
 congr 1
 ·congr 1
  refine List.filter_congr fun j hj=>?_
  rw [List.mem_range] at hj
  rw [k8,k8,j7 hj]
 ·cases hb:S[T.length]'hk <;> simp
theorem aI0(o:Int):(usA o).getD 5 false=hsT (shT o) 64/\(usA o).getD 1 false=hsT (shT o) 2/\(usA o).getD 2 false=hsT (shT o) 4:=by
 by_cases h:o=1\/o=2\/o=3\/o=4\/o=5\/o=6\/o=7\/o=8\/o=9\/o=10
 ·rcases h with rfl | rfl | rfl | rfl | rfl | rfl | rfl | rfl | rfl | rfl <;> decide
 ·have e1:usA o=[false,false,false,false,false,false]:=by
   unfold usA
   rw [if_neg (by omega),if_neg (by omega),if_neg (by omega),if_neg (by omega),if_neg (by omega),if_neg (by omega)]
  have e2:shT o=0:=by
   unfold shT
   rw [if_neg (by omega),if_neg (by omega),if_neg (by omega),if_neg (by omega),if_neg (by omega),if_neg (by omega),if_neg (by omega),if_neg (by omega),if_neg (by omega),if_neg (by omega)]
  rw [e1,e2]
  decide
theorem pP(i:Ins)(a:Int):ldU i a=(if hsT (shT i.op) 64 then [a+1] else [])++((if hsT (shT i.op) 2 then [i.x] else [])++(if hsT (shT i.op) 4 then [i.y] else [])):=by
 obtain⟨h1,h2,h3⟩:=aI0 i.op
 unfold ldU
 rw [h1,h2,h3]
set_option linter.unusedSimpArgs false
theorem mK{p:Pg}{k:Nat}{i:Ins}:fnD p k i=bE p k i:=by
 obtain⟨o,x,y,n,mn,mx,s⟩:=i
 by_cases ho:1<=o/\o<=11
 ·obtain⟨h1,h2⟩:=ho
  have:o=1\/o=2\/o=3\/o=4\/o=5\/o=6\/o=7\/o=8\/o=9\/o=10\/o=11:=by omega
  have t65:hsT 65 1=true/\hsT 65 2=false/\hsT 65 4=false/\hsT 65 8=false/\hsT 65 16=false/\hsT 65 24=false/\hsT 65 32=false/\hsT 65 64=true:=by decide
  have t6:hsT 6 1=false/\hsT 6 2=true/\hsT 6 4=true/\hsT 6 8=false/\hsT 6 16=false/\hsT 6 24=false/\hsT 6 32=false/\hsT 6 64=false:=by decide
  have t2:hsT 2 1=false/\hsT 2 2=true/\hsT 2 4=false/\hsT 2 8=false/\hsT 2 16=false/\hsT 2 24=false/\hsT 2 32=false/\hsT 2 64=false:=by decide
  have t64:hsT 64 1=false/\hsT 64 2=false/\hsT 64 4=false/\hsT 64 8=false/\hsT 64 16=false/\hsT 64 24=false/\hsT 64 32=false/\hsT 64 64=true:=by decide
  have t72:hsT 72 1=false/\hsT 72 2=false/\hsT 72 4=false/\hsT 72 8=true/\hsT 72 16=false/\hsT 72 24=true/\hsT 72 32=false/\hsT 72 64=true:=by decide
  have t80:hsT 80 1=false/\hsT 80 2=false/\hsT 80 4=false/\hsT 80 8=false/\hsT 80 16=true/\hsT 80 24=true/\hsT 80 32=false/\hsT 80 64=true:=by decide
  have t54:hsT 54 1=false/\hsT 54 2=true/\hsT 54 4=true/\hsT 54 8=false/\hsT 54 16=true/\hsT 54 24=true/\hsT 54 32=true/\hsT 54 64=false:=by decide
  have t0:hsT 0 1=false/\hsT 0 2=false/\hsT 0 4=false/\hsT 0 8=false/\hsT 0 16=false/\hsT 0 24=false/\hsT 0 32=false/\hsT 0 64=false:=by decide
  rcases this with rfl | rfl | rfl | rfl | rfl | rfl | rfl | rfl | rfl | rfl | rfl
  all_goals
   rw [Bool.eq_iff_iff]
   simp [fnD,bE,usA,isO,shW,shT,usI,blw,rbd,t65,t6,t2,t64,t72,t80,t54,t0]
   first | omega | skip
   try (generalize (s=0#256)=q;by_cases hq:q <;> simp only [hq,true_and,and_true,false_and,and_false,iff_self] <;> try omega)
 ·have hs:shW o=[]:=by
   unfold shW
   repeat' split
   all_goals first | rfl | omega
  have hi:isO o=false:=by unfold isO;rw [j6 ho]
  unfold bE fnD
  rw [hs]
  obtain⟨b0,b1,b2,b3,b4,b5,hu⟩:∃ b0 b1 b2 b3 b4 b5:Bool,usA o=[b0,b1,b2,b3,b4,b5]:=by
   unfold usA
   repeat' split
   all_goals exact⟨_,_,_,_,_,_,rfl⟩
  simp only [hu,hi]
  simp
theorem aK1{p:Pg}{k:Nat}{i:Ins}{x:Int}(h:bE p k i=true)(hx:x∈ldU i k):0<=x/\x<p.L.length:=by
 rw [<- mK] at h
 have h6:(usA i.op).length=6:=by unfold usA;repeat' split <;> try rfl
 obtain⟨b0,b1,b2,b3,b4,b5,hu⟩:∃ b0 b1 b2 b3 b4 b5,usA i.op=[b0,b1,b2,b3,b4,b5]:=by
  match usA i.op,h6 with
  | [b0,b1,b2,b3,b4,b5],_=>exact⟨b0,b1,b2,b3,b4,b5,rfl⟩
 unfold fnD at h
 unfold ldU at hx
 rw [hu] at h hx
 simp only [k8,List.getElem?_cons_succ,List.getElem?_cons_zero,Option.getD_some,o4] at hx
 simp only [l7,Bool.or_eq_true,Bool.not_eq_true',Bool.or_eq_false_iff,Bool.and_eq_false_imp,r4,decide_eq_false_iff_not] at h
 obtain⟨⟨⟨⟨⟨_,hxy⟩,_⟩,_⟩,_⟩,hn⟩:=h
 rcases hx with hx | hx | hx
 ·cases b5 with
  | false=>simp at hx
  | true=>simp at hx hn;omega
 ·cases b1 with
  | false=>simp at hx
  | true=>simp at hx hxy;subst hx;omega
 ·cases b2 with
  | false=>simp at hx
  | true=>simp at hx hxy;subst hx;omega
theorem kV{p:Pg}(h:∀ (j:Nat) (i:Ins),p.L[j]?=some i->bE p j i=true):∀ (k:Nat) i x,p.L[k]?=some i->x∈ldU i k->0<=x/\x<p.L.length:=fun k i _ hi hx=>aK1 (h k i hi) hx
theorem qM(i:Ins)(a:Int):ldI i a=ldU i a:=(pP i a).symm
theorem uW{n:Nat}{L:List Int}{x y:Int}(h:y∈eG n L x):y∈L\/y=x:=by
 unfold eG at h
 split at h
 ·simpa using h
 ·exact .inl h
theorem jP{n:Nat}:∀ {xs L:List Int} {y:Int},y∈kQ n L xs->y∈L\/y∈xs
 | [],_,_,h=>.inl h
 | x :: r,L,y,h=>by
  rw [iJ] at h
  rcases jP h with q | q
  ·rcases uW q with e | e
   ·exact .inl e
   ·subst e;exact .inr (by simp)
  ·exact .inr (by simp [q])
theorem qB(p:Pg):∀ (f k:Nat) (L:List Int),(∀ x∈L,LrA p.L x)->∀ x∈rcL p f k L,LrA p.L x
 | 0,_,_,h=>h
 | f+1,k,L,h=>by
  unfold rcL
  cases ha:L[k]? with
  | none=>exact h
  | some a=>
   cases hi:p.L[a.toNat]? with
   | none=>simpa only [hi] using h
   | some i=>
    simp only [hi]
    refine qB p f (k+1) _ fun x hx=>?_
    rcases jP hx with q | q
    ·exact h x q
    ·rw [qM] at q
     exact(h a (n6 ha)).go hi q
theorem pD{p:Pg}(h:∀ (j:Nat) (i:Ins),p.L[j]?=some i->bE p j i=true)(hn:p.L≠[])(x:Int):x∈rcM p↔LrA p.L x:=by
 constructor
 ·exact qB p _ _ _ (fun y hy=>by
   obtain rfl:=List.mem_singleton.1 hy
   exact LrA.start) x
 ·intro hx
  have:=hx.ind (Q:=fun a=>a∈rcM p) ((qA p _ _ _).subset (by simp)) (fun a i y _ ha hi hy=>by
   have hb:=pE hn
   have h0:=(hb.bd a ha).1
   have hy':y∈ldU i (a.toNat:Nat):=by rw [Int.toNat_of_nonneg h0];exact hy
   obtain⟨b1,b2⟩:=kV h a.toNat i y hi hy'
   exact aA0 hn ha i hi y (by rw [qM];exact hy) b1 b2)
  exact this
theorem zI{p:Pg}(h:∀ (j:Nat) (i:Ins),p.L[j]?=some i->bE p j i=true)(hn:p.L≠[]){S:List Bool}(hs:SeN p.L S []):dR S=eE (rcM p):=by
 have hb:=pE hn
 refine nI hb.nd fun x=>?_
 rw [pD h hn]
 constructor
 ·intro hx
  have hm:=(pD h hn x).2 hx
  have h0:=(hb.bd x hm).1
  refine⟨x.toNat,(Int.toNat_of_nonneg h0).symm,(lR (kV h) hs x.toNat).2 ?_⟩
  rw [Int.toNat_of_nonneg h0]
  exact hx
 ·rintro ⟨k,rfl,hk⟩
  exact(lR (kV h) hs k).1 hk
section
attribute [local go_sem] Oper.semAt_some cD
def boA(n:Nat)(th:Nat->Bool):Array Value:=((List.range n).map fun k=>Value.bool (th k)).toArray
theorem lA{n k:Nat}(th:Nat->Bool)(h:k<n):(boA n th)[k]?=some (.bool (th k)):=by simp [boA,h]
def Bo(W:World)(b n:Nat)(th:Nat->Bool):Prop:=W.heap[b]?=some (.cells (boA n th) 4 (0,0))
theorem Bo.cell{W:World}{b n:Nat}{th:Nat->Bool}(h:Bo W b n th){k:Nat}(hk:k<n):W.cell? ⟨b,k,none⟩=some (.bool (th k)):=aA h (lA th hk)
theorem Bo.kept{W W':World}{b n:Nat}{th:Nat->Bool}(h:Bo W b n th)(hb:wBl W W'):Bo W' b n th:=(hb.block _ (aC h)).trans h
theorem Bo.set{W:World}{b n:Nat}{th:Nat->Bool}(h:Bo W b n th)(k:Nat){th':Nat->Bool}(ht:∀ x,x<n->th' x=if x=k then true else th x):Bo (W.setCell ⟨b,k,none⟩ (.bool true)) b n th':=by
 have:=aI h k (.bool true)
 unfold Bo
 rw [this]
 congr 2
 apply Array.ext_getElem?
 intro x
 by_cases hx:x<n
 ·rw [lA th' hx,ht x hx]
  by_cases hk:x=k
  ·subst hk
   rw [Array.getElem?_setIfInBounds_self_of_lt (by simp [boA];omega),if_pos rfl]
  ·rw [Array.getElem?_setIfInBounds_ne (by omega),lA th hx,if_neg hk]
 ·rw [Array.getElem?_eq_none (by simp [boA];omega),Array.getElem?_eq_none (by simp [boA];omega)]
theorem rH:(Tryz.prog.info? 4).map (fun i=>(i.zero,i.size,i.bytes))=some (some (.bool false),1,1):=by kernel_rfl
theorem rF:Tryz.prog.underlying 59=some (.slice 4):=by kernel_rfl
theorem pO(n:Nat)(h:n<=1000000)(w:World) :
  (Instr.makeSlice 59 (.int .i64 (n:Int)) (.int .i64 (n:Int))).run Tryz.prog w=.ok (.slice (some ⟨w.heap.size,0,none⟩) n n) (w.alloc (.cells (boA n fun _=>false) 4)):=by
 obtain⟨i0,hi,hz0,hz1,hz2⟩:=info_parts rH
 have:=run_make (P:=Tryz.prog) w 59 4 i0 (.bool false) rF hi hz0 .i64 .i64 (n:Int) (n:Int) (by omega) (by omega) (by rw [hz2];omega) (by omega)
 rw [hz1] at this
 have e:madeCells #[.bool false] n=boA n fun _=>false:=by
  apply Array.ext
  ·simp [madeCells,boA]
  intro i h1 h2
  simp [madeCells,boA,Nat.mod_one]
 simpa [Value.cells,e] using this
end
section
set_option linter.unusedSimpArgs false
set_option linter.unusedVariables false
attribute [local go_sem] Oper.semAt_some bK bF
theorem zY{w:World}{p:Pg}(h:PgI w p){k:Nat}{i:Ins}(hi:p.L[k]?=some i)(hk:p.L.length<=40000)(ho:isO i.op=false)(hu:usA i.op=[false,false,false,false,false,false]):Calls Tryz.prog 19 #[.agg #[.slice p.q p.L.length p.c,.int .i64 p.g,.int .i64 p.k,.bool p.f],.int .i64 (k:Int)] w fun e w'=>e=.returned (.bool (fnD p k i))/\wBl w w':=by
 have HFN:=aD (show fnD p k i=false from by unfold fnD;rw [hu];simp [ho])
 have B1:Hid (wBl w (w.alloc (.cells #[.slice p.q p.L.length p.c,.int .i64 p.g,.int .i64 p.k,.bool p.f] 24))):=bz9
 have X1:Hid ((w.alloc (.cells #[.slice p.q p.L.length p.c,.int .i64 p.g,.int .i64 p.k,.bool p.f] 24)).heap[w.heap.size]?=some (.cells #[.slice p.q p.L.length p.c,.int .i64 p.g,.int .i64 p.k,.bool p.f] 24 (0,0))):=aE w _
 obtain⟨g1,o1,hq1,hl1,c0,c1,c2,c3,c4,c5,c6,c7,c8,c9⟩:=(h.li.kept B1.o).ten hi
 have hkl:=(g7.1 hi).1
 have k0:(0:Int)<=(k:Int):=by omega
 have k1:(k:Int)<(p.L.length:Int):=by omega
 have OF:=aD (aN i.op)
 rw [hu,ho] at OF
 have OF:Hid (∀ w,Calls Tryz.prog 22 #[.int .i64 i.op] w fun e w'=>e=.returned (.tuple #[.agg #[.bool false,.bool false,.bool false,.bool false,.bool false,.bool false],.bool false])/\wBl w w'):=OF
 rw [HFN.o]
 clear hu ho HFN
 have HQ:=aD hq1
 clear h hi hq1
 go_enter Tryz.func19,Tryz.ntmps19
 go_upto_region 1 with fail
 generalize (w.alloc (.cells #[.slice p.q p.L.length p.c,.int .i64 p.g,.int .i64 p.k,.bool p.f] 24))=w1 at B1 X1 c0 c1 c2 c3 c4 c5 c6 c7 c8 c9 ⊢
 have p0:w1.cell? ⟨w.heap.size,0,none⟩=some (.slice p.q p.L.length p.c):=aA X1.o (i:=0) rfl
 rw [HQ.o] at p0
 go_upto_region 2 with fail
 have BA:wBl w1 (w1.alloc (.cells #[.int .i64 i.op,.int .i64 i.x,.int .i64 i.y,.int .i64 i.n,.int .i64 i.mn,.int .i64 i.mx,.int .u64 (aB i.s 0),.int .u64 (aB i.s 1),.int .u64 (aB i.s 2),.int .u64 (aB i.s 3)] 54)):=bz9
 have X2:=aD ((BA.block _ (aC X1.o)).trans X1.o)
 have I2:Hid ((w1.alloc (.cells #[.int .i64 i.op,.int .i64 i.x,.int .i64 i.y,.int .i64 i.n,.int .i64 i.mn,.int .i64 i.mx,.int .u64 (aB i.s 0),.int .u64 (aB i.s 1),.int .u64 (aB i.s 2),.int .u64 (aB i.s 3)] 54)).heap[w1.heap.size]?=some (.cells #[.int .i64 i.op,.int .i64 i.x,.int .i64 i.y,.int .i64 i.n,.int .i64 i.mn,.int .i64 i.mx,.int .u64 (aB i.s 0),.int .u64 (aB i.s 1),.int .u64 (aB i.s 2),.int .u64 (aB i.s 3)] 54 (0,0))):=aE w1 _
 have B2:=aD (aF B1.o BA lz9)
 clear BA c0 c1 c2 c3 c4 c5 c6 c7 c8 c9 p0
 generalize (w1.alloc (.cells #[.int .i64 i.op,.int .i64 i.x,.int .i64 i.y,.int .i64 i.n,.int .i64 i.mn,.int .i64 i.mx,.int .u64 (aB i.s 0),.int .u64 (aB i.s 1),.int .u64 (aB i.s 2),.int .u64 (aB i.s 3)] 54))=w2 at X2 I2 B2 ⊢
 obtain⟨ib,hib⟩:∃ ib,w1.heap.size=ib:=⟨_,rfl⟩
 rw [hib] at I2 ⊢
 clear hib
 have d0:w2.cell? ⟨ib,0,none⟩=some (.int .i64 i.op):=aA I2.o (i:=0) rfl
 go_upto_region 3 with (go_at_call 22;(with_reducible refine(OF.o _).mono ?_);rintro e w3 ⟨rfl,h3⟩;have X3:=aD ((h3.block _ (aC X2.o)).trans X2.o);have I3:=aD ((h3.block _ (aC I2.o)).trans I2.o);have B3:=aD (aF B2.o h3 lz9);clear h3)
 have BA:wBl w3 (w3.alloc (.cells #[.bool false,.bool false,.bool false,.bool false,.bool false,.bool false] 61)):=bz9
 have X4:=aD ((BA.block _ (aC X3.o)).trans X3.o)
 have I4:=aD ((BA.block _ (aC I3.o)).trans I3.o)
 have U4:Hid ((w3.alloc (.cells #[.bool false,.bool false,.bool false,.bool false,.bool false,.bool false] 61)).heap[w3.heap.size]?=some (.cells #[.bool false,.bool false,.bool false,.bool false,.bool false,.bool false] 61 (0,0))):=aE w3 _
 have B4:=aD (aF B3.o BA lz9)
 clear BA X3 I3 B3 X2 I2 B2
 generalize (w3.alloc (.cells #[.bool false,.bool false,.bool false,.bool false,.bool false,.bool false] 61))=w4 at X4 I4 U4 B4 ⊢
 obtain⟨ub,hub⟩:∃ ub,w3.heap.size=ub:=⟨_,rfl⟩
 rw [hub] at U4 ⊢
 clear hub
 have p0:w4.cell? ⟨w.heap.size,0,none⟩=some (.slice p.q p.L.length p.c):=aA X4.o (i:=0) rfl
 have p1:w4.cell? ⟨w.heap.size,1,none⟩=some (.int .i64 p.g):=aA X4.o (i:=1) rfl
 have p2:w4.cell? ⟨w.heap.size,2,none⟩=some (.int .i64 p.k):=aA X4.o (i:=2) rfl
 have d0:w4.cell? ⟨ib,0,none⟩=some (.int .i64 i.op):=aA I4.o (i:=0) rfl
 have d1:w4.cell? ⟨ib,1,none⟩=some (.int .i64 i.x):=aA I4.o (i:=1) rfl
 have d2:w4.cell? ⟨ib,2,none⟩=some (.int .i64 i.y):=aA I4.o (i:=2) rfl
 have d3:w4.cell? ⟨ib,3,none⟩=some (.int .i64 i.n):=aA I4.o (i:=3) rfl
 have d4:w4.cell? ⟨ib,4,none⟩=some (.int .i64 i.mn):=aA I4.o (i:=4) rfl
 have d5:w4.cell? ⟨ib,5,none⟩=some (.int .i64 i.mx):=aA I4.o (i:=5) rfl
 have d6:w4.cell? ⟨ib,6,none⟩=some (.int .u64 (aB i.s 0)):=aA I4.o (i:=6) rfl
 have d7:w4.cell? ⟨ib,7,none⟩=some (.int .u64 (aB i.s 1)):=aA I4.o (i:=7) rfl
 have d8:w4.cell? ⟨ib,8,none⟩=some (.int .u64 (aB i.s 2)):=aA I4.o (i:=8) rfl
 have d9:w4.cell? ⟨ib,9,none⟩=some (.int .u64 (aB i.s 3)):=aA I4.o (i:=9) rfl
 have u0:w4.cell? ⟨ub,0,none⟩=some (.bool false):=aA U4.o (i:=0) rfl
 have u1:w4.cell? ⟨ub,1,none⟩=some (.bool false):=aA U4.o (i:=1) rfl
 have u2:w4.cell? ⟨ub,2,none⟩=some (.bool false):=aA U4.o (i:=2) rfl
 have u3:w4.cell? ⟨ub,3,none⟩=some (.bool false):=aA U4.o (i:=3) rfl
 have u4:w4.cell? ⟨ub,4,none⟩=some (.bool false):=aA U4.o (i:=4) rfl
 have u5:w4.cell? ⟨ub,5,none⟩=some (.bool false):=aA U4.o (i:=5) rfl
 go_wp2
 go_ret
 exact⟨rfl,B4.o⟩
end
end Go.Proofs.YtliflleaeimngaaGreatDoor
