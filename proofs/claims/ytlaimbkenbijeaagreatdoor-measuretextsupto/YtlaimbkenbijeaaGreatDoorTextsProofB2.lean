/-
  Parts of the proof.
-/
import Derived.Test.YtlaimbkenbijeaaGreatDoorTextsProofA0
import Derived.Test.YtlaimbkenbijeaaGreatDoorTextsProofB0
import Derived.BigQuiet
import Derived.Test.YtlaimbkenbijeaaGreatDoorTextsProofB1
import Derived.Lib.TrailingZeros
import Derived.Laws.Bits64b
import Derived.RangeFuncNested
import Derived.RangeFuncBound
import Derived.RangeFuncCalls
import Derived.RangeFuncLeaves
import Derived.RangeFuncBox
import Derived.Shelf.Abstract
import Derived.Shelf.RegionOpen
import Derived.OwnWalkIn
import Derived.TacticsInMore
import Derived.LoopNIn
import Derived.LoopIn
import Derived.Maps.AppendAt
import Derived.Deep.RegionHeld3
import Derived.Deep.DrawnRows
import Derived.Deep.MidRow
import Derived.Test.YtlaimbkenbijeaaGreatDoorProg
import Derived.WalkKit
import Derived.WalkSpells
import Derived.WalkLawsBesides
import Derived.Below
import Derived.Laws.AppendOwn
import Derived.Laws.MakeOwn
import Derived.Laws.CopyOwn
set_option maxRecDepth 100000
set_option maxHeartbeats 8000000
namespace Go.Proofs.YtlaimbkenbijeaaGreatDoor
open Go Go.RowKit
def nL(W:World):Type:={ w:World // Below W.heap.size W w }
theorem dY{W:World}(x:nL W)(b o:Nat)(h:b < W.heap.size):x.val.cell? ⟨b,o,none⟩=W.cell? ⟨b,o,none⟩:=x.2.cell (p:=⟨b,o,none⟩) h
theorem mM{W w1:World}(h:∃ x:nL W,w1=x.val):Below W.heap.size W w1:=by
 obtain⟨x,rfl⟩:=h
 exact x.2
theorem aB6:Tryz.prog.eqGuardType Tryz.prog.depth 36=false:=by kernel_rfl
theorem bA3:Tryz.prog.eqGuardType Tryz.prog.depth 110=false:=by kernel_rfl
theorem nH(x0 gX gW gV y0 y1 y2 y3:Int)(w:World) :
  (Op.equalIn 10000 36 (.agg #[.int .u64 x0,.int .u64 gX,.int .u64 gW,.int .u64 gV]) (.agg #[.int .u64 y0,.int .u64 y1,.int .u64 y2,.int .u64 y3])).run Tryz.prog w
   = .ok (x0==y0 && gX==y1 && gW==y2 && gV==y3) w:=by
 have u22:=Tryz.underlying34
 have a22:=Tryz.isAgg34
 have z22:=Tryz.sizeOf34
 have hu:Tryz.prog.underlying 36=some (.array 4 34):=by kernel_rfl
 rw [show (10000:Nat)=9999+1 from rfl,Op.equalIn]
 simp only [Sem.run_bind,run_underlying hu,Result.andThen_ok]
 simp only [Std.Legacy.Range.forIn_eq_forIn_range',Std.Legacy.Range.size,Nat.sub_zero,Nat.add_sub_cancel,Nat.div_one,List.range'_succ,List.range'_zero,List.forIn_cons,List.forIn_nil]
 go_simp
 by_cases h0:x0=y0 <;> by_cases h1:gX=y1 <;> by_cases h2:gW=y2 <;> by_cases h3:gV=y3 <;> simp [h0,h1,h2,h3]
theorem aL8(a b:bO):(aC a 0==aC b 0 && aC a 1==aC b 1 && aC a 2==aC b 2 && aC a 3==aC b 3)=decide (a=b):=by
 by_cases h:a=b
 ·subst h;simp
 ·rw [l8 h,aBV]
  intro g
  simp at g
  exact h (aL7 g.1.1.1 g.1.1.2 g.1.2 g.2)
theorem lN(a b:bO)(w:World):(Op.equalIn 10000 36 (.agg #[.int .u64 (aC (a) 0),.int .u64 (aC (a) 1),.int .u64 (aC (a) 2),.int .u64 (aC (a) 3)]) (.agg #[.int .u64 (aC (b) 0),.int .u64 (aC (b) 1),.int .u64 (aC (b) 2),.int .u64 (aC (b) 3)])).run Tryz.prog w=.ok (decide (a=b)) w:=by
 rw [nH,aL8]
theorem mJ(i:Nat):aC (0#256) i=0:=by simp [aC]
theorem bH3(a:bO)(w:World):(Op.equalIn 10000 36 (.agg #[.int .u64 (aC (a) 0),.int .u64 (aC (a) 1),.int .u64 (aC (a) 2),.int .u64 (aC (a) 3)]) (.agg #[.int .u64 0,.int .u64 0,.int .u64 0,.int .u64 0])).run Tryz.prog w=.ok (decide (a=0#256)) w:=by
 have:=lN a (0#256) w
 rwa [mJ,mJ,mJ,mJ] at this
theorem bA2(a b c d:Int)(w:World):(Op.equalIn 10000 110 (.agg #[.int .i64 a,.int .i64 b]) (.agg #[.int .i64 c,.int .i64 d])).run Tryz.prog w=.ok (a==c && b==d) w:=by
 have u3:=Tryz.underlying3
 have a3:=Tryz.isAgg3
 have z3:=Tryz.sizeOf3
 have hS:Tryz.prog.underlying 110=some (.struct (Tryz.prog.fieldsOf 110)):=by kernel_rfl
 have hp:Tryz.prog.stoodInHeld 110=false:=by kernel_rfl
 rw [show (10000:Nat)=9999+1 from rfl,run_equalIn_agg w 9999 110 _ _ hS hp]
 simp only [Program.fieldsOf,Tryz.underlying110]
 go_simp
 by_cases h1:a=c <;> by_cases h2:b=d <;> simp [h1,h2]
section
attribute [local go_sem] jC jB jA iZ bT dY
theorem lO(a b:bO)(n:Nat):(bU a b).getLsbD n=(a.getLsbD n && !b.getLsbD n):=by
 unfold bU
 by_cases h:n < 256
 ·simp [h]
 ·have:a.getLsbD n=false:=BitVec.getLsbD_of_ge _ _ (by omega)
  simp [this]
theorem gY(s:bO)(i n:Nat)(hn:n < 64):(s.extractLsb' (64 * i) 64).getLsbD n=s.getLsbD (64 * i+n):=by
 rw [BitVec.getLsbD_extractLsb'];simp [hn]
end
section
open Go Go.RowKit Go.Shelf
attribute [local go_sem] Oper.semAt_some
def z1_SetAt(W:World)(B:Nat)(s:bO):Prop:=W.heap[B]?=some (.cells #[.int .u64 (aC (s) 0),.int .u64 (aC (s) 1),.int .u64 (aC (s) 2),.int .u64 (aC (s) 3)] 36 (0,0))
theorem z1_SetAt.lt{W:World}{B:Nat}{s:bO}(h:z1_SetAt W B s):B < W.heap.size:=(aAA.1 h).1
theorem z1_SetAt.cell0{W:World}{B:Nat}{s:bO}(h:z1_SetAt W B s):W.cell? ⟨B,0,none⟩=some (.int .u64 (aC s 0)):=by simp [World.cell?,show W.heap[B]?=_ from h]
theorem z1_SetAt.cell1{W:World}{B:Nat}{s:bO}(h:z1_SetAt W B s):W.cell? ⟨B,1,none⟩=some (.int .u64 (aC s 1)):=by simp [World.cell?,show W.heap[B]?=_ from h]
theorem z1_SetAt.cell2{W:World}{B:Nat}{s:bO}(h:z1_SetAt W B s):W.cell? ⟨B,2,none⟩=some (.int .u64 (aC s 2)):=by simp [World.cell?,show W.heap[B]?=_ from h]
theorem z1_SetAt.cell3{W:World}{B:Nat}{s:bO}(h:z1_SetAt W B s):W.cell? ⟨B,3,none⟩=some (.int .u64 (aC s 3)):=by simp [World.cell?,show W.heap[B]?=_ from h]
theorem z1_SetAt.below{W W':World}{B n₀:Nat}{s:bO}(h:z1_SetAt W B s)(hb:Below n₀ W W')(hB:B < n₀):z1_SetAt W' B s:=(hb.block B hB).trans h
theorem z1_SetAt.new(W:World)(s:bO):z1_SetAt (W.alloc (.cells #[.int .u64 (aC (s) 0),.int .u64 (aC (s) 1),.int .u64 (aC (s) 2),.int .u64 (aC (s) 3)] 36)) W.heap.size s:=World.alloc_heap_new W _
theorem z1_SetAt.cells{W:World}{B:Nat}{s:bO}(h:z1_SetAt W B s):W.cell? ⟨B,0,none⟩=some (.int .u64 (aC s 0))/\W.cell? ⟨B,1,none⟩=some (.int .u64 (aC s 1))/\W.cell? ⟨B,2,none⟩=some (.int .u64 (aC s 2))/\W.cell? ⟨B,3,none⟩=some (.int .u64 (aC s 3)):=⟨h.cell0,h.cell1,h.cell2,h.cell3⟩
theorem z1_SetAt.alloc{W:World}{B:Nat}{s:bO}(h:z1_SetAt W B s)(o:Obj):z1_SetAt (W.alloc o) B s:=(Below.heap_alloc W o B h.lt).trans h
theorem z1_SetAt.setCell{W:World}{B:Nat}{s:bO}(h:z1_SetAt W B s){a:Addr}(hne:B≠a.block)(v:Value):z1_SetAt (W.setCell a v) B s:=(Below.heap_setCell W a v B hne).trans h
end
section
attribute [local go_sem] jC jB jA iZ bT
def cT(lo hi:Int):bO:=bU (cW (hi+1)) (cW lo)
def dQ(lo hi:Int):Prop:=0<=lo/\lo<=hi/\hi<=255
theorem dZ(i:Nat):aC (0#256) i=0:=by simp [aC]
theorem eD{w W W':World}(h:Below w.heap.size w W)(hb:Below W.heap.size W W'):Below w.heap.size w W':=h.trans (hb.mono h.size)
theorem kJ{w W:World}{x0 gX gW gV:Value}{t:TypeId}(h:Below (w.alloc (.cells #[x0,gX,gW,gV] t)).heap.size (w.alloc (.cells #[x0,gX,gW,gV] t)) W) :
  W.cell? ⟨w.heap.size,0,none⟩=some x0/\W.cell? ⟨w.heap.size,1,none⟩=some gX/\W.cell? ⟨w.heap.size,2,none⟩=some gW/\W.cell? ⟨w.heap.size,3,none⟩=some gV/\∀ o,W.frozen? ⟨w.heap.size,o,none⟩=false:=by
 refine⟨?_,?_,?_,?_,fun o=>?_⟩
 ·rw [h.cell (by simp)];simp [go_sem]
 ·rw [h.cell (by simp)];simp [go_sem]
 ·rw [h.cell (by simp)];simp [go_sem]
 ·rw [h.cell (by simp)];simp [go_sem]
 ·rw [h.frozen (by simp)];simp [go_sem]
theorem vQ(lo hi:Int)(w:World)(h:¬ dQ lo hi) :
  Calls Tryz.prog 145 #[.int .i64 lo,.int .i64 hi] w fun e w'=>e=.returned (.tuple #[.agg #[.int .u64 (aC (0#256) 0),.int .u64 (aC (0#256) 1),.int .u64 (aC (0#256) 2),.int .u64 (aC (0#256) 3)],.int .i64 1])/\Below w.heap.size w w':=by
 unfold dQ at h
 rw [dZ,dZ,dZ,dZ]
 have hc:lo < 0\/(0<=lo/\hi < lo)\/(0<=lo/\lo<=hi/\255 < hi):=by omega
 clear h
 rcases hc with h | ⟨h,h'⟩ | ⟨h,h',h''⟩
 all_goals
  go_enter Tryz.func145,Tryz.ntmps145
  go_wp2
  exact bodyPost_ret (v:=.tuple #[.agg #[.int .u64 0,.int .u64 0,.int .u64 0,.int .u64 0],.int .i64 1]) (by simp [results,Tryz.results145,go_sem]) rfl ⟨rfl,(Below.refl _ _).alloc (n8 _) _⟩
theorem xO(lo hi:Int)(w:World)(h:dQ lo hi) :
  Calls Tryz.prog 145 #[.int .i64 lo,.int .i64 hi] w fun e w'=>e=.returned (.tuple #[.agg #[.int .u64 (aC (cT lo hi) 0),.int .u64 (aC (cT lo hi) 1),.int .u64 (aC (cT lo hi) 2),.int .u64 (aC (cT lo hi) 3)],.int .i64 0])/\Below w.heap.size w w':=by
 obtain⟨h0,h1,h2⟩:=h
 go_enter Tryz.func145,Tryz.ntmps145
 go_wp2_with (first
  |(go_at_call 179;refine(nY _ _).mono ?_;rintro e w2 ⟨rfl,hb2⟩;have HB:=eD HA hb2)
  |(go_at_call 179;refine(nY _ _).mono ?_;rintro e w1 ⟨rfl,HA⟩)
  |(go_at_call 178;refine(xR _ _ _).mono ?_;rintro e w3 ⟨rfl,hb3⟩;have HC:=eD HB hb3;obtain⟨c0,c1,c2,c3,f0⟩:=kJ HC))
 exact bodyPost_ret (v:=.tuple #[.agg #[.int .u64 (aC (cT lo hi) 0),.int .u64 (aC (cT lo hi) 1),.int .u64 (aC (cT lo hi) 2),.int .u64 (aC (cT lo hi) 3)],.int .i64 0]) (by simp [results,Tryz.results145,go_sem,cT,c0,c1,c2,c3]) rfl ⟨rfl,((((((Below.refl _ _).alloc (n8 _) _).trans (HC.mono (by simp))).setCell (by simp) _).setCell (by simp) _).setCell (by simp) _).setCell (by simp) _⟩
open Classical in
noncomputable def iK (lo hi:Int):bO:=if dQ lo hi then cT lo hi else 0#256
open Classical in
noncomputable def pL (lo hi:Int):Int:=if dQ lo hi then 0 else 1
theorem vR(lo hi:Int)(w:World) :
  Calls Tryz.prog 145 #[.int .i64 lo,.int .i64 hi] w fun e w'=>e=.returned (.tuple #[.agg #[.int .u64 (aC (iK lo hi) 0),.int .u64 (aC (iK lo hi) 1),.int .u64 (aC (iK lo hi) 2),.int .u64 (aC (iK lo hi) 3)],.int .i64 (pL lo hi)])/\Below w.heap.size w w':=by
 unfold iK pL
 by_cases h:dQ lo hi
 ·rw [if_pos h,if_pos h];exact xO lo hi w h
 ·rw [if_neg h,if_neg h];exact vQ lo hi w h
theorem vS{lo hi:Int}(h:dQ lo hi):iK lo hi=cT lo hi:=if_pos h
theorem vT{lo hi:Int}(h:dQ lo hi):pL lo hi=0:=if_pos h
end
section
def cM(l:List Oper)(o:Oper):Bool:=
 (l.zipIdx.all fun x=>x.1.after.all (fun e=>decide (e.on < x.2)) && (match x.1.guard with | none=>true | some g=>decide (g.1 < l.length))) &&
 o.guard.isNone && o.after.all (fun e=>decide (e.on < l.length)) && (List.range l.length).all fun j=>o.after.any fun e=>Region.binds .any e && e.on==j
section
variable {P:Program} {l:List Oper} {o:Oper} {Q:Exit->Act->World->Prop}
def yA(P:Program)(l:List Oper)(o:Oper)(Q:Exit->Act->World->Prop):Exit->Act->World->Prop
 | .normal,a,w=>wpList P (l ++ [o]).toArray Q [o] a w
 | e,a,w=>Q e a w
theorem pM{j:Nat}(h:j < l.length):(l ++ [o]).toArray[j]?=l.toArray[j]?:=by
 simp [List.getElem?_append_left h]
theorem lL:(l ++ [o]).toArray[l.length]?=some o:=by simp
theorem gQ(h:cM l o=true){j:Nat}{x:Oper}(hx:l.toArray[j]?=some x):(∀ e∈x.after,e.on < j)/\∀ g b,x.guard=some (g,b)->g < l.length:=by
 unfold cM at h
 simp only [aAT,List.all_eq_true] at h
 have hm:(x,j)∈l.zipIdx:=by
  rw [List.mem_zipIdx_iff_getElem?];simpa using hx
 have:=h.1.1.1 (x,j) hm
 refine⟨fun e he=>?_,fun g b hg=>?_⟩
 ·have h1:=this.1
  rw [aAZ] at h1
  simpa using h1 e he
 ·have h2:=this.2
  simp only [hg] at h2
  simpa using h2
theorem rO(h:cM l o=true):o.guard=none:=by
 unfold cM at h
 simp only [aAT] at h
 simpa using h.1.1.2
theorem xT(h:cM l o=true):∀ e∈o.after,e.on < l.length:=by
 unfold cM at h
 simp only [aAT] at h
 have h1:=h.1.2
 rw [aAZ] at h1
 intro e he
 simpa using h1 e he
theorem vV(h:cM l o=true){j:Nat}(hj:j < l.length):∃ e∈o.after,Region.binds .any e=true/\e.on=j:=by
 unfold cM at h
 simp only [aAT,List.all_eq_true] at h
 have:=h.2 j (by simpa using hj)
 rw [<- Array.any_toList,List.any_eq_true] at this
 obtain⟨e,he,hb⟩:=this
 simp at hb
 exact⟨e,by simpa using he,hb.1,hb.2⟩
theorem fM{listed:Array Bool}{j:Nat}(d:Bool)(hj:j < listed.size):(listed.push false).getD j d=listed.getD j d:=by
 simp [Array.getD_eq_getD_getElem?,Array.getElem?_push,Nat.ne_of_lt hj]
theorem qS{listed:Array Bool}(d:Bool):(listed.push false).getD listed.size d=false:=by
 simp [Array.getD_eq_getD_getElem?]
theorem lK(h:cM l o=true){listed:Array Bool}(hs:listed.size=l.length){j:Nat}(hj:j < l.length) :
  j∈Region.ready .any (l ++ [o]).toArray (listed.push false) ↔ j∈Region.ready .any l.toArray listed:=by
 rw [mem_ready,mem_ready,pM hj,fM _ (by omega)]
 refine and_congr_right fun _=>exists_congr fun x=>and_congr_right fun hx=>?_
 have he:=(gQ h hx).1
 refine forall_congr' fun e=>forall_congr' fun hm=>forall_congr' fun _=>?_
 have:=he e hm
 rw [fM _ (by omega)]
theorem nI(h:cM l o=true){listed:Array Bool}(hs:listed.size=l.length)(hr:Region.ready .any l.toArray listed=[]) :
  ∀ j,j < l.length->listed.getD j false=true:=by
 intro j
 induction j using Nat.strongRecOn with
 | _ j ih=>
  intro hj
  have hx:l.toArray[j]?=some l[j]:=by simp [hj]
  have hn:¬ j∈Region.ready .any l.toArray listed:=by rw [hr];simp
  rw [mem_ready] at hn
  have hge:listed.getD j true=true:=by
   rcases hb:listed.getD j true with _ | _
   ·exact absurd ⟨hb,_,hx,fun e he _=>ih e.on ((gQ h hx).1 e he) (by have:=(gQ h hx).1 e he;omega)⟩ hn
   ·rfl
  have hlt:j < listed.size:=by omega
  simpa [Array.getD_eq_getD_getElem?,hlt] using hge
theorem nF(h:cM l o=true){listed:Array Bool}(hs:listed.size=l.length)(hr:Region.ready .any l.toArray listed=[]) :
  l.length∈Region.ready .any (l ++ [o]).toArray (listed.push false):=by
 rw [mem_ready]
 refine⟨by rw [<- hs];exact qS _,o,lL,fun e he _=>?_⟩
 have:=xT h e he
 rw [fM _ (by omega)]
 exact nI h hs hr _ this
theorem pK(h:cM l o=true){listed:Array Bool}(hs:listed.size=l.length)
  (hl:l.length∈Region.ready .any (l ++ [o]).toArray (listed.push false)):Region.ready .any l.toArray listed=[]:=by
 rw [mem_ready] at hl
 obtain⟨_,x,hx,ha⟩:=hl
 rw [lL] at hx
 cases hx
 rw [aBU]
 intro j hj
 rw [mem_ready] at hj
 obtain⟨hu,x,hx,_⟩:=hj
 have hlt:j < l.length:=by
  have:=(aAA.1 hx).1
  simpa using this
 obtain⟨e,he,hb,rfl⟩:=vV h hlt
 have:=ha e he hb
 rw [fM _ (by omega)] at this
 have hlt':e.on < listed.size:=by omega
 simp [Array.getD_eq_getD_getElem?,hlt'] at this hu
 rw [this] at hu
 cases hu
theorem nX(h:cM l o=true){listed:Array Bool}(hs:listed.size=l.length)(hr:Region.ready .any l.toArray listed=[]) :
  Region.ready .any (l ++ [o]).toArray ((listed.push false).setIfInBounds l.length true)=[]:=by
 rw [aBU]
 intro j hj
 rw [mem_ready] at hj
 obtain⟨hu,x,hx,_⟩:=hj
 have hlt:j < l.length+1:=by
  have:=(aAA.1 hx).1
  simpa using this
 by_cases e:j=l.length
 ·subst e
  simp [Array.getD_eq_getD_getElem?,hs] at hu
 ·have hj':j < l.length:=by omega
  have:=nI h hs hr j hj'
  have hlt':j < listed.size:=by omega
  have hne:¬ l.length=j:=fun h=>e h.symm
  simp [Array.getD_eq_getD_getElem?,hne,Array.getElem?_push,Nat.ne_of_lt hlt',hlt'] at this hu
  rw [this] at hu
  cases hu
theorem vN(h:cM l o=true){j:Nat}{x:Oper}(hx:l.toArray[j]?=some x)(tmps:Array Value) :
  Region.wanted x (yielded (l ++ [o]).toArray tmps)=Region.wanted x (yielded l.toArray tmps):=by
 unfold Region.wanted
 cases hg:x.guard with
 | none=>rfl
 | some g=>
  obtain⟨g,b⟩:=g
  have:=(gQ h hx).2 g b hg
  simp only [yielded,pM this]
theorem Oper.z1_wp_q1{x:Oper}{a:Act}{w:World}{K K':Act->World->Prop}(hK:∀ a w,K a w->K' a w)(hh:x.wp P a w K (yA P l o Q)):x.wp P a w K' Q:=by
 unfold Oper.wp at *
 generalize (execOp a.eval x).run P w=r at *
 cases r with
 | ok n w'=>
  cases n <;> simp only [Oper.upon] at hh ⊢ <;>
   first
    | exact hK _ _ hh
    | exact Calls.mono hh (fun e w'' he=>by cases e <;> first | exact hK _ _ he | exact he)
    | exact Rows.mono hh (fun _ _ he=>hK _ _ he)
 | halt x w'=>cases x <;> simp only [Oper.upon] at hh ⊢ <;> exact hh
theorem aB1(h:cM l o=true){i:Nat}(hi:i < l.length){a:Act}{w:World}{K K':Act->World->Prop}(hK:∀ a w,K a w->K' a w)
  (hh:wpOp P l.toArray (yA P l o Q) i K a w):wpOp P (l ++ [o]).toArray Q i K' a w:=by
 unfold wpOp at *
 rw [pM hi]
 have hx:l.toArray[i]?=some l[i]:=by simp [hi]
 simp only [hx] at hh ⊢
 rw [vN h hx]
 split
 ·rename_i hw
  rw [if_pos hw] at hh
  exact hh.imp (Oper.z1_wp_q1 hK) (fun g=>⟨g.1,g.2⟩)
 ·rename_i hw
  rw [if_neg hw] at hh
  exact hK _ _ hh
theorem nU(h:cM l o=true){a:Act}{w:World}{K:Act->World->Prop}(hK:∀ a w,Q .normal a w->K a w)(hh:yA P l o Q .normal a w) :
  wpOp P (l ++ [o]).toArray Q l.length K a w:=by
 unfold wpOp
 rw [lL]
 have hw:∀ y,Region.wanted o y=true:=fun y=>by unfold Region.wanted;rw [rO h]
 have hh':wpList P (l ++ [o]).toArray Q [o] a w:=hh
 unfold wpList at hh'
 rw [if_pos (hw _)] at hh'
 simp only [hw,if_true]
 exact hh'.imp (Oper.wp_mono hK) id
theorem xP{listed:Array Bool}{i:Nat}(hi:i < listed.size):(listed.setIfInBounds i true).push false=(listed.push false).setIfInBounds i true:=by
 apply Array.ext'
 simp [List.set_append_left _ _ (show i < listed.toList.length by simpa using hi)]
theorem tN(h:cM l o=true):∀ (fuel:Nat) (listed:Array Bool) (a:Act) (w:World),listed.size=l.length ->
  wpAny P .any l.toArray (yA P l o Q) fuel listed a w->wpAny P .any (l ++ [o]).toArray Q (fuel+1) (listed.push false) a w:=by
 intro fuel
 induction fuel with
 | zero=>
  rintro listed a w hs ⟨hr,hq⟩
  refine⟨fun h0=>?_,fun i hi=>?_⟩
  ·have:=nF h hs hr;rw [h0] at this;cases this
  ·by_cases e:i=l.length
   ·subst e;exact nU h (fun a w hq=>⟨nX h hs hr,hq⟩) hq
   ·have hlt:i < l.length:=by
     rw [mem_ready] at hi
     obtain⟨_,x,hx,_⟩:=hi
     have:=(aAA.1 hx).1
     simp at this;omega
    rw [lK h hs hlt,hr] at hi;cases hi
 | succ fuel ih=>
  rintro listed a w hs ⟨hq,hall⟩
  refine⟨fun h0=>?_,fun i hi=>?_⟩
  ·by_cases hr:Region.ready .any l.toArray listed=[]
   ·have:=nF h hs hr;rw [h0] at this;cases this
   ·obtain⟨j,hj⟩:=List.exists_mem_of_ne_nil _ hr
    have hlt:j < l.length:=by
     rw [mem_ready] at hj
     obtain⟨_,x,hx,_⟩:=hj
     have:=(aAA.1 hx).1
     simpa using this
    rw [<- lK h hs hlt,h0] at hj;cases hj
  ·by_cases e:i=l.length
   ·subst e
    have hr:=pK h hs hi
    exact nU h (fun a w hq=>⟨fun _=>hq,fun j hj=>by rw [nX h hs hr] at hj;cases hj⟩) (hq hr)
   ·have hlt:i < l.length:=by
     rw [mem_ready] at hi
     obtain⟨_,x,hx,_⟩:=hi
     have:=(aAA.1 hx).1
     simp at this;omega
    have hi':=(lK h hs hlt).1 hi
    refine aB1 h hlt (fun a' w' hw=>?_) (hall i hi')
    have:=ih (listed.setIfInBounds i true) a' w' (by simpa using hs) hw
    rwa [xP (by omega)] at this
theorem nT{id:Nat}{a:Act}{w:World}(hm:P.follows .mixedOrders=true)(hB:Region.lexB .any l.toArray=true)(hl:cM l o=true)
  (h:wpQuiet P l.toArray (fun w'=>∃ x:nL w,w'=x.val) (fun a'=>∀ w',(∃ x:nL w,w'=x.val)->wpList P (l ++ [o]).toArray Q [o] a' w') l a):(Code.region id (l ++ [o]).toArray true).wp P Q a w:=by
 simp only [Region.lexB,aAT] at hB
 refine wp_region_any hm ?_
 have h1:=wpAnyQ_lex (C:=fun w'=>∃ x:nL w,w'=x.val) (md:=.any) hB.1 l 0 (Array.replicate l.length false) a (by simp) (by simpa using hB.2) h
 have h2:=wpAny_of_quiet (Q':=yA P l o Q) (fun _ w' hw' h=>h w' hw') _ _ _ { w with drawn:=w.drawn+1 } ⟨⟨w.drew,(Below.refl _ _).drew⟩,rfl⟩ h1
 have h3:=tN hl _ _ _ _ (by simp) h2
 have e:(Array.replicate l.length false).push false=Array.replicate (l ++ [o]).toArray.size false:=by simp [Array.replicate_succ]
 rw [e] at h3
 simpa using h3
end
theorem dK{P:Program}{Q:Exit->Act->World->Prop}{id:Nat}{a:Act}{w:World}{L:List Oper}(hne:L≠[])(hm:P.follows .mixedOrders=true)(hB:Region.lexB .any L.dropLast.toArray=true)(hl:cM L.dropLast (L.getLast hne)=true)
  (h:wpQuiet P L.dropLast.toArray (fun w'=>∃ x:nL w,w'=x.val) (fun a'=>∀ w',(∃ x:nL w,w'=x.val)->wpList P L.toArray Q [L.getLast hne] a' w') L.dropLast a):(Code.region id L.toArray true).wp P Q a w:=by
 have e:L.dropLast ++ [L.getLast hne]=L:=aBY hne
 have:=nT (P:=P) (Q:=Q) (id:=id) (a:=a) (w:=w) (l:=L.dropLast) (o:=L.getLast hne) hm hB hl (by rw [e];exact h)
 rwa [e] at this
end
section
attribute [local go_sem] jC jB jA iZ bT dY
theorem dI{W:World}{g:Nat}{cur:Array Value}{t:TypeId}(hg:W.heap[g]?=some (.cells cur t (0,0)))(o:Nat)(v:Value):(W.setCell ⟨g,o,none⟩ v).heap[g]?=some (.cells (cur.setIfInBounds o v) t (0,0)):=by
 unfold World.setCell
 dsimp only
 rw [Array.getElem?_modify,if_pos rfl,hg]
 rfl
theorem z1_SetAt.store{W:World}{B:Nat}{s:bO}(h:z1_SetAt W B s)(t:bO) :
  z1_SetAt ((((W.setCell ⟨B,0,none⟩ (.int .u64 (aC t 0))).setCell ⟨B,1,none⟩ (.int .u64 (aC t 1))).setCell ⟨B,2,none⟩ (.int .u64 (aC t 2))).setCell ⟨B,3,none⟩ (.int .u64 (aC t 3))) B t:=
 (dI (dI (dI (dI h 0 _) 1 _) 2 _) 3 _).trans (by rfl)
theorem z1_SetAt.frozen{W:World}{B:Nat}{s:bO}(h:z1_SetAt W B s)(o:Nat):W.frozen? ⟨B,o,none⟩=false:=by simp [World.frozen?,show W.heap[B]?=_ from h]
end
section
attribute [local go_sem] jC jB jA iZ bT
def z1_RowAt(w:World)(v:Value)(rs:List (Int × Int)):Prop:=
 (∃ p cap,v=.slice p 0 cap/\rs=[]) \/
 ∃ (g off cap:Nat),v=.slice (some ⟨g,off,none⟩) rs.length cap/\g < w.heap.size/\rs.length<=cap/\cap<=maxLen /\
  ∀ i lo hi,rs[i]?=some (lo,hi)->w.cell? ⟨g,off+i * 2,none⟩=some (.int .i64 lo)/\w.cell? ⟨g,off+i * 2+1,none⟩=some (.int .i64 hi)
theorem z1_RowAt.below{w w':World}{v:Value}{rs:List (Int × Int)}(h:z1_RowAt w v rs)(hb:Below w.heap.size w w'):z1_RowAt w' v rs:=by
 rcases h with h | ⟨g,off,cap,rfl,hg,h1,h2,hc⟩
 ·exact .inl h
 ·exact .inr ⟨g,off,cap,rfl,i6 hg hb.size,h1,h2,fun i lo hi he=>⟨(hb.cell (p:=⟨g,off+i * 2,none⟩) hg).trans (hc i lo hi he).1,(hb.cell (p:=⟨g,off+i * 2+1,none⟩) hg).trans (hc i lo hi he).2⟩⟩
def cE(rs:List (Int × Int)):bO:=rs.foldl (fun s r=>aN s (cT r.1 r.2)) 0#256
def uH(rs:List (Int × Int)):Prop:=∀ r∈rs,dQ r.1 r.2
theorem nG(rs:List (Int × Int))(r:Int × Int):cE (rs ++ [r])=aN (cE rs) (cT r.1 r.2):=by simp [cE]
theorem pJ{α:Type}(l:List α)(k:Nat)(x:α)(h:l[k]?=some x):l.take (k+1)=l.take k ++ [x]:=by
 obtain⟨hk,rfl⟩:=i5.1 h
 rw [List.take_succ_eq_append_getElem hk]
theorem rP(rs:List (Int × Int))(v:Value)(w:World)(h:z1_RowAt w v rs)(hok:uH rs) :
  Calls Tryz.prog 121 #[v] w fun e w'=>e=.returned (.tuple #[.agg #[.int .u64 (aC (cE rs) 0),.int .u64 (aC (cE rs) 1),.int .u64 (aC (cE rs) 2),.int .u64 (aC (cE rs) 3)],.int .i64 0])/\Below w.heap.size w w':=by
 have HR:Hid (z1_RowAt w v rs):=h
 have HO:Hid (uH rs):=hok
 clear h hok
 obtain⟨p,cap,hv,hlen⟩:∃ p cap,v=.slice p rs.length cap/\rs.length<=maxLen:=by
  rcases HR.out with⟨p0,cap,rfl,rfl⟩ | ⟨g,off,cap,rfl,_,h1,h2,_⟩
  ·exact⟨p0,cap,rfl,by decide⟩
  ·exact⟨_,cap,rfl,i8 h1 h2⟩
 subst hv
 unfold maxLen at hlen
 go_enter Tryz.func121,Tryz.ntmps121
 go_wp2
 go_loopw [11] (fun i wr=>∃ k:Nat,k<=rs.length/\i=.int .i64 k/\z1_SetAt wr (w.heap.size+1) (cE (rs.take k))/\Below (w.heap.size+1) (w.alloc (.cells #[.int .u64 0,.int .u64 0,.int .u64 0,.int .u64 0] 36)) wr) (fun i _=>rs.length - (intOf i).toNat)
 case atStart=>
  refine⟨0,m9 _,rfl,?_,(Below.refl _ _).alloc (by simp) _⟩
  have:=z1_SetAt.new (w.alloc (.cells #[.int .u64 0,.int .u64 0,.int .u64 0,.int .u64 0] 36)) (0#256)
  simpa [dZ,cE] using this
 case round=>
  obtain⟨k,hk,rfl,hset,hb⟩:=hrel
  have HS:Hid (z1_SetAt wr (w.heap.size+1) (cE (rs.take k))):=hset
  have HB:Hid (Below (w.heap.size+1) (w.alloc (.cells #[.int .u64 0,.int .u64 0,.int .u64 0,.int .u64 0] 36)) wr):=hb
  have HW:Hid (Below w.heap.size w wr):=((Below.refl _ _).alloc (n8 _) _).trans (hb.mono (by simp))
  clear hset hb
  by_cases hlt:k < rs.length
  ·have HK:Hid (rs[k]?=some rs[k]):=g9 hlt
   have HT:Hid (rs.take (k+1)=rs.take k ++ [rs[k]]):=pJ rs k _ HK.out
   have HX:Hid (dQ rs[k].1 rs[k].2):=HO.out _ (List.getElem_mem hlt)
   generalize hlh:rs[k]=lh at HK HT HX
   obtain⟨lo,hi⟩:=lh
   clear hlh
   dsimp only at HX
   rcases HR.out.below HW.out with⟨_,_,h1,h2⟩ | ⟨g,off,cap',h1,hg,hc1,hc2,hcl⟩
   ·rw [h2] at hlt;simp at hlt
   ·cases h1
    obtain⟨q1,q2⟩:=hcl k lo hi HK.out
    unfold maxLen at hc2
    clear hcl
    obtain⟨S0,hS0⟩:∃ S0,cE (rs.take k)=S0:=⟨_,rfl⟩
    rw [hS0] at HS
    have HE:Hid (cE (rs.take k)=S0):=hS0
    clear hS0
    have R0:=vT HX.out
    have R1:=vS HX.out
    go_wp2_with (first
     |(go_at_call 145;refine(vR _ _ _).mono ?_;rw [R0,R1];rintro e w2 ⟨rfl,hb2⟩;have H2:Hid (Below wr.heap.size wr w2):=eD ((Below.refl _ _).alloc (n8 _) _) hb2;have S2:Hid (z1_SetAt w2 (w.heap.size+1) S0):=(HS.out.alloc _).below hb2 (HS.out.alloc _).lt;clear hb2;obtain⟨a0,a1,a2,a3⟩:=S2.out.cells;have z2:=S2.out.lt)
     |(go_at_call 86;refine(mK _ _ _).mono ?_;rintro e w3 ⟨rfl,hb3⟩;have H3:Hid (Below wr.heap.size wr w3):=eD (H2.out.alloc H2.out.size _) hb3;have S3:Hid (z1_SetAt w3 (w.heap.size+1) S0):=(S2.out.alloc _).below hb3 (S2.out.alloc _).lt;clear hb3 a0 a1 a2 a3;obtain⟨a0,a1,a2,a3⟩:=S3.out.cells;have f3:=S3.out.frozen))
    go_roundw
    case rel=>
     refine⟨k+1,by omega,by go_num,?_,((((HB.out.trans (H3.out.mono (Nat.le_of_lt HS.out.lt))).setCell (by simp) _).setCell (by simp) _).setCell (by simp) _).setCell (by simp) _⟩
     rw [HT.out,nG,HE.out]
     exact S3.out.store _
    case measure=>simp [intOf];omega
  ·have hke:rs.take k=rs:=j9 (by omega)
   rw [hke] at HS
   obtain⟨a0,a1,a2,a3⟩:=HS.out.cells
   obtain⟨e0,e1,e2,e3,fz⟩:=kJ (w:=w) (W:=wr) (by simpa using HB.out)
   clear hke
   go_wp2
   exact bodyPost_ret (v:=.tuple #[.agg #[.int .u64 (aC (cE rs) 0),.int .u64 (aC (cE rs) 1),.int .u64 (aC (cE rs) 2),.int .u64 (aC (cE rs) 3)],.int .i64 0]) (by simp [results,Tryz.results121,go_sem,e0,e1,e2,e3]) rfl ⟨rfl,((((((Below.refl _ _).alloc (n8 _) _).trans (HB.out.mono (by simp))).setCell (by simp) _).setCell (by simp) _).setCell (by simp) _).setCell (by simp) _⟩
end
section
open Go Go.RowKit Go.Shelf
attribute [local go_sem] Oper.semAt_some
theorem z1_SetAt.new0(W:World):z1_SetAt (W.alloc (.cells #[.int .u64 0,.int .u64 0,.int .u64 0,.int .u64 0] 36)) W.heap.size (0#256):=by
 unfold z1_SetAt
 rw [dZ,dZ,dZ,dZ]
 exact World.alloc_heap_new W _
end
section
attribute [local go_sem] jC jB jA iZ bT
def aT(s:bO)(n:Nat):Bool:=s.getLsbD n
theorem aL9(s:bO)(i k:Nat)(hk:k < 64):(bits .and .u64 (aC s i / 2 ^ k) 1==1)=s.getLsbD (64 * i+k):=by
 have r:=qF s i
 have e1:aC s i / 2 ^ k=(((s.extractLsb' (64 * i) 64) >>> k).toNat:Int):=by
  unfold aC
  rw [BitVec.toNat_ushiftRight,Nat.shiftRight_eq_div_pow]
  simp only [Int.natCast_ediv,Int.natCast_pow,Int.cast_ofNat_Int]
 have e2:bits .and .u64 (aC s i / 2 ^ k) 1=((((s.extractLsb' (64 * i) 64) >>> k) &&& 1#64).toNat:Int):=by
  show IntKind.u64.wrap ((BitVec.ofInt 64 (aC s i / 2 ^ k) &&& BitVec.ofInt 64 1).toNat:Int)=_
  rw [e1,BitVec.ofInt_natCast,BitVec.ofNat_toNat,BitVec.setWidth_eq,fH]
  rfl
 rw [e2,<- gY s i k hk]
 have e3:(s.extractLsb' (64 * i) 64).getLsbD k=((s.extractLsb' (64 * i) 64) >>> k).getLsbD 0:=by simp
 rw [e3]
 generalize (s.extractLsb' (64 * i) 64) >>> k=y
 have e4:(y &&& 1#64).toNat=y.toNat % 2:=by
  rw [BitVec.toNat_and];exact Nat.and_one_is_mod _
 rw [e4]
 have e5:y.getLsbD 0=decide (y.toNat % 2=1):=by
  rw [BitVec.getLsbD];exact Nat.testBit_zero _
 rw [e5,aBD]
 simp
 omega
theorem mL(s:bO)(i:Nat)(b:Int)(h0:64 * i<=b)(h1:b < 64 * i+64):(bits .and .u64 (aC s i / 2 ^ (b % 64).toNat) 1==1)=aT s b.toNat:=by
 rw [aL9 s i _ (by omega)]
 unfold aT
 congr 1
 omega
theorem aM0(s:bO)(b:Int)(w:World)(h0:0<=b)(h1:b < 256) :
  Calls Tryz.prog 199 #[.agg #[.int .u64 (aC (s) 0),.int .u64 (aC (s) 1),.int .u64 (aC (s) 2),.int .u64 (aC (s) 3)],.int .i64 b] w fun e w'=>e=.returned (.bool (aT s b.toNat))/\Below w.heap.size w w':=by
 have HB:Hid (∀ c:Array Value,Below w.heap.size w (w.alloc (.cells c 36))):=fun c=>(Below.refl _ _).alloc (n8 _) _
 have hq:b / 64=0\/b / 64=1\/b / 64=2\/b / 64=3:=by omega
 rcases hq with hq | hq | hq | hq
 ·have E:=mL s 0 b (by omega) (by omega)
  go_enter Tryz.func199,Tryz.ntmps199
  go_wp2
  go_ret
  exact⟨rfl,HB.out _⟩
 ·have E:=mL s 1 b (by omega) (by omega)
  go_enter Tryz.func199,Tryz.ntmps199
  go_wp2
  go_ret
  exact⟨rfl,HB.out _⟩
 ·have E:=mL s 2 b (by omega) (by omega)
  go_enter Tryz.func199,Tryz.ntmps199
  go_wp2
  go_ret
  exact⟨rfl,HB.out _⟩
 ·have E:=mL s 3 b (by omega) (by omega)
  go_enter Tryz.func199,Tryz.ntmps199
  go_wp2
  go_ret
  exact⟨rfl,HB.out _⟩
def bQ(f:Nat->Bool):Array Value:=((List.range 256).map fun i=>Value.bool (f i)).toArray
def dU(f:Nat->Bool)(i:Nat)(v:Bool):Nat->Bool:=fun j=>if j=i then v else f j
theorem jS(f:Nat->Bool)(i:Nat)(h:i < 256):(bQ f)[i]?=some (.bool (f i)):=by simp [bQ,h]
theorem cN(f:Nat->Bool):(bQ f).size=256:=by simp [bQ]
theorem aM2(f:Nat->Bool)(i:Nat)(v:Bool):(bQ f).setIfInBounds i (.bool v)=bQ (dU f i v):=by
 apply Array.ext_getElem?
 intro j
 by_cases hj:j < 256
 ·by_cases e:i=j
  ·subst e
   rw [v9 (by rw [cN];exact hj),jS _ _ hj]
   simp [dU]
  ·rw [i7 e,jS _ _ hj,jS _ _ hj]
   have:¬ j=i:=fun h=>e h.symm
   simp [dU,this]
 ·rw [aBR (by rw [aAO,cN];omega),aBR (by rw [cN];omega)]
theorem iY(w:World):(zeroValue 238).run Tryz.prog w=.ok (.agg (bQ fun _=>false)) w:=by kernel_rfl
theorem mI:Tryz.zeroCells238=bQ (fun _=>false):=by kernel_rfl
attribute [local go_sem] iY mI
def z1_ArrAt(W:World)(B:Nat)(f:Nat->Bool):Prop:=W.heap[B]?=some (.cells (bQ f) 238 (0,0))
theorem z1_ArrAt.lt{W:World}{B:Nat}{f:Nat->Bool}(h:z1_ArrAt W B f):B < W.heap.size:=(aAA.1 h).1
theorem z1_ArrAt.cell{W:World}{B:Nat}{f:Nat->Bool}(h:z1_ArrAt W B f)(i:Nat)(hi:i < 256):W.cell? ⟨B,i,none⟩=some (.bool (f i)):=by
 simp [World.cell?,show W.heap[B]?=_ from h,jS f i hi]
theorem z1_ArrAt.frozen{W:World}{B:Nat}{f:Nat->Bool}(h:z1_ArrAt W B f)(i:Nat):W.frozen? ⟨B,i,none⟩=false:=by simp [World.frozen?,show W.heap[B]?=_ from h]
theorem z1_ArrAt.below{W W':World}{B n₀:Nat}{f:Nat->Bool}(h:z1_ArrAt W B f)(hb:Below n₀ W W')(hB:B < n₀):z1_ArrAt W' B f:=(hb.block B hB).trans h
theorem z1_ArrAt.new(W:World)(f:Nat->Bool):z1_ArrAt (W.alloc (.cells (bQ f) 238)) W.heap.size f:=World.alloc_heap_new W _
theorem z1_ArrAt.alloc{W:World}{B:Nat}{f:Nat->Bool}(h:z1_ArrAt W B f)(o:Obj):z1_ArrAt (W.alloc o) B f:=(Below.heap_alloc W o B h.lt).trans h
theorem z1_ArrAt.store{W:World}{B:Nat}{f:Nat->Bool}(h:z1_ArrAt W B f)(i:Nat)(v:Bool):z1_ArrAt (W.setCell ⟨B,i,none⟩ (.bool v)) B (dU f i v):=
 (dI h i _).trans (by rw [aM2])
theorem rM:Tryz.prog.underlying 238=some (.array 256 4):=by kernel_rfl
theorem kK:(Tryz.prog.info? 238).map (·.size)=some 256:=by kernel_rfl
theorem z1_ArrAt.range{W:World}{B:Nat}{f:Nat->Bool}(h:z1_ArrAt W B f):W.rangeAt B 0 (bQ f).toList:=fun j v hv=>by
 have hj:j < 256:=by have:=(i5.1 hv).1;rw [aBX,cN] at this;exact this
 have e:=jS f j hj
 rw [g8,h.cell j hj,<- e]
 simpa using hv
theorem z1_ArrAt.loadVar{W:World}{B:Nat}{f:Nat->Bool}(h:z1_ArrAt W B f):(loadVar 238 ⟨B,0,none⟩).run Tryz.prog W=.ok (.agg (bQ f)) W:=by
 have:=run_loadVar_mid (P:=Tryz.prog) W B 0 238 (bQ f).toList _ h.range rM rfl (by rw [kK,aBX,cN])
 simpa using this
def dL(W:World)(B:Nat)(f:Nat->Bool):World:=W.setCells B 0 (bQ f).toList
theorem z1_ArrAt.storeAt{W:World}{B:Nat}{g:Nat->Bool}(h:z1_ArrAt W B g)(f:Nat->Bool):(Instr.storeAt 238 (.pointer (some ⟨B,0,none⟩)) (.agg (bQ f))).run Tryz.prog W=.ok () (dL W B f):=by
 refine run_storeAt_mid (P:=Tryz.prog) W B 0 238 (bQ f) (fun j hj=>?_) (by rw [kK,cN]) ?_
 ·rw [cN] at hj
  rw [g8,h.cell j hj]
  exact⟨rfl,h.frozen j⟩
 ·rw [aAZ]
  intro v hv
  simp only [bQ,List.mem_toArray,aAM] at hv
  obtain⟨i,_,rfl⟩:=hv
  rfl
theorem jD{n:Nat}{a:World}(b:Nat)(hb:n<=b):∀ (vs:List Value) (o:Nat) (w:World),Below n a w->Below n a (w.setCells b o vs)
 | [],_,_,h=>h
 | v :: vs,o,_,h=>jD b hb vs (o+1) _ (h.setCell (p:=⟨b,o,none⟩) hb v)
theorem cU{n:Nat}{a w:World}{B:Nat}{f:Nat->Bool}(h:Below n a w)(hb:n<=B):Below n a (dL w B f):=jD B hb _ _ _ h
def gP(cur:Array Value):Nat->List Value->Array Value
 | _,[]=>cur
 | o,v :: r=>gP (cur.setIfInBounds o v) (o+1) r
theorem jR{t:TypeId}(b:Nat):∀ (vs:List Value) (o:Nat) (w:World) (cur:Array Value),w.heap[b]?=some (.cells cur t (0,0))->(w.setCells b o vs).heap[b]?=some (.cells (gP cur o vs) t (0,0))
 | [],_,_,_,h=>h
 | v :: vs,o,_,_,h=>jR b vs (o+1) _ _ (dI h o v)
theorem nW:∀ (vs:List Value) (o:Nat) (cur:Array Value),(gP cur o vs).size=cur.size
 | [],_,_=>rfl
 | v :: vs,o,cur=>by rw [gP,nW vs];simp
theorem qG:∀ (vs:List Value) (o:Nat) (cur:Array Value) (j:Nat),j < o->(gP cur o vs)[j]?=cur[j]?
 | [],_,_,_,_=>rfl
 | v :: vs,o,cur,j,h=>by
  rw [gP,qG vs (o+1) _ j (by omega),i7 (by omega)]
theorem qH:∀ (vs:List Value) (o:Nat) (cur:Array Value) (j:Nat),j < vs.length->o+vs.length<=cur.size->(gP cur o vs)[o+j]?=vs[j]?
 | v :: vs,o,cur,0,_,hs=>by
  show (gP (cur.setIfInBounds o v) (o+1) vs)[o]?=_
  rw [qG vs (o+1) _ o (by omega),v9 (by simp at hs;omega)];rfl
 | v :: vs,o,cur,j+1,hj,hs=>by
  have:=qH vs (o+1) (cur.setIfInBounds o v) j (by simpa using hj) (by simp at hs ⊢;omega)
  rw [gP,show o+(j+1)=o+1+j by omega,this];rfl
theorem z1_ArrAt.put{W:World}{B:Nat}{g:Nat->Bool}(h:z1_ArrAt W B g)(f:Nat->Bool):z1_ArrAt (dL W B f) B f:=by
 refine(jR B _ 0 W _ h).trans ?_
 have hl:(bQ f).toList.length=256:=by rw [aBX,cN]
 have e:gP (bQ g) 0 (bQ f).toList=bQ f:=by
  apply Array.ext_getElem?
  intro j
  by_cases hj:j < 256
  ·have:=qH (bQ f).toList 0 (bQ g) j (by omega) (by rw [cN];omega)
   rw [g8] at this
   rw [this];simp
  ·rw [aBR (by rw [nW,cN];omega),aBR (by rw [cN];omega)]
 rw [e]
theorem fN{ops:Array Oper}{rest:List Oper}{op:Oper}{a:Act}{w:World}{Q:Exit->Act->World->Prop}(hgd:op.guard=none)(x:Operand)(ho:op.op=.load 238 x)
  (B:Nat) (f:Nat->Bool) (hx:a.eval x=.pointer (some ⟨B,0,none⟩)) (h:z1_ArrAt w B f) (k:wpList Tryz.prog ops Q rest (a.put op.dst (.agg (bQ f))) w):wpList Tryz.prog ops Q (op :: rest) a w:=by
 refine wpList_load_mid hgd _ x ho B 0 hx (bQ f).toList _ h.range rM rfl (by rw [kK,aBX,cN]) ?_
 simpa using k
theorem dT{ops:Array Oper}{rest:List Oper}{op:Oper}{a:Act}{w:World}{Q:Exit->Act->World->Prop}(hgd:op.guard=none)(x y:Operand)(ho:op.op=.store 238 x y)
  (B:Nat) (f g:Nat->Bool) (hx:a.eval x=.pointer (some ⟨B,0,none⟩)) (hy:a.eval y=.agg (bQ f)) (h:z1_ArrAt w B g) (k:wpList Tryz.prog ops Q rest (a.put op.dst undef) (dL w B f)):wpList Tryz.prog ops Q (op :: rest) a w:=by
 refine wpList_store_mid hgd _ x y ho B 0 (bQ f) hx hy (fun j hj=>?_) (by rw [kK,cN]) ?_ k
 ·rw [cN] at hj
  rw [g8,h.cell j hj]
  exact⟨rfl,h.frozen j⟩
 ·rw [aAZ]
  intro v hv
  simp only [bQ,List.mem_toArray,aAM] at hv
  obtain⟨i,_,rfl⟩:=hv
  rfl
theorem vW(s:bO)(k:Nat):dU (fun j=>decide (j < k) && aT s j) k (aT s k)=fun j=>decide (j < k+1) && aT s j:=by
 funext j
 unfold dU
 by_cases h:j=k
 ·subst h;simp
 ·rw [if_neg h]
  by_cases h2:j < k
  ·simp [h2,Nat.lt_succ_of_lt h2]
  ·have:¬ j < k+1:=by omega
   simp [h2,this]
theorem xZ(s:bO):(fun j=>decide (j < 256) && aT s j)=fun j=>aT s j:=by
 funext j
 by_cases h:j < 256
 ·simp [h]
 ·unfold aT;rw [BitVec.getLsbD_of_ge _ _ (by omega)];simp
theorem kL(s:bO)(w:World) :
  Calls Tryz.prog 175 #[.agg #[.int .u64 (aC (s) 0),.int .u64 (aC (s) 1),.int .u64 (aC (s) 2),.int .u64 (aC (s) 3)]] w fun e w'=>e=.returned (.agg (bQ fun j=>aT s j))/\Below w.heap.size w w':=by
 go_enter Tryz.func175,Tryz.ntmps175
 go_wp2
 go_loopw [4] (fun i wr=>∃ k:Nat,k<=256/\i=.int .i64 k/\z1_ArrAt wr (w.heap.size+1+1) (fun j=>decide (j < k) && aT s j)/\Below (w.heap.size+1+1) ((w.alloc (.cells #[.int .u64 (aC (s) 0),.int .u64 (aC (s) 1),.int .u64 (aC (s) 2),.int .u64 (aC (s) 3)] 36)).alloc (.cells (bQ fun _=>false) 238)) wr) (fun i _=>256 - (intOf i).toNat)
 case atStart=>
  refine⟨0,by omega,rfl,?_,(Below.refl _ _).alloc (by simp) _⟩
  have:=z1_ArrAt.new ((w.alloc (.cells #[.int .u64 (aC (s) 0),.int .u64 (aC (s) 1),.int .u64 (aC (s) 2),.int .u64 (aC (s) 3)] 36)).alloc (.cells (bQ fun _=>false) 238)) (fun _=>false)
  simpa using this
 case round=>
  obtain⟨k,hk,rfl,harr,hb⟩:=hrel
  have HA:Hid (z1_ArrAt wr (w.heap.size+1+1) (fun j=>decide (j < k) && aT s j)):=harr
  have HB:Hid (Below (w.heap.size+1+1) ((w.alloc (.cells #[.int .u64 (aC (s) 0),.int .u64 (aC (s) 1),.int .u64 (aC (s) 2),.int .u64 (aC (s) 3)] 36)).alloc (.cells (bQ fun _=>false) 238)) wr):=hb
  have sS:z1_SetAt wr w.heap.size s:=((z1_SetAt.new w s).alloc _).below hb (by omega)
  have aR:Hid (z1_ArrAt wr (w.heap.size+1) (fun _=>false)):=(by have h:=z1_ArrAt.new (w.alloc (.cells #[.int .u64 (aC (s) 0),.int .u64 (aC (s) 1),.int .u64 (aC (s) 2),.int .u64 (aC (s) 3)] 36)) (fun _=>false);rw [a7] at h;exact h.below hb (by omega))
  obtain⟨a0,a1,a2,a3⟩:=sS.cells
  clear harr hb
  by_cases hlt:k < 256
  ·have i0:(0:Int)<=(k:Int):=by omega
   have i1:(k:Int) < 256:=by omega
   go_wp2_with (go_at_call 199;refine(aM0 _ _ _ i0 i1).mono ?_;rintro e w2 ⟨rfl,hb2⟩;have A2:Hid (z1_ArrAt w2 (w.heap.size+1+1) (fun j=>decide (j < k) && aT s j)):=HA.out.below hb2 HA.out.lt;have c2:=A2.out.cell k hlt;have f2:=A2.out.frozen k)
   go_roundw
   case rel=>
    refine⟨k+1,by omega,by go_num,?_,(HB.out.trans (hb2.mono (Nat.le_of_lt HA.out.lt))).setCell (by simp) _⟩
    rw [<- vW]
    exact A2.out.store k _
   case measure=>simp [intOf];omega
  ·obtain rfl:k=256:=by omega
   rw [xZ] at HA
   go_wp2_with (first |(refine fN rfl _ rfl (w.heap.size+1+1) _ rfl HA.out ?_) |(refine dT rfl _ _ rfl (w.heap.size+1) (fun j=>aT s j) _ rfl rfl aR.out ?_))
   have lv:=(aR.out.put (fun j=>aT s j)).loadVar
   exact bodyPost_ret (v:=.agg (bQ fun j=>aT s j)) (by simp [results,Tryz.results175,asAddr,Act.put,lv]) rfl ⟨rfl,cU (((((Below.refl _ _).alloc (n8 _) _).alloc (by simp) _)).trans (HB.out.mono (by omega))) (by omega)⟩
end
section
attribute [local go_sem] bT dY
def bK(f:Nat->Bool)(k:Nat):bO:=(List.range k).foldl (fun s b=>if f b then aN s (aX (b:Int)) else s) 0#256
theorem lM(f:Nat->Bool)(k:Nat):bK f (k+1)=if f k then aN (bK f k) (aX (k:Int)) else bK f k:=by
 unfold bK
 rw [List.range_succ,aBJ]
 rfl
theorem eT(f:Nat->Bool)(n:Nat):∀ k,k<=256->(bK f k).getLsbD n=(decide (n < k) && f n)
 | 0,_=>by simp [bK]
 | k+1,hk=>by
  have ih:=eT f n k (by omega)
  rw [lM]
  by_cases h:n=k
  ·subst h
   cases hf:f n
   ·simp [ih,hf]
   ·simp only [if_true,aN,BitVec.getLsbD_or,ih,hf,eS]
    simp;omega
  ·have hd:decide (n < k+1)=decide (n < k):=by
    rw [aBD];simp;omega
   rw [hd]
   split
   ·simp only [aN,BitVec.getLsbD_or,ih,eS]
    have:¬ (k:Int)=(n:Int):=by omega
    simp [this]
   ·exact ih
theorem xQ(k:Nat)(h:k < 64):(2:Int) ^ k < 18446744073709551616/\0 < (2:Int) ^ k:=by
 have h1:(2:Nat) ^ k < 2 ^ 64:=Nat.pow_lt_pow_right (by decide) h
 have h2:(0:Nat) < 2 ^ k:=Nat.pow_pos (by decide)
 have e:((2 ^ k:Nat):Int)=(2:Int) ^ k:=by simp
 omega
theorem aB9(s:bO)(q k:Nat)(hk:k < 64)(h:s.getLsbD (64 * q+k)=false) :
  IntKind.u64.wrap (aC s q+IntKind.u64.wrap (2 ^ k))=aC (aN s (aX ((64 * q+k:Nat):Int))) q\/4<=q:=by
 by_cases hq:4<=q
 ·exact .inr hq
 ·left
  have hp:=xQ k hk
  obtain⟨x,hx⟩:∃ x,x=s.extractLsb' (64 * q) 64:=⟨_,rfl⟩
  have hb:x.getLsbD k=false:=by rw [hx,gY s q k hk];exact h
  have e1:aC s q=(x.toNat:Int):=by rw [hx];rfl
  have e2:aC (aN s (aX ((64 * q+k:Nat):Int))) q=((x ||| BitVec.twoPow 64 k).toNat:Int):=by
   refine nV _ q _ fun n hn=>?_
   rw [aN,BitVec.getLsbD_or,eS,BitVec.getLsbD_or,hx,gY s q n hn,BitVec.getLsbD_twoPow]
   congr 1
   rw [aBD]
   simp
   omega
  have e3:(x ||| BitVec.twoPow 64 k)=x+BitVec.twoPow 64 k:=by
   rw [BitVec.add_eq_or_of_and_eq_zero]
   refine BitVec.eq_of_getLsbD_eq fun n hn=>?_
   rw [BitVec.getLsbD_and,BitVec.getLsbD_twoPow]
   by_cases hnk:k=n
   ·subst hnk;simp [hb]
   ·simp [hnk]
  rw [e1,e2,e3,BitVec.toNat_add,BitVec.toNat_twoPow]
  have e4:IntKind.u64.wrap (2 ^ k)=(2:Int) ^ k:=by rw [IntKind.wrap_u64];omega
  have e5:((2 ^ k:Nat):Int)=(2:Int) ^ k:=by simp
  have e6:2 ^ k % 2 ^ 64=2 ^ k:=Nat.mod_eq_of_lt (by omega)
  rw [e4,e6,IntKind.wrap_u64]
  omega
theorem tQ(s:bO)(q j:Nat)(k:Nat)(hk:k < 64)(hne:j≠q):aC (aN s (aX ((64 * q+k:Nat):Int))) j=aC s j:=by
 have e:(aN s (aX ((64 * q+k:Nat):Int))).extractLsb' (64 * j) 64=s.extractLsb' (64 * j) 64:=by
  refine BitVec.eq_of_getLsbD_eq fun n hn=>?_
  rw [gY _ j n hn,gY _ j n hn,aN,BitVec.getLsbD_or,eS]
  rw [l8 (show ¬ (0<=((64 * q+k:Nat):Int)/\((64 * q+k:Nat):Int)<=255/\((64 * q+k:Nat):Int)=((64 * j+n:Nat):Int)) by omega),Bool.or_false]
 unfold aC
 rw [e]
theorem z1_SetAt.store1{W:World}{B:Nat}{s:bO}(h:z1_SetAt W B s)(t:bO)(q:Nat)(hq:q < 4)(same:∀ j,j≠q->aC t j=aC s j) :
  z1_SetAt (W.setCell ⟨B,q,none⟩ (.int .u64 (aC t q))) B t:=by
 refine(dI h q _).trans ?_
 match q,hq with
 | 0,_=>rw [same 1 (by decide),same 2 (by decide),same 3 (by decide)];rfl
 | 1,_=>rw [same 0 (by decide),same 2 (by decide),same 3 (by decide)];rfl
 | 2,_=>rw [same 0 (by decide),same 1 (by decide),same 3 (by decide)];rfl
 | 3,_=>rw [same 0 (by decide),same 1 (by decide),same 2 (by decide)];rfl
theorem jE(s:bO)(q k:Nat)(h0:k / 64=q)(h1:k < 256)(h:s.getLsbD k=false) :
  IntKind.u64.wrap (aC s q+IntKind.u64.wrap (2 ^ (k % 64)))=aC (aN s (aX (k:Int))) q:=by
 have e:64 * q+k % 64=k:=by omega
 rcases aB9 s q (k % 64) (Nat.mod_lt _ (by decide)) (by rw [e];exact h) with g | g
 ·rw [e] at g;exact g
 ·omega
theorem fV(s:bO)(q k:Nat)(h0:k / 64=q)(j:Nat)(hne:j≠q):aC (aN s (aX (k:Int))) j=aC s j:=by
 have e:64 * q+k % 64=k:=by omega
 have:=tQ s q j (k % 64) (Nat.mod_lt _ (by decide)) hne
 rwa [e] at this
theorem qI(f:Nat->Bool)(w:World) :
  Calls Tryz.prog 176 #[.agg (bQ f)] w fun e w'=>e=.returned (.agg #[.int .u64 (aC (bK f 256) 0),.int .u64 (aC (bK f 256) 1),.int .u64 (aC (bK f 256) 2),.int .u64 (aC (bK f 256) 3)])/\Below w.heap.size w w':=by
 go_enter Tryz.func176,Tryz.ntmps176
 go_wp2
 go_loopw [4] (fun i wr=>∃ k:Nat,k<=256/\i=.int .i64 k/\z1_SetAt wr (w.heap.size+1+1) (bK f k)/\Below (w.heap.size+1+1) ((w.alloc (.cells (bQ f) 238)).alloc (.cells #[.int .u64 0,.int .u64 0,.int .u64 0,.int .u64 0] 36)) wr) (fun i _=>256 - (intOf i).toNat)
 case atStart=>
  refine⟨0,by omega,rfl,?_,(Below.refl _ _).alloc (by simp) _⟩
  have:=z1_SetAt.new0 ((w.alloc (.cells (bQ f) 238)).alloc (.cells #[.int .u64 0,.int .u64 0,.int .u64 0,.int .u64 0] 36))
  simpa [bK] using this
 case round=>
  obtain⟨k,hk,rfl,hset,hb⟩:=hrel
  have HS:Hid (z1_SetAt wr (w.heap.size+1+1) (bK f k)):=hset
  have HB:Hid (Below (w.heap.size+1+1) ((w.alloc (.cells (bQ f) 238)).alloc (.cells #[.int .u64 0,.int .u64 0,.int .u64 0,.int .u64 0] 36)) wr):=hb
  have aF:Hid (z1_ArrAt wr w.heap.size f):=((z1_ArrAt.new w f).alloc _).below hb (by omega)
  clear hset hb
  by_cases hlt:k < 256
  ·have i0:(0:Int)<=(k:Int):=by omega
   have i1:(k:Int) < 256:=by omega
   have c1:=aF.out.cell k hlt
   by_cases hf:f k=true
   ·have hbit:(bK f k).getLsbD k=false:=by rw [eT f k k hk];simp
    have HL:Hid (bK f (k+1)=aN (bK f k) (aX (k:Int))):=by show _=_;rw [lM,if_pos hf]
    obtain⟨L,hL⟩:∃ L,bK f k=L:=⟨_,rfl⟩
    rw [hL] at HS HL hbit
    clear hL
    obtain⟨a0,a1,a2,a3⟩:=HS.out.cells
    have z:=HS.out.lt
    have hq:(k:Int) / 64=0\/(k:Int) / 64=1\/(k:Int) / 64=2\/(k:Int) / 64=3:=by omega
    rcases hq with hq | hq | hq | hq
    ·have E:=jE L 0 k (by omega) hlt hbit
     go_wp2
     refine dK (aAF _ _) (by kernel_rfl) (by kernel_rfl) (by kernel_rfl) ?_
     dsimp only [List.dropLast,List.getLast]
     repeat (go_big_quiet_step (first | exact rfl))
     refine wpQuiet_nil ?_
     intro w3 hw
     have hb3:=mM hw
     clear hw
     have S3:Hid (z1_SetAt w3 (w.heap.size+1+1) L):=HS.out.below hb3 HS.out.lt
     clear a0 a1 a2 a3
     obtain⟨a0,a1,a2,a3⟩:=S3.out.cells
     have fz:=S3.out.frozen
     go_wp2
     go_roundw
     case rel=>
      refine⟨k+1,by omega,by go_num,?_,(HB.out.trans (hb3.mono (Nat.le_of_lt HS.out.lt))).setCell (by simp) _⟩
      rw [HL.out]
      exact S3.out.store1 _ 0 (by decide) (fV L 0 k (by omega))
     case measure=>simp [intOf];omega
    ·have E:=jE L 1 k (by omega) hlt hbit
     go_wp2
     refine dK (aAF _ _) (by kernel_rfl) (by kernel_rfl) (by kernel_rfl) ?_
     dsimp only [List.dropLast,List.getLast]
     repeat (go_big_quiet_step (first | exact rfl))
     refine wpQuiet_nil ?_
     intro w3 hw
     have hb3:=mM hw
     clear hw
     have S3:Hid (z1_SetAt w3 (w.heap.size+1+1) L):=HS.out.below hb3 HS.out.lt
     clear a0 a1 a2 a3
     obtain⟨a0,a1,a2,a3⟩:=S3.out.cells
     have fz:=S3.out.frozen
     go_wp2
     go_roundw
     case rel=>
      refine⟨k+1,by omega,by go_num,?_,(HB.out.trans (hb3.mono (Nat.le_of_lt HS.out.lt))).setCell (by simp) _⟩
      rw [HL.out]
      exact S3.out.store1 _ 1 (by decide) (fV L 1 k (by omega))
     case measure=>simp [intOf];omega
    ·have E:=jE L 2 k (by omega) hlt hbit
     go_wp2
     refine dK (aAF _ _) (by kernel_rfl) (by kernel_rfl) (by kernel_rfl) ?_
     dsimp only [List.dropLast,List.getLast]
     repeat (go_big_quiet_step (first | exact rfl))
     refine wpQuiet_nil ?_
     intro w3 hw
     have hb3:=mM hw
     clear hw
     have S3:Hid (z1_SetAt w3 (w.heap.size+1+1) L):=HS.out.below hb3 HS.out.lt
     clear a0 a1 a2 a3
     obtain⟨a0,a1,a2,a3⟩:=S3.out.cells
     have fz:=S3.out.frozen
     go_wp2
     go_roundw
     case rel=>
      refine⟨k+1,by omega,by go_num,?_,(HB.out.trans (hb3.mono (Nat.le_of_lt HS.out.lt))).setCell (by simp) _⟩
      rw [HL.out]
      exact S3.out.store1 _ 2 (by decide) (fV L 2 k (by omega))
     case measure=>simp [intOf];omega
    ·have E:=jE L 3 k (by omega) hlt hbit
     go_wp2
     refine dK (aAF _ _) (by kernel_rfl) (by kernel_rfl) (by kernel_rfl) ?_
     dsimp only [List.dropLast,List.getLast]
     repeat (go_big_quiet_step (first | exact rfl))
     refine wpQuiet_nil ?_
     intro w3 hw
     have hb3:=mM hw
     clear hw
     have S3:Hid (z1_SetAt w3 (w.heap.size+1+1) L):=HS.out.below hb3 HS.out.lt
     clear a0 a1 a2 a3
     obtain⟨a0,a1,a2,a3⟩:=S3.out.cells
     have fz:=S3.out.frozen
     go_wp2
     go_roundw
     case rel=>
      refine⟨k+1,by omega,by go_num,?_,(HB.out.trans (hb3.mono (Nat.le_of_lt HS.out.lt))).setCell (by simp) _⟩
      rw [HL.out]
      exact S3.out.store1 _ 3 (by decide) (fV L 3 k (by omega))
     case measure=>simp [intOf];omega
   ·have hf':f k=false:=by simpa using hf
    have HL:Hid (bK f (k+1)=bK f k):=by show _=_;rw [lM,if_neg hf]
    clear hf
    go_wp2
    go_roundw
    case rel=>exact⟨k+1,by omega,by go_num,by rw [HL.out];exact HS.out,HB.out⟩
    case measure=>simp [intOf];omega
  ·obtain rfl:k=256:=by omega
   obtain⟨a0,a1,a2,a3⟩:=HS.out.cells
   obtain⟨e0,e1,e2,e3,fz⟩:=kJ (w:=w.alloc (.cells (bQ f) 238)) (W:=wr) (by simpa using HB.out)
   simp only [a7] at e0 e1 e2 e3 fz
   go_wp2
   exact bodyPost_ret (v:=.agg #[.int .u64 (aC (bK f 256) 0),.int .u64 (aC (bK f 256) 1),.int .u64 (aC (bK f 256) 2),.int .u64 (aC (bK f 256) 3)]) (by simp [results,Tryz.results176,go_sem,e0,e1,e2,e3]) rfl ⟨rfl,(((((((Below.refl _ _).alloc (n8 _) _).alloc (by simp) _).trans (HB.out.mono (by omega))).setCell (by simp) _).setCell (by simp) _).setCell (by simp) _).setCell (by simp) _⟩
end
def aB2:Nat->Nat->Nat
 | 0,_=>0
 | k+1,n=>n % 2+aB2 k (n / 2)
def aG5(b:Nat):Nat:=(b / 2 &&& 85)+(b &&& 85)
def aR6(b:Nat):Nat:=(b / 4 &&& 51)+(b &&& 51)
def bN6(b:Nat):Nat:=(b / 16+b) &&& 15
theorem bH6:∀ b,b < 256->aG5 b < 256:=by decide +kernel
theorem bH5:∀ b,b < 256->aR6 (aG5 b) < 69/\aR6 (aG5 b) % 16 < 5:=by decide +kernel
theorem bH4:∀ b,b < 256->bN6 (aR6 (aG5 b))=aB2 8 b/\aB2 8 b<=8:=by decide +kernel
def gX(x:Nat):Nat:=(x / 2 &&& 6148914691236517205)+(x &&& 6148914691236517205)
def gW(x:Nat):Nat:=(x / 4 &&& 3689348814741910323)+(x &&& 3689348814741910323)
def gV(x:Nat):Nat:=(x / 16+x) &&& 1085102592571150095
section
attribute [local go_sem] jC jB jA iZ bT dY aB6 lN
theorem mN(a b:bO)(n:Nat):(aN a b).getLsbD n=(a.getLsbD n || b.getLsbD n):=by simp [aN]
end
section
attribute [local go_sem] bT dY iY mI
theorem pN(f:Nat->Bool)(s:bO)(h:∀ n,n < 256->f n=s.getLsbD n):bK f 256=s:=by
 refine BitVec.eq_of_getLsbD_eq fun n hn=>?_
 rw [eT f n 256 (n8 _),h n hn];simp [hn]
theorem vM(s:bO)(b:Int)(h0:0<=b)(h1:b<=255):bK (dU (fun j=>aT s j) b.toNat true) 256=aN s (aX b):=by
 refine pN _ _ fun n hn=>?_
 rw [mN,eS]
 unfold dU aT
 by_cases h:n=b.toNat
 ·have:b=(n:Int):=by omega
  rw [if_pos h,r8 (by omega)];simp
 ·rw [if_neg h,l8 (by omega)];simp
theorem tO(s:bO)(b:Int)(h0:0<=b)(h1:b<=255):bK (dU (fun j=>aT s j) b.toNat false) 256=bU s (aX b):=by
 refine pN _ _ fun n hn=>?_
 rw [lO,eS]
 unfold dU aT
 by_cases h:n=b.toNat
 ·rw [if_pos h,r8 (by omega)];simp
 ·rw [if_neg h,l8 (by omega)];simp
theorem xM(s:bO)(b:Int)(h:b < 0\/255 < b):aN s (aX b)=s/\bU s (aX b)=s:=by
 have e:aX b=0#256:=by unfold aX;rw [if_neg (by omega)];rfl
 rw [e]
 refine⟨by unfold aN;simp,?_⟩
 refine BitVec.eq_of_getLsbD_eq fun n hn=>?_
 rw [lO];simp
theorem vP(s:bO)(b:Int)(is:Bool)(w:World)(h:b < 0\/255 < b) :
  Calls Tryz.prog 174 #[.agg #[.int .u64 (aC (s) 0),.int .u64 (aC (s) 1),.int .u64 (aC (s) 2),.int .u64 (aC (s) 3)],.int .i64 b,.bool is] w fun e w'=>e=.returned (.agg #[.int .u64 (aC (s) 0),.int .u64 (aC (s) 1),.int .u64 (aC (s) 2),.int .u64 (aC (s) 3)])/\Below w.heap.size w w':=by
 rcases h with h | h
 ·go_enter Tryz.func174,Tryz.ntmps174
  go_wp2
  exact bodyPost_ret (v:=.agg #[.int .u64 (aC (s) 0),.int .u64 (aC (s) 1),.int .u64 (aC (s) 2),.int .u64 (aC (s) 3)]) (by simp [results,Tryz.results174,go_sem]) rfl ⟨rfl,((Below.refl _ _).alloc (n8 _) _).alloc (by simp) _⟩
 ·have h':¬ b < 0:=by omega
  go_enter Tryz.func174,Tryz.ntmps174
  go_wp2
  exact bodyPost_ret (v:=.agg #[.int .u64 (aC (s) 0),.int .u64 (aC (s) 1),.int .u64 (aC (s) 2),.int .u64 (aC (s) 3)]) (by simp [results,Tryz.results174,go_sem]) rfl ⟨rfl,((Below.refl _ _).alloc (n8 _) _).alloc (by simp) _⟩
theorem xN(s:bO)(b:Int)(is:Bool)(w:World)(h0:0<=b)(h1:b<=255) :
  Calls Tryz.prog 174 #[.agg #[.int .u64 (aC (s) 0),.int .u64 (aC (s) 1),.int .u64 (aC (s) 2),.int .u64 (aC (s) 3)],.int .i64 b,.bool is] w fun e w'=>e=.returned (.agg #[.int .u64 (aC (bK (dU (fun j=>aT s j) b.toNat is) 256) 0),.int .u64 (aC (bK (dU (fun j=>aT s j) b.toNat is) 256) 1),.int .u64 (aC (bK (dU (fun j=>aT s j) b.toNat is) 256) 2),.int .u64 (aC (bK (dU (fun j=>aT s j) b.toNat is) 256) 3)])/\Below w.heap.size w w':=by
 have HB0:Hid (Below w.heap.size w ((w.alloc (.cells #[.int .u64 (aC (s) 0),.int .u64 (aC (s) 1),.int .u64 (aC (s) 2),.int .u64 (aC (s) 3)] 36)).alloc (.cells #[.int .u64 0,.int .u64 0,.int .u64 0,.int .u64 0] 36))):=((Below.refl _ _).alloc (n8 _) _).alloc (by simp) _
 go_enter Tryz.func174,Tryz.ntmps174
 go_wp2_with (first
  |(go_at_call 175;refine(kL _ _).mono ?_;rintro e w1 ⟨rfl,hb1⟩;have H1:Hid (Below w.heap.size w w1):=eD HB0.out hb1;have R1:Hid (z1_SetAt w1 (w.heap.size+1) (0#256)):=(by have h:=z1_SetAt.new0 (w.alloc (.cells #[.int .u64 (aC (s) 0),.int .u64 (aC (s) 1),.int .u64 (aC (s) 2),.int .u64 (aC (s) 3)] 36));rw [a7] at h;exact h.below hb1 (by simp));clear hb1)
  |(refine dT rfl _ _ rfl w1.heap.size (fun j=>aT s j) (fun _=>false) rfl rfl (z1_ArrAt.new w1 _) ?_;have A2:Hid (z1_ArrAt (dL (w1.alloc (.cells (bQ fun _=>false) 238)) w1.heap.size (fun j=>aT s j)) w1.heap.size (fun j=>aT s j)):=(z1_ArrAt.new w1 _).put _;have H2:Hid (Below w.heap.size w (dL (w1.alloc (.cells (bQ fun _=>false) 238)) w1.heap.size (fun j=>aT s j))):=cU (H1.out.alloc H1.out.size _) H1.out.size;have R2:Hid (z1_SetAt (dL (w1.alloc (.cells (bQ fun _=>false) 238)) w1.heap.size (fun j=>aT s j)) (w.heap.size+1) (0#256)):=(R1.out.alloc _).below (cU (n:=w1.heap.size) (Below.refl _ _) (n8 _)) R1.out.lt;generalize dL (w1.alloc (.cells (bQ fun _=>false) 238)) w1.heap.size (fun j=>aT s j)=w2 at A2 H2 R2 ⊢;have c2:=A2.out.cell b.toNat (by omega);have f2:=A2.out.frozen b.toNat;have z1:=R1.out.lt)
  |(refine fN rfl _ rfl w1.heap.size _ rfl (A2.out.store b.toNat is) ?_)
  |(go_at_call 176;refine(qI _ _).mono ?_;rintro e w4 ⟨rfl,hb4⟩;have H4:Hid (Below w.heap.size w w4):=eD (H2.out.setCell H1.out.size _) hb4;have R4:Hid (z1_SetAt w4 (w.heap.size+1) (0#256)):=(R2.out.setCell (by simp;omega) _).below hb4 (R2.out.setCell (a:=⟨w1.heap.size,b.toNat,none⟩) (by simp;omega) _).lt;clear hb4;obtain⟨e0,e1,e2,e3⟩:=R4.out.cells;have fz:=R4.out.frozen))
 exact bodyPost_ret (v:=.agg #[.int .u64 (aC (bK (dU (fun j=>aT s j) b.toNat is) 256) 0),.int .u64 (aC (bK (dU (fun j=>aT s j) b.toNat is) 256) 1),.int .u64 (aC (bK (dU (fun j=>aT s j) b.toNat is) 256) 2),.int .u64 (aC (bK (dU (fun j=>aT s j) b.toNat is) 256) 3)]) (by simp [results,Tryz.results174,go_sem,e0,e1,e2,e3]) rfl ⟨rfl,(((H4.out.setCell (by simp) _).setCell (by simp) _).setCell (by simp) _).setCell (by simp) _⟩
theorem vU(s:bO)(b:Int)(is:Bool)(w:World) :
  Calls Tryz.prog 174 #[.agg #[.int .u64 (aC (s) 0),.int .u64 (aC (s) 1),.int .u64 (aC (s) 2),.int .u64 (aC (s) 3)],.int .i64 b,.bool is] w fun e w'=>e=.returned (.agg #[.int .u64 (aC (if is then aN s (aX b) else bU s (aX b)) 0),.int .u64 (aC (if is then aN s (aX b) else bU s (aX b)) 1),.int .u64 (aC (if is then aN s (aX b) else bU s (aX b)) 2),.int .u64 (aC (if is then aN s (aX b) else bU s (aX b)) 3)])/\Below w.heap.size w w':=by
 by_cases h:0<=b/\b<=255
 ·have:=xN s b is w h.1 h.2
  cases is
  ·rw [tO s b h.1 h.2] at this;exact this
  ·rw [vM s b h.1 h.2] at this;exact this
 ·have hb:b < 0\/255 < b:=by omega
  have e:=xM s b hb
  have:=vP s b is w hb
  cases is
  ·rw [if_neg (by simp),e.2];exact this
  ·rw [if_pos rfl,e.1];exact this
end
section
attribute [local go_sem] bT dY
theorem rN(s:bO)(b:Int)(w:World) :
  Calls Tryz.prog 140 #[.agg #[.int .u64 (aC (s) 0),.int .u64 (aC (s) 1),.int .u64 (aC (s) 2),.int .u64 (aC (s) 3)],.int .i64 b] w fun e w'=>e=.returned (.agg #[.int .u64 (aC (aN s (aX b)) 0),.int .u64 (aC (aN s (aX b)) 1),.int .u64 (aC (aN s (aX b)) 2),.int .u64 (aC (aN s (aX b)) 3)])/\Below w.heap.size w w':=by
 have HB0:Hid (Below w.heap.size w ((w.alloc (.cells #[.int .u64 (aC (s) 0),.int .u64 (aC (s) 1),.int .u64 (aC (s) 2),.int .u64 (aC (s) 3)] 36)).alloc (.cells #[.int .u64 0,.int .u64 0,.int .u64 0,.int .u64 0] 36))):=((Below.refl _ _).alloc (n8 _) _).alloc (by simp) _
 have HC:Hid (∀ w,Calls Tryz.prog 174 #[.agg #[.int .u64 (aC (s) 0),.int .u64 (aC (s) 1),.int .u64 (aC (s) 2),.int .u64 (aC (s) 3)],.int .i64 b,.bool true] w fun e w'=>e=.returned (.agg #[.int .u64 (aC (aN s (aX b)) 0),.int .u64 (aC (aN s (aX b)) 1),.int .u64 (aC (aN s (aX b)) 2),.int .u64 (aC (aN s (aX b)) 3)])/\Below w.heap.size w w'):=fun w=>by have:=vU s b true w;rw [if_pos rfl] at this;exact this
 go_enter Tryz.func140,Tryz.ntmps140
 go_wp2_with (go_at_call 174;refine(HC.out _).mono ?_;rintro e w1 ⟨rfl,hb1⟩;have H1:Hid (Below w.heap.size w w1):=eD HB0.out hb1;have R1:Hid (z1_SetAt w1 (w.heap.size+1) (0#256)):=(by have h:=z1_SetAt.new0 (w.alloc (.cells #[.int .u64 (aC (s) 0),.int .u64 (aC (s) 1),.int .u64 (aC (s) 2),.int .u64 (aC (s) 3)] 36));rw [a7] at h;exact h.below hb1 (by simp));clear hb1;obtain⟨e0,e1,e2,e3⟩:=R1.out.cells;have fz:=R1.out.frozen)
 exact bodyPost_ret (v:=.agg #[.int .u64 (aC (aN s (aX b)) 0),.int .u64 (aC (aN s (aX b)) 1),.int .u64 (aC (aN s (aX b)) 2),.int .u64 (aC (aN s (aX b)) 3)]) (by simp [results,Tryz.results140,go_sem,e0,e1,e2,e3]) rfl ⟨rfl,(((H1.out.setCell (by simp) _).setCell (by simp) _).setCell (by simp) _).setCell (by simp) _⟩
end
section
attribute [local go_sem] bT dY iY mI
def dV(a b:bO)(one other two none:Bool):Nat->Bool:=fun j=>if aT a j then (if aT b j then two else one) else (if aT b j then other else none)
def iE(f:Nat->Bool)(k:Nat):Nat->Bool:=fun j=>decide (j < k) && f j
theorem xV(f:Nat->Bool):iE f 0=fun _=>false:=by funext j;simp [iE]
theorem xW(f:Nat->Bool)(k:Nat):dU (iE f k) k (f k)=iE f (k+1):=by
 funext j
 unfold dU iE
 by_cases h:j=k
 ·subst h;simp
 ·rw [if_neg h]
  by_cases h2:j < k
  ·simp [h2,Nat.lt_succ_of_lt h2]
  ·have:¬ j < k+1:=by omega
   simp [h2,this]
theorem aB3(f:Nat->Bool):bK (iE f 256) 256=bK f 256:=by
 refine BitVec.eq_of_getLsbD_eq fun n hn=>?_
 rw [eT _ n 256 (n8 _),eT _ n 256 (n8 _)]
 simp [iE,hn]
theorem xX(a b:bO)(one other two none:Bool)(w:World) :
  Calls Tryz.prog 141 #[.agg #[.int .u64 (aC (a) 0),.int .u64 (aC (a) 1),.int .u64 (aC (a) 2),.int .u64 (aC (a) 3)],.agg #[.int .u64 (aC (b) 0),.int .u64 (aC (b) 1),.int .u64 (aC (b) 2),.int .u64 (aC (b) 3)],.bool one,.bool other,.bool two,.bool none] w fun e w'=>e=.returned (.agg #[.int .u64 (aC (bK (dV a b one other two none) 256) 0),.int .u64 (aC (bK (dV a b one other two none) 256) 1),.int .u64 (aC (bK (dV a b one other two none) 256) 2),.int .u64 (aC (bK (dV a b one other two none) 256) 3)])/\Below w.heap.size w w':=by
 go_enter Tryz.func141,Tryz.ntmps141
 have HB0:Hid (Below w.heap.size w (((w.alloc (.cells #[.int .u64 (aC (a) 0),.int .u64 (aC (a) 1),.int .u64 (aC (a) 2),.int .u64 (aC (a) 3)] 36)).alloc (.cells #[.int .u64 (aC (b) 0),.int .u64 (aC (b) 1),.int .u64 (aC (b) 2),.int .u64 (aC (b) 3)] 36)).alloc (.cells #[.int .u64 0,.int .u64 0,.int .u64 0,.int .u64 0] 36))):=(((Below.refl _ _).alloc (n8 _) _).alloc (by simp) _).alloc (by simp;omega) _
 have BB0:Hid (z1_SetAt (((w.alloc (.cells #[.int .u64 (aC (a) 0),.int .u64 (aC (a) 1),.int .u64 (aC (a) 2),.int .u64 (aC (a) 3)] 36)).alloc (.cells #[.int .u64 (aC (b) 0),.int .u64 (aC (b) 1),.int .u64 (aC (b) 2),.int .u64 (aC (b) 3)] 36)).alloc (.cells #[.int .u64 0,.int .u64 0,.int .u64 0,.int .u64 0] 36)) (w.heap.size+1) b):=(by have h:=(z1_SetAt.new (w.alloc (.cells #[.int .u64 (aC (a) 0),.int .u64 (aC (a) 1),.int .u64 (aC (a) 2),.int .u64 (aC (a) 3)] 36)) b).alloc (.cells #[.int .u64 0,.int .u64 0,.int .u64 0,.int .u64 0] 36);rw [a7] at h;exact h)
 have RR0:Hid (z1_SetAt (((w.alloc (.cells #[.int .u64 (aC (a) 0),.int .u64 (aC (a) 1),.int .u64 (aC (a) 2),.int .u64 (aC (a) 3)] 36)).alloc (.cells #[.int .u64 (aC (b) 0),.int .u64 (aC (b) 1),.int .u64 (aC (b) 2),.int .u64 (aC (b) 3)] 36)).alloc (.cells #[.int .u64 0,.int .u64 0,.int .u64 0,.int .u64 0] 36)) (w.heap.size+1+1) (0#256)):=(by have h:=z1_SetAt.new0 ((w.alloc (.cells #[.int .u64 (aC (a) 0),.int .u64 (aC (a) 1),.int .u64 (aC (a) 2),.int .u64 (aC (a) 3)] 36)).alloc (.cells #[.int .u64 (aC (b) 0),.int .u64 (aC (b) 1),.int .u64 (aC (b) 2),.int .u64 (aC (b) 3)] 36));rw [a7,a7] at h;exact h)
 go_wp2_with first |(go_at_call 175;refine(kL _ _).mono ?_;rintro e w3 ⟨rfl,hb3⟩;have H3:Hid (Below w.heap.size w w3):=eD H2.out hb3;have A3:Hid (z1_ArrAt w3 w1.heap.size (fun j=>aT a j)):=A2.out.below hb3 A2.out.lt;have R3:Hid (z1_SetAt w3 (w.heap.size+1+1) (0#256)):=R2.out.below hb3 R2.out.lt;have z3:=A3.out.lt;have z4:=R3.out.lt;clear hb3 b0 bH6 bH5 bH4) |(go_at_call 175;refine(kL _ _).mono ?_;rintro e w1 ⟨rfl,hb1⟩;have H1:Hid (Below w.heap.size w w1):=eD HB0.out hb1;have B1:Hid (z1_SetAt w1 (w.heap.size+1) b):=BB0.out.below hb1 BB0.out.lt;have R1:Hid (z1_SetAt w1 (w.heap.size+1+1) (0#256)):=RR0.out.below hb1 RR0.out.lt;clear hb1) |(refine dT rfl _ _ rfl w3.heap.size (fun j=>aT b j) (fun _=>false) rfl rfl (z1_ArrAt.new w3 _) ?_;have Y4:Hid (z1_ArrAt (dL (w3.alloc (.cells (bQ fun _=>false) 238)) w3.heap.size (fun j=>aT b j)) w3.heap.size (fun j=>aT b j)):=(z1_ArrAt.new w3 _).put _;have H4:Hid (Below w.heap.size w (dL (w3.alloc (.cells (bQ fun _=>false) 238)) w3.heap.size (fun j=>aT b j))):=cU (H3.out.alloc H3.out.size _) H3.out.size;have A4:Hid (z1_ArrAt (dL (w3.alloc (.cells (bQ fun _=>false) 238)) w3.heap.size (fun j=>aT b j)) w1.heap.size (fun j=>aT a j)):=(A3.out.alloc _).below (cU (n:=w3.heap.size) (Below.refl _ _) (n8 _)) A3.out.lt;have R4:Hid (z1_SetAt (dL (w3.alloc (.cells (bQ fun _=>false) 238)) w3.heap.size (fun j=>aT b j)) (w.heap.size+1+1) (0#256)):=(R3.out.alloc _).below (cU (n:=w3.heap.size) (Below.refl _ _) (n8 _)) R3.out.lt;generalize dL (w3.alloc (.cells (bQ fun _=>false) 238)) w3.heap.size (fun j=>aT b j)=w4 at Y4 H4 A4 R4 ⊢) |(refine dT rfl _ _ rfl w1.heap.size (fun j=>aT a j) (fun _=>false) rfl rfl (z1_ArrAt.new w1 _) ?_;have A2:Hid (z1_ArrAt (dL (w1.alloc (.cells (bQ fun _=>false) 238)) w1.heap.size (fun j=>aT a j)) w1.heap.size (fun j=>aT a j)):=(z1_ArrAt.new w1 _).put _;have H2:Hid (Below w.heap.size w (dL (w1.alloc (.cells (bQ fun _=>false) 238)) w1.heap.size (fun j=>aT a j))):=cU (H1.out.alloc H1.out.size _) H1.out.size;have B2:Hid (z1_SetAt (dL (w1.alloc (.cells (bQ fun _=>false) 238)) w1.heap.size (fun j=>aT a j)) (w.heap.size+1) b):=(B1.out.alloc _).below (cU (n:=w1.heap.size) (Below.refl _ _) (n8 _)) B1.out.lt;have R2:Hid (z1_SetAt (dL (w1.alloc (.cells (bQ fun _=>false) 238)) w1.heap.size (fun j=>aT a j)) (w.heap.size+1+1) (0#256)):=(R1.out.alloc _).below (cU (n:=w1.heap.size) (Below.refl _ _) (n8 _)) R1.out.lt;have z1:=R1.out.lt;generalize dL (w1.alloc (.cells (bQ fun _=>false) 238)) w1.heap.size (fun j=>aT a j)=w2 at A2 H2 B2 R2 ⊢;obtain⟨b0,bH6,bH5,bH4⟩:=B2.out.cells)
 go_loopw [16] (fun i wr=>∃ k:Nat,k<=256/\i=.int .i64 k/\z1_ArrAt wr w4.heap.size (iE (dV a b one other two none) k)/\Below w4.heap.size w4 wr) (fun i _=>256 - (intOf i).toNat)
 case atStart=>exact⟨0,by omega,rfl,by rw [xV];exact z1_ArrAt.new w4 _,(Below.refl _ _).alloc (n8 _) _⟩
 case round=>
  obtain⟨k,hk,rfl,harr,hb⟩:=hrel
  have HA:Hid (z1_ArrAt wr w4.heap.size (iE (dV a b one other two none) k)):=harr
  have HB:Hid (Below w4.heap.size w4 wr):=hb
  have XA:Hid (z1_ArrAt wr w1.heap.size (fun j=>aT a j)):=A4.out.below hb A4.out.lt
  have XB:Hid (z1_ArrAt wr w3.heap.size (fun j=>aT b j)):=Y4.out.below hb Y4.out.lt
  have XR:Hid (z1_SetAt wr (w.heap.size+1+1) (0#256)):=R4.out.below hb R4.out.lt
  have HW:Hid (Below w.heap.size w wr):=eD H4.out hb
  clear harr hb
  by_cases hlt:k < 256
  ·have i0:(0:Int)<=(k:Int):=by omega
   have i1:(k:Int) < 256:=by omega
   have cx:=XA.out.cell k hlt
   have cy:=XB.out.cell k hlt
   have cz:=HA.out.cell k hlt
   have fz:=HA.out.frozen k
   have HF:Hid (dV a b one other two none k=if aT a k then (if aT b k then two else one) else (if aT b k then other else none)):=rfl
   obtain⟨p,hp⟩:∃ p,aT a k=p:=⟨_,rfl⟩
   obtain⟨q,hq⟩:∃ q,aT b k=q:=⟨_,rfl⟩
   rw [hp,hq] at HF
   rw [hp] at cx
   rw [hq] at cy
   clear hp hq
   cases p <;> cases q
   all_goals
    go_wp2
    go_roundw
    case rel=>
     refine⟨k+1,by omega,by go_num,?_,HB.out.setCell (by simp) _⟩
     rw [<- xW,HF.out]
     exact HA.out.store k _
    case measure=>simp [intOf];omega
  ·obtain rfl:k=256:=by omega
   go_wp2_with first |(refine fN rfl _ rfl w4.heap.size _ rfl HA.out ?_) |(go_at_call 176;refine(qI _ _).mono ?_;rw [aB3];rintro e w6 ⟨rfl,hb6⟩;have H6:Hid (Below w.heap.size w w6):=eD HW.out hb6;have R6:Hid (z1_SetAt w6 (w.heap.size+1+1) (0#256)):=XR.out.below hb6 XR.out.lt;clear hb6;obtain⟨e0,e1,e2,e3⟩:=R6.out.cells;have fz:=R6.out.frozen)
   exact bodyPost_ret (v:=.agg #[.int .u64 (aC (bK (dV a b one other two none) 256) 0),.int .u64 (aC (bK (dV a b one other two none) 256) 1),.int .u64 (aC (bK (dV a b one other two none) 256) 2),.int .u64 (aC (bK (dV a b one other two none) 256) 3)]) (by simp [results,Tryz.results141,go_sem,e0,e1,e2,e3]) rfl ⟨rfl,(((H6.out.setCell (by simp;omega) _).setCell (by simp;omega) _).setCell (by simp;omega) _).setCell (by simp;omega) _⟩
end
section
attribute [local go_sem] bT dY iY mI
theorem aB7(a b:bO):bK (dV a b true true true false) 256=aN a b:=by
 refine pN _ _ fun n hn=>?_
 rw [mN];unfold dV aT
 cases a.getLsbD n <;> cases b.getLsbD n <;> rfl
theorem aR7(a b:bO)(w:World) :
  Calls Tryz.prog 113 #[.agg #[.int .u64 (aC (a) 0),.int .u64 (aC (a) 1),.int .u64 (aC (a) 2),.int .u64 (aC (a) 3)],.agg #[.int .u64 (aC (b) 0),.int .u64 (aC (b) 1),.int .u64 (aC (b) 2),.int .u64 (aC (b) 3)]] w fun e w'=>e=.returned (.agg #[.int .u64 (aC (aN a b) 0),.int .u64 (aC (aN a b) 1),.int .u64 (aC (aN a b) 2),.int .u64 (aC (aN a b) 3)])/\Below w.heap.size w w':=by
 have HB0:Hid (Below w.heap.size w (((w.alloc (.cells #[.int .u64 (aC (a) 0),.int .u64 (aC (a) 1),.int .u64 (aC (a) 2),.int .u64 (aC (a) 3)] 36)).alloc (.cells #[.int .u64 (aC (b) 0),.int .u64 (aC (b) 1),.int .u64 (aC (b) 2),.int .u64 (aC (b) 3)] 36)).alloc (.cells #[.int .u64 0,.int .u64 0,.int .u64 0,.int .u64 0] 36))):=(((Below.refl _ _).alloc (n8 _) _).alloc (by simp) _).alloc (by simp;omega) _
 have RR0:Hid (z1_SetAt (((w.alloc (.cells #[.int .u64 (aC (a) 0),.int .u64 (aC (a) 1),.int .u64 (aC (a) 2),.int .u64 (aC (a) 3)] 36)).alloc (.cells #[.int .u64 (aC (b) 0),.int .u64 (aC (b) 1),.int .u64 (aC (b) 2),.int .u64 (aC (b) 3)] 36)).alloc (.cells #[.int .u64 0,.int .u64 0,.int .u64 0,.int .u64 0] 36)) (w.heap.size+1+1) (0#256)):=(by have h:=z1_SetAt.new0 ((w.alloc (.cells #[.int .u64 (aC (a) 0),.int .u64 (aC (a) 1),.int .u64 (aC (a) 2),.int .u64 (aC (a) 3)] 36)).alloc (.cells #[.int .u64 (aC (b) 0),.int .u64 (aC (b) 1),.int .u64 (aC (b) 2),.int .u64 (aC (b) 3)] 36));rw [a7,a7] at h;exact h)
 have HC:Hid (∀ w,Calls Tryz.prog 141 #[.agg #[.int .u64 (aC (a) 0),.int .u64 (aC (a) 1),.int .u64 (aC (a) 2),.int .u64 (aC (a) 3)],.agg #[.int .u64 (aC (b) 0),.int .u64 (aC (b) 1),.int .u64 (aC (b) 2),.int .u64 (aC (b) 3)],.bool true,.bool true,.bool true,.bool false] w fun e w'=>e=.returned (.agg #[.int .u64 (aC (aN a b) 0),.int .u64 (aC (aN a b) 1),.int .u64 (aC (aN a b) 2),.int .u64 (aC (aN a b) 3)])/\Below w.heap.size w w'):=fun w=>by have:=xX a b true true true false w;rw [aB7] at this;exact this
 go_enter Tryz.func113,Tryz.ntmps113
 go_wp2_with (go_at_call 141;refine(HC.out _).mono ?_;rintro e w1 ⟨rfl,hb1⟩;have H1:Hid (Below w.heap.size w w1):=eD HB0.out hb1;have R1:Hid (z1_SetAt w1 (w.heap.size+1+1) (0#256)):=RR0.out.below hb1 RR0.out.lt;clear hb1;obtain⟨e0,e1,e2,e3⟩:=R1.out.cells;have fz:=R1.out.frozen)
 exact bodyPost_ret (v:=.agg #[.int .u64 (aC (aN a b) 0),.int .u64 (aC (aN a b) 1),.int .u64 (aC (aN a b) 2),.int .u64 (aC (aN a b) 3)]) (by simp [results,Tryz.results113,go_sem,e0,e1,e2,e3]) rfl ⟨rfl,(((H1.out.setCell (by simp;omega) _).setCell (by simp;omega) _).setCell (by simp;omega) _).setCell (by simp;omega) _⟩
end
theorem lz9{n:Nat}:n<=n:=n8 n
theorem bz9{w:World}{o:Obj}:Below w.heap.size w (w.alloc o):=(Below.refl w.heap.size w).alloc (n8 w.heap.size) o
def iH(l:List Int):List Value:=l.map (Value.int .i64)
theorem aW6{l:List Int}{i:Nat}{x:Int}(h:l[i]?=some x):(iH l)[i]?=some (.int .i64 x):=by simp [iH,h]
theorem zF(a b:List Int):iH (a ++ b)=iH a ++ iH b:=by simp [iH]
structure Fr(S:Nat->Prop)(w w':World):Prop where
 os:w'.os=w.os
 tape:w'.tape=w.tape
 output:w'.output=w.output
 size:w.heap.size<=w'.heap.size
 block:∀ k,k < w.heap.size->¬ S k->w'.heap[k]?=w.heap[k]?
theorem Fr.refl(S:Nat->Prop)(w:World):Fr S w w:=⟨rfl,rfl,rfl,n8 _,fun _ _ _=>rfl⟩
theorem Fr.trans{S:Nat->Prop}{a b c:World}(h:Fr S a b)(k:Fr S b c):Fr S a c:=
 ⟨k.os.trans h.os,k.tape.trans h.tape,k.output.trans h.output,i8 h.size k.size,fun i hi hs=>(k.block i (i6 hi h.size) hs).trans (h.block i hi hs)⟩
theorem Fr.mono{S T:Nat->Prop}{a b:World}(h:Fr S a b)(hst:∀ k,S k->T k):Fr T a b:=⟨h.os,h.tape,h.output,h.size,fun i hi hs=>h.block i hi (fun q=>hs (hst i q))⟩
theorem Fr.below{S:Nat->Prop}{a b:World}{n:Nat}(h:Fr S a b)(hn:n<=a.heap.size)(hs:∀ k,S k->n<=k):Below n a b:=
 ⟨h.os,h.tape,h.output,h.size,fun i hi=>h.block i (i6 hi hn) (fun q=>by have:=hs i q;omega)⟩
theorem Fr.of_below{S:Nat->Prop}{a b:World}(h:Below a.heap.size a b):Fr S a b:=⟨h.os,h.tape,h.output,h.size,fun i hi _=>h.block i hi⟩
theorem Fr.alloc{S:Nat->Prop}{a w:World}(h:Fr S a w)(o:Obj):Fr S a (w.alloc o):=h.trans (Fr.of_below ((Below.refl _ _).alloc lz9 o))
theorem Fr.drew{S:Nat->Prop}{a w:World}(h:Fr S a w):Fr S a w.drew:=h.trans (Fr.of_below (Below.refl _ _).drew)
theorem Fr.setCell{S:Nat->Prop}{a w:World}(h:Fr S a w){p:Addr}(hp:S p.block)(u:Value):Fr S a (w.setCell p u):=
 h.trans ⟨rfl,rfl,rfl,by simp [World.setCell],fun k _ hk=>Below.heap_setCell _ _ _ _ (fun e=>hk (e ▸ hp))⟩
theorem Fr.setNew{S:Nat->Prop}{a w:World}(h:Fr S a w){p:Addr}(hp:a.heap.size<=p.block)(u:Value):Fr S a (w.setCell p u):=
 ⟨h.os,h.tape,h.output,by have:=h.size;simp [World.setCell];exact this,fun k hk hs=>(Below.heap_setCell _ _ _ _ (by omega)).trans (h.block k hk hs)⟩
theorem Fr.then{S:Nat->Prop}{a b c:World}(h:Fr S a b)(k:Below b.heap.size b c):Fr S a c:=h.trans (Fr.of_below k)
theorem Fr.grown{S:Nat->Prop}{a w w':World}{row:Option Nat}(h:Fr S a w)(hg:w.grownBy w' row)(hr:∀ k,row=some k->S k):Fr S a w':=
 h.trans ⟨hg.os,hg.tape,hg.output,hg.size,fun k hk hs=>hg.block k hk (fun e=>hs (hr k e.symm))⟩
theorem aB{w:World}{k:Nat}{o:Obj}(h:w.heap[k]?=some o):k < w.heap.size:=(aAA.1 h).1
theorem aO{w:World}{k:Nat}{cur:Array Value}{t:TypeId}{fr:Nat × Nat}(h:w.heap[k]?=some (.cells cur t fr))(j:Nat)(v:Value):(w.setCell ⟨k,j,none⟩ v).heap[k]?=some (.cells (cur.setIfInBounds j v) t fr):=by
 simp [World.setCell,Array.getElem?_modify,h]
theorem bD8{W:World}{x y:Nat}{c c':Array Value}{t t':TypeId}{f f':Nat × Nat}(h:W.heap[x]?=some (.cells c t f))(h':W.heap[y]?=some (.cells c' t' f'))(ht:t≠t'):x≠y:=fun e=>by
 rw [e,h'] at h
 injection h with h
 injection h with _ h _
 exact ht h.symm
theorem aA{W:World}{wb:Nat}{c:Array Value}{t:TypeId}(h:W.heap[wb]?=some (.cells c t (0,0))){i:Nat}{v:Value}(hi:c[i]?=some v):W.cell? ⟨wb,i,none⟩=some v:=by simp [World.cell?,h,hi]
theorem aG{W:World}{wb:Nat}{c:Array Value}{t:TypeId}(h:W.heap[wb]?=some (.cells c t (0,0)))(i:Nat):W.frozen? ⟨wb,i,none⟩=false:=by simp [World.frozen?,h]
theorem aJ{n:Nat}{a b c:World}(h:Below n a b)(k:Below b.heap.size b c)(hn:n<=a.heap.size):Below n a c:=h.trans (k.mono (i8 hn h.size))
theorem bC{n:Nat}{a b c:World}{S:Nat->Prop}(h:Below n a b)(k:Fr S b c)(hn:n<=a.heap.size)(hs:∀ k,S k->n<=k):Below n a c:=h.trans (k.below (i8 hn h.size) hs)
theorem eH{α:Type}(l:List α)(k:Nat)(h:k < l.length):l.take (k+1)=l.take k ++ [l[k]]:=by simp
def Ext(W:World):Type:={ w:World // Below W.heap.size W w }
theorem tT{P:Program}{id:Nat}{Q:Exit->Act->World->Prop}{a:Act}{w:World}{l:List Oper}(hm:P.follows .mixedOrders=true)(hB:Region.lexB .any l.toArray=true)
  (h:wpQuiet P l.toArray (fun w'=>∃ x:Ext w,w'=x.val) (fun a'=>∀ w',(∃ x:Ext w,w'=x.val)->Q .normal a' w') l a):(Code.region id l.toArray true).wp P Q a w:=
 wp_region_quiet (C:=fun w'=>∃ x:Ext w,w'=x.val) hm hB ⟨⟨w.drew,(Below.refl _ _).drew⟩,rfl⟩ (by simpa using h)
theorem wx9{P:Program}{id:Nat}{Q:Exit->Act->World->Prop}{a:Act}{w:World}{l:List Oper}(h:wpQuiet P l.toArray (fun w'=>∃ x:Ext w,w'=x.val) (fun a'=>∀ w',(∃ x:Ext w,w'=x.val)->Q .normal a' w') l a)(hm:P.follows .mixedOrders=true:=by kernel_rfl)(hB:Region.lexB .any l.toArray=true:=by kernel_rfl):(Code.region id l.toArray true).wp P Q a w:=tT hm hB h
theorem bN{P:Program}{f:FuncId}{args:Array Value}{W:World}{x:Ext W}{v:Value}
  (h:Calls P f args x.val fun e w'=>e=.returned v/\Below x.val.heap.size x.val w'):Calls P f args x.val fun e w''=>e=.returned v/\∃ y:Ext W,w''=y.val:=
 h.mono fun _ w' ⟨he,hb⟩=>⟨he,⟨w',x.2.trans (hb.mono x.2.size)⟩,rfl⟩
theorem fL{P:Program}{f:FuncId}{args:Array Value}{W:World}{x:Ext W}{v:Value}
  (h:Calls P f args x.val fun e w'=>e=.returned v/\w'=x.val):Calls P f args x.val fun e w''=>e=.returned v/\∃ y:Ext W,w''=y.val:=
 h.mono fun _ _ ⟨he,hb⟩=>⟨he,x,hb⟩
theorem bB{W:World}(x:Ext W)(b o:Nat)(h:b < W.heap.size):x.val.cell? ⟨b,o,none⟩=W.cell? ⟨b,o,none⟩:=x.2.cell (p:=⟨b,o,none⟩) h
theorem cI{W:World}(x:Ext W):Below W.heap.size W x.val:=x.2
theorem aQ{W w1:World}(h:∃ x:Ext W,w1=x.val):Below W.heap.size W w1:=by
 obtain⟨x,rfl⟩:=h
 exact x.2
end Go.Proofs.YtlaimbkenbijeaaGreatDoor
