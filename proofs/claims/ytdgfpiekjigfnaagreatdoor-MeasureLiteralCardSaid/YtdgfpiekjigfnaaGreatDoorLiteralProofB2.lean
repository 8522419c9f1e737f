/-
  Parts of the proof.
-/
import Derived.Test.YtdgfpiekjigfnaaGreatDoorLiteralProofA0
import Derived.Test.YtdgfpiekjigfnaaGreatDoorLiteralProofB0
import Derived.BigQuiet
import Derived.Test.YtdgfpiekjigfnaaGreatDoorLiteralProofB1
import Derived.Lib.TrailingZeros
import Derived.Laws.Bits64b
import Derived.RangeFuncNested
import Derived.RangeFuncBound
import Derived.RangeFuncCalls
import Derived.RangeFuncLeaves
import Derived.RangeFuncBox
import Derived.Shelf.Abstract
import Derived.Shelf.RegionOpen
import Derived.OwnWalkIn
import Derived.TacticsInMore
import Derived.LoopNIn
import Derived.LoopIn
import Derived.Maps.AppendAt
import Derived.Deep.RegionHeld3
import Derived.Deep.DrawnRows
import Derived.Deep.MidRow
import Derived.Test.YtdgfpiekjigfnaaGreatDoorProg
import Derived.WalkKit
import Derived.WalkSpells
import Derived.WalkLawsBesides
import Derived.Below
import Derived.Laws.AppendOwn
import Derived.Laws.MakeOwn
import Derived.Laws.CopyOwn
import Derived.ProofKit
import Derived.OpenShut
import Derived.Stop.Joined
import Derived.ChangeOld
import Derived.ChangeSlices
import Derived.Carry
import Derived.OwnWalk
import Derived.Deep.RegionLaw
import Derived.Deep.RegionWith
import Derived.Deep.DeepCutAuto
import Derived.Laws.OwnMore
import Derived.Maps.Views
import Derived.Maps.OwnOps
set_option maxRecDepth 100000
set_option maxHeartbeats 8000000
namespace Go.Proofs.YtdgfpiekjigfnaaGreatDoor
open Go Go.RowKit
def bO6(W:World):Type:={ w:World // Below W.heap.size W w }
theorem iS{W:World}(x:bO6 W)(b o:Nat)(h:b<W.heap.size):x.val.cell? (aDr b o)=W.cell? (aDr b o):=x.2.cell (p:=(aDr b o)) h
theorem aB1:Tryz.prog.eqGuardType Tryz.prog.depth 36=false:=by kernel_rfl
theorem bF1:Tryz.prog.eqGuardType Tryz.prog.depth 92=false:=by kernel_rfl
theorem mU(x0 gK gJ gI y0 y1 y2 y3:Int)(w:World) :
  (Op.equalIn 10000 36 (.agg #[.int .u64 x0,.int .u64 gK,.int .u64 gJ,.int .u64 gI]) (.agg #[.int .u64 y0,.int .u64 y1,.int .u64 y2,.int .u64 y3])).run Tryz.prog w
   = .ok (x0==y0&&gK==y1&&gJ==y2&&gI==y3) w:=by
 have u22:=Tryz.underlying34;have a22:=Tryz.isAgg34;have z22:=Tryz.sizeOf34;have hu:Tryz.prog.underlying 36=some (.array 4 34):=by kernel_rfl
 rw [show (10000:Nat)=9999+1 from rfl,Op.equalIn];simp only [Sem.run_bind,run_underlying hu,Result.andThen_ok];simp only [Std.Legacy.Range.forIn_eq_forIn_range',Std.Legacy.Range.size,Nat.sub_zero,aBV,Nat.div_one,List.range'_succ,List.range'_zero,List.forIn_cons,List.forIn_nil];go_simp;by_cases h0:x0=y0 <;> by_cases h1:gK=y1 <;> by_cases h2:gJ=y2 <;> by_cases h3:gI=y3 <;> simp [h0,h1,h2,h3]
theorem aM4(a b:cF):(aD a 0==aD b 0&&aD a 1==aD b 1&&aD a 2==aD b 2&&aD a 3==aD b 3)=decide (a=b):=by
 by_cases h:a=b
 ·subst h;simp
 ·rw [t6 h,Bool.eq_false_iff];intro g;simp at g;exact h (aM3 g.1.1.1 g.1.1.2 g.1.2 g.2)
theorem qE(a b:cF)(w:World):(Op.equalIn 10000 36 (.agg #[.int .u64 (aD (a) 0),.int .u64 (aD (a) 1),.int .u64 (aD (a) 2),.int .u64 (aD (a) 3)]) (.agg #[.int .u64 (aD (b) 0),.int .u64 (aD (b) 1),.int .u64 (aD (b) 2),.int .u64 (aD (b) 3)])).run Tryz.prog w=.ok (decide (a=b)) w:=by
 rw [mU,aM4]
theorem lZ(i:Nat):aD (0#256) i=0:=by simp [aD]
theorem bM8(a:cF)(w:World):(Op.equalIn 10000 36 (.agg #[.int .u64 (aD (a) 0),.int .u64 (aD (a) 1),.int .u64 (aD (a) 2),.int .u64 (aD (a) 3)]) (.agg #[.int .u64 0,.int .u64 0,.int .u64 0,.int .u64 0])).run Tryz.prog w=.ok (decide (a=0#256)) w:=by
 have:=qE a (0#256) w;rwa [lZ,lZ,lZ,lZ] at this
theorem bF0(a b c d:Int)(w:World):(Op.equalIn 10000 92 (.agg #[.I a,.I b]) (.agg #[.I c,.I d])).run Tryz.prog w=.ok (a==c&&b==d) w:=by
 have u3:=Tryz.underlying3;have a3:=Tryz.isAgg3;have z3:=Tryz.sizeOf3;have hS:Tryz.prog.underlying 92=some (.struct (Tryz.prog.fieldsOf 92)):=by kernel_rfl
 have hp:Tryz.prog.stoodInHeld 92=false:=by kernel_rfl
 rw [show (10000:Nat)=9999+1 from rfl,run_equalIn_agg w 9999 92 _ _ hS hp];simp only [Program.fieldsOf,Tryz.underlying92];go_simp;by_cases h1:a=c <;> by_cases h2:b=d <;> simp [h1,h2]
section
attribute [local go_sem] kA jZ jY jX cT iS
theorem xR(a b:cF)(n:Nat):(cE a b).getLsbD n=(a.getLsbD n && !b.getLsbD n):=by
 unfold cE;by_cases h:n<256
 ·simp [h]
 ·have:a.getLsbD n=false:=BitVec.getLsbD_of_ge _ _ (by omega);simp [this]
end
section
open Go Go.RowKit Go.Shelf
attribute [local go_sem] Oper.semAt_some
def z1_SetAt(W:World)(B:Nat)(s:cF):Prop:=W.heap[B]?=some (.cells #[.int .u64 (aD (s) 0),.int .u64 (aD (s) 1),.int .u64 (aD (s) 2),.int .u64 (aD (s) 3)] 36 (0,0))
theorem z1_SetAt.lt{W:World}{B:Nat}{s:cF}(h:z1_SetAt W B s):B<W.heap.size:=(aBJ.1 h).1
theorem z1_SetAt.cell0{W:World}{B:Nat}{s:cF}(h:z1_SetAt W B s):W.cell? (aDr B 0)=some (.int .u64 (aD s 0)):=by simp [World.cell?,show W.heap[B]?=_ from h]
theorem z1_SetAt.cell1{W:World}{B:Nat}{s:cF}(h:z1_SetAt W B s):W.cell? (aDr B 1)=some (.int .u64 (aD s 1)):=by simp [World.cell?,show W.heap[B]?=_ from h]
theorem z1_SetAt.cell2{W:World}{B:Nat}{s:cF}(h:z1_SetAt W B s):W.cell? (aDr B 2)=some (.int .u64 (aD s 2)):=by simp [World.cell?,show W.heap[B]?=_ from h]
theorem z1_SetAt.cell3{W:World}{B:Nat}{s:cF}(h:z1_SetAt W B s):W.cell? (aDr B 3)=some (.int .u64 (aD s 3)):=by simp [World.cell?,show W.heap[B]?=_ from h]
theorem z1_SetAt.below{W W':World}{B n₀:Nat}{s:cF}(h:z1_SetAt W B s)(hb:Below n₀ W W')(hB:B<n₀):z1_SetAt W' B s:=(hb.block B hB).trans h
theorem z1_SetAt.new(W:World)(s:cF):z1_SetAt (W.alloc (.cells #[.int .u64 (aD (s) 0),.int .u64 (aD (s) 1),.int .u64 (aD (s) 2),.int .u64 (aD (s) 3)] 36)) W.heap.size s:=World.alloc_heap_new W _
theorem z1_SetAt.cells{W:World}{B:Nat}{s:cF}(h:z1_SetAt W B s):W.cell? (aDr B 0)=some (.int .u64 (aD s 0))/\W.cell? (aDr B 1)=some (.int .u64 (aD s 1))/\W.cell? (aDr B 2)=some (.int .u64 (aD s 2))/\W.cell? (aDr B 3)=some (.int .u64 (aD s 3)):=⟨h.cell0,h.cell1,h.cell2,h.cell3⟩
theorem z1_SetAt.alloc{W:World}{B:Nat}{s:cF}(h:z1_SetAt W B s)(o:Obj):z1_SetAt (W.alloc o) B s:=(Below.heap_alloc W o B h.lt).trans h
end
section
attribute [local go_sem] kA jZ jY jX cT
def cG(lo hi:Int):cF:=cE (cN (hi+1)) (cN lo)
def dI(lo hi:Int):Prop:=0<=lo/\lo<=hi/\hi<=255
theorem iK(i:Nat):aD (0#256) i=0:=by simp [aD]
theorem nT{w W W':World}(h:Below w.heap.size w W)(hb:Below W.heap.size W W'):Below w.heap.size w W':=h.trans (hb.mono h.size)
theorem nS{w W:World}{x0 gK gJ gI:Value}{t:TypeId}(h:Below (w.alloc (.cells #[x0,gK,gJ,gI] t)).heap.size (w.alloc (.cells #[x0,gK,gJ,gI] t)) W) :
  W.cell? (aDr w.heap.size 0)=some x0/\W.cell? (aDr w.heap.size 1)=some gK/\W.cell? (aDr w.heap.size 2)=some gJ/\W.cell? (aDr w.heap.size 3)=some gI/\∀ o,W.frozen? (aDr w.heap.size o)=false:=by
 refine⟨?_,?_,?_,?_,fun o=>?_⟩
 ·rw [h.cell (by simp)];simp [go_sem]
 ·rw [h.cell (by simp)];simp [go_sem]
 ·rw [h.cell (by simp)];simp [go_sem]
 ·rw [h.cell (by simp)];simp [go_sem]
 ·rw [h.frozen (by simp)];simp [go_sem]
theorem vI(lo hi:Int)(w:World)(h:¬ dI lo hi) :
  Calls Tryz.prog 113 #[.I lo,.I hi] w fun e w'=>e=.returned (.tuple #[.agg #[.int .u64 (aD (0#256) 0),.int .u64 (aD (0#256) 1),.int .u64 (aD (0#256) 2),.int .u64 (aD (0#256) 3)],.I 1])/\Below w.heap.size w w':=by
 unfold dI at h;rw [iK,iK,iK,iK];have hc:lo<0\/(0<=lo/\hi<lo)\/(0<=lo/\lo<=hi/\255<hi):=by omega
 clear h;rcases hc with h | ⟨h,h'⟩ | ⟨h,h',h''⟩
 all_goals
  go_enter Tryz.func113,Tryz.ntmps113;go_wp2;exact bodyPost_ret (v:=.tuple #[.agg #[.int .u64 0,.int .u64 0,.int .u64 0,.int .u64 0],.I 1]) (by simp [results,Tryz.results113,go_sem]) rfl ⟨rfl,(Below.refl _ _).alloc (aAB _) _⟩
theorem xL(lo hi:Int)(w:World)(h:dI lo hi) :
  Calls Tryz.prog 113 #[.I lo,.I hi] w fun e w'=>e=.returned (.tuple #[.agg #[.int .u64 (aD (cG lo hi) 0),.int .u64 (aD (cG lo hi) 1),.int .u64 (aD (cG lo hi) 2),.int .u64 (aD (cG lo hi) 3)],.I 0])/\Below w.heap.size w w':=by
 obtain⟨h0,h1,h2⟩:=h;go_enter Tryz.func113,Tryz.ntmps113;go_wp2_with (first
  |(go_at_call 144;refine(nU _ _).mono ?_;rintro e w2 ⟨rfl,hb2⟩;have HB:=nT HA hb2)
  |(go_at_call 144;refine(nU _ _).mono ?_;rintro e w1 ⟨rfl,HA⟩)
  |(go_at_call 143;refine(xM _ _ _).mono ?_;rintro e w3 ⟨rfl,hb3⟩;have HC:=nT HB hb3;obtain⟨c0,c1,c2,c3,f0⟩:=nS HC))
 exact bodyPost_ret (v:=.tuple #[.agg #[.int .u64 (aD (cG lo hi) 0),.int .u64 (aD (cG lo hi) 1),.int .u64 (aD (cG lo hi) 2),.int .u64 (aD (cG lo hi) 3)],.I 0]) (by simp [results,Tryz.results113,go_sem,cG,c0,c1,c2,c3]) rfl ⟨rfl,((((((Below.refl _ _).alloc (aAB _) _).trans (HC.mono (by simp))).setCell (by simp) _).setCell (by simp) _).setCell (by simp) _).setCell (by simp) _⟩
open Classical in
noncomputable def iF (lo hi:Int):cF:=if dI lo hi then cG lo hi else 0#256
open Classical in
noncomputable def pM (lo hi:Int):Int:=if dI lo hi then 0 else 1
theorem vJ(lo hi:Int)(w:World) :
  Calls Tryz.prog 113 #[.I lo,.I hi] w fun e w'=>e=.returned (.tuple #[.agg #[.int .u64 (aD (iF lo hi) 0),.int .u64 (aD (iF lo hi) 1),.int .u64 (aD (iF lo hi) 2),.int .u64 (aD (iF lo hi) 3)],.I (pM lo hi)])/\Below w.heap.size w w':=by
 unfold iF pM;by_cases h:dI lo hi
 ·rw [if_pos h,if_pos h];exact xL lo hi w h
 ·rw [if_neg h,if_neg h];exact vI lo hi w h
theorem vK{lo hi:Int}(h:dI lo hi):iF lo hi=cG lo hi:=if_pos h
theorem vL{lo hi:Int}(h:dI lo hi):pM lo hi=0:=if_pos h
end
section
attribute [local go_sem] kA jZ jY jX cT iS
theorem fJ{W:World}{g:Nat}{cur:Array Value}{t:TypeId}(hg:W.heap[g]?=some (.cells cur t (0,0)))(o:Nat)(v:Value):(W.setCell (aDr g o) v).heap[g]?=some (.cells (cur.setIfInBounds o v) t (0,0)):=by
 unfold World.setCell;dsimp only;rw [aCF,if_pos rfl,hg]
 rfl
theorem z1_SetAt.store{W:World}{B:Nat}{s:cF}(h:z1_SetAt W B s)(t:cF) :
  z1_SetAt ((((W.setCell (aDr B 0) (.int .u64 (aD t 0))).setCell (aDr B 1) (.int .u64 (aD t 1))).setCell (aDr B 2) (.int .u64 (aD t 2))).setCell (aDr B 3) (.int .u64 (aD t 3))) B t:=
 (fJ (fJ (fJ (fJ h 0 _) 1 _) 2 _) 3 _).trans (by rfl)
theorem z1_SetAt.frozen{W:World}{B:Nat}{s:cF}(h:z1_SetAt W B s)(o:Nat):W.frozen? (aDr B o)=false:=by simp [World.frozen?,show W.heap[B]?=_ from h]
end
section
attribute [local go_sem] kA jZ jY jX cT
def z1_RowAt(w:World)(v:Value)(rs:List (Int×Int)):Prop:=
 (∃ p cap,v=.slice p 0 cap/\rs=[]) \/
 ∃ (g off cap:Nat),v=.slice (some (aDr g off)) rs.length cap/\g<w.heap.size/\rs.length<=cap/\cap<=maxLen /\
  ∀ i lo hi,rs[i]?=some (lo,hi)->w.cell? ⟨g,off+i*2,none⟩=some (.I lo)/\w.cell? ⟨g,off+i*2+1,none⟩=some (.I hi)
theorem z1_RowAt.below{w w':World}{v:Value}{rs:List (Int×Int)}(h:z1_RowAt w v rs)(hb:Below w.heap.size w w'):z1_RowAt w' v rs:=by
 rcases h with h | ⟨g,off,cap,rfl,hg,h1,h2,hc⟩
 ·exact .inl h
 ·exact .inr ⟨g,off,cap,rfl,o4 hg hb.size,h1,h2,fun i lo hi he=>⟨(hb.cell (p:=⟨g,off+i*2,none⟩) hg).trans (hc i lo hi he).1,(hb.cell (p:=⟨g,off+i*2+1,none⟩) hg).trans (hc i lo hi he).2⟩⟩
def bT(rs:List (Int×Int)):cF:=rs.foldl (fun s r=>bC s (cG r.1 r.2)) 0#256
def uF(rs:List (Int×Int)):Prop:=∀ r∈rs,dI r.1 r.2
theorem mT(rs:List (Int×Int))(r:Int×Int):bT (rs++[r])=bC (bT rs) (cG r.1 r.2):=by simp [bT]
theorem pL{α:Type}(l:List α)(k:Nat)(x:α)(h:l[k]?=some x):l.take (k+1)=l.take k++[x]:=by
 obtain⟨hk,rfl⟩:=m8.1 h;rw [List.take_succ_eq_append_getElem hk]
theorem rM(rs:List (Int×Int))(v:Value)(w:World)(h:z1_RowAt w v rs)(hok:uF rs) :
  Calls Tryz.prog 91 #[v] w fun e w'=>e=.returned (.tuple #[.agg #[.int .u64 (aD (bT rs) 0),.int .u64 (aD (bT rs) 1),.int .u64 (aD (bT rs) 2),.int .u64 (aD (bT rs) 3)],.I 0])/\Below w.heap.size w w':=by
 have HR:Hid (z1_RowAt w v rs):=h;have HO:Hid (uF rs):=hok;clear h hok;obtain⟨p,cap,hv,hlen⟩:∃ p cap,v=.slice p rs.length cap/\rs.length<=maxLen:=by
  rcases HR.o with⟨p0,cap,rfl,rfl⟩ | ⟨g,off,cap,rfl,_,h1,h2,_⟩
  ·exact⟨p0,cap,rfl,by decide⟩
  ·exact⟨_,cap,rfl,m9 h1 h2⟩
 subst hv;unfold maxLen at hlen;go_enter Tryz.func91,Tryz.ntmps91;go_wp2;go_loopw [11] (fun i wr=>∃ k:Nat,k<=rs.length/\i=.I k/\z1_SetAt wr (w.heap.size+1) (bT (rs.take k))/\Below (w.heap.size+1) (w.alloc (.cells #[.int .u64 0,.int .u64 0,.int .u64 0,.int .u64 0] 36)) wr) (fun i _=>rs.length-(intOf i).toNat)
 case atStart=>
  refine⟨0,r9 _,rfl,?_,(Below.refl _ _).alloc (by simp) _⟩;have:=z1_SetAt.new (w.alloc (.cells #[.int .u64 0,.int .u64 0,.int .u64 0,.int .u64 0] 36)) (0#256);simpa [iK,bT] using this
 case round=>
  obtain⟨k,hk,rfl,hset,hb⟩:=hrel;have HS:Hid (z1_SetAt wr (w.heap.size+1) (bT (rs.take k))):=hset;have HB:Hid (Below (w.heap.size+1) (w.alloc (.cells #[.int .u64 0,.int .u64 0,.int .u64 0,.int .u64 0] 36)) wr):=hb;have HW:Hid (Below w.heap.size w wr):=((Below.refl _ _).alloc (aAB _) _).trans (hb.mono (by simp));clear hset hb;by_cases hlt:k<rs.length
  ·have HK:Hid (rs[k]?=some rs[k]):=m7 hlt;have HT:Hid (rs.take (k+1)=rs.take k++[rs[k]]):=pL rs k _ HK.o;have HX:Hid (dI rs[k].1 rs[k].2):=HO.o _ (List.getElem_mem hlt);generalize hlh:rs[k]=lh at HK HT HX;obtain⟨lo,hi⟩:=lh;clear hlh;dsimp only at HX;rcases HR.o.below HW.o with⟨_,_,h1,h2⟩ | ⟨g,off,cap',h1,hg,hc1,hc2,hcl⟩
   ·rw [h2] at hlt;simp at hlt
   ·cases h1;obtain⟨q1,q2⟩:=hcl k lo hi HK.o;unfold maxLen at hc2;clear hcl;obtain⟨S0,hS0⟩:∃ S0,bT (rs.take k)=S0:=⟨_,rfl⟩;rw [hS0] at HS;have HE:Hid (bT (rs.take k)=S0):=hS0;clear hS0;have R0:=vL HX.o;have R1:=vK HX.o;go_wp2_with (first
     |(go_at_call 113;refine(vJ _ _ _).mono ?_;rw [R0,R1];rintro e w2 ⟨rfl,hb2⟩;have H2:Hid (Below wr.heap.size wr w2):=nT ((Below.refl _ _).alloc (aAB _) _) hb2;have S2:Hid (z1_SetAt w2 (w.heap.size+1) S0):=(HS.o.alloc _).below hb2 (HS.o.alloc _).lt;clear hb2;obtain⟨a0,a1,a2,a3⟩:=S2.o.cells;have z2:=S2.o.lt)
     |(go_at_call 63;refine(mA _ _ _).mono ?_;rintro e w3 ⟨rfl,hb3⟩;have H3:Hid (Below wr.heap.size wr w3):=nT (H2.o.alloc H2.o.size _) hb3;have S3:Hid (z1_SetAt w3 (w.heap.size+1) S0):=(S2.o.alloc _).below hb3 (S2.o.alloc _).lt;clear hb3 a0 a1 a2 a3;obtain⟨a0,a1,a2,a3⟩:=S3.o.cells;have f3:=S3.o.frozen))
    go_roundw
    case rel=>
     refine⟨k+1,by omega,by go_num,?_,((((HB.o.trans (H3.o.mono (aBE HS.o.lt))).setCell (by simp) _).setCell (by simp) _).setCell (by simp) _).setCell (by simp) _⟩;rw [HT.o,mT,HE.o];exact S3.o.store _
    case measure=>simp [intOf];omega
  ·have hke:rs.take k=rs:=n9 (by omega);rw [hke] at HS;obtain⟨a0,a1,a2,a3⟩:=HS.o.cells;obtain⟨e0,e1,e2,e3,fz⟩:=nS (w:=w) (W:=wr) (by simpa using HB.o);clear hke;go_wp2;exact bodyPost_ret (v:=.tuple #[.agg #[.int .u64 (aD (bT rs) 0),.int .u64 (aD (bT rs) 1),.int .u64 (aD (bT rs) 2),.int .u64 (aD (bT rs) 3)],.I 0]) (by simp [results,Tryz.results91,go_sem,e0,e1,e2,e3]) rfl ⟨rfl,((((((Below.refl _ _).alloc (aAB _) _).trans (HB.o.mono (by simp))).setCell (by simp) _).setCell (by simp) _).setCell (by simp) _).setCell (by simp) _⟩
end
section
attribute [local go_sem] cT iS
def mZ(f:Nat->Bool)(k:Nat):cF:=(List.range k).foldl (fun s b=>if f b then bC s (nR (b:Int)) else s) 0#256
theorem xO(f:Nat->Bool)(k:Nat):mZ f (k+1)=if f k then bC (mZ f k) (nR (k:Int)) else mZ f k:=by
 unfold mZ;rw [List.range_succ,aCI]
 rfl
theorem nA(f:Nat->Bool)(n:Nat):∀ k,k<=256->(mZ f k).getLsbD n=(decide (n<k)&&f n)
 | 0,_=>by simp [mZ]
 | k+1,hk=>by
  have ih:=nA f n k (by omega);rw [xO];by_cases h:n=k
  ·subst h;cases hf:f n
   ·simp [ih,hf]
   ·simp only [if_true,bC,BitVec.getLsbD_or,ih,hf,qF];simp;omega
  ·have hd:decide (n<k+1)=decide (n<k):=by
    rw [aBQ];simp;omega
   rw [hd]
   split
   ·simp only [bC,BitVec.getLsbD_or,ih,qF];have:¬ (k:Int)=(n:Int):=(by omega);simp [this]
   ·exact ih
end
def gK(x:Nat):Nat:=(x/2 &&& 6148914691236517205)+(x &&& 6148914691236517205)
def gJ(x:Nat):Nat:=(x/4 &&& 3689348814741910323)+(x &&& 3689348814741910323)
def gI(x:Nat):Nat:=(x/16+x) &&& 1085102592571150095
section
attribute [local go_sem] kA jZ jY jX cT iS aB1 qE
theorem aM6(a b:cF)(n:Nat):(bC a b).getLsbD n=(a.getLsbD n||b.getLsbD n):=by simp [bC]
end
theorem lz9{n:Nat}:n<=n:=aAB n
theorem bz9{w:World}{o:Obj}:Below w.heap.size w (w.alloc o):=(Below.refl w.heap.size w).alloc (aAB w.heap.size) o
def iA(l:List Int):List Value:=l.map (Value.int .i64)
theorem aZ9{l:List Int}{i:Nat}{x:Int}(h:l[i]?=some x):(iA l)[i]?=some (.I x):=by simp [iA,h]
theorem zE(a b:List Int):iA (a++b)=iA a++iA b:=by simp [iA]
structure Fr(S:Nat->Prop)(w w':World):Prop where
 os:w'.os=w.os
 tape:w'.tape=w.tape
 output:w'.output=w.output
 size:w.heap.size<=w'.heap.size
 block:∀ k,k<w.heap.size->¬ S k->w'.heap[k]?=w.heap[k]?
theorem Fr.refl(S:Nat->Prop)(w:World):Fr S w w:=⟨rfl,rfl,rfl,aAB _,fun _ _ _=>rfl⟩
theorem Fr.trans{S:Nat->Prop}{a b c:World}(h:Fr S a b)(k:Fr S b c):Fr S a c:=
 ⟨k.os.trans h.os,k.tape.trans h.tape,k.output.trans h.output,m9 h.size k.size,fun i hi hs=>(k.block i (o4 hi h.size) hs).trans (h.block i hi hs)⟩
theorem Fr.mono{S T:Nat->Prop}{a b:World}(h:Fr S a b)(hst:∀ k,S k->T k):Fr T a b:=⟨h.os,h.tape,h.output,h.size,fun i hi hs=>h.block i hi (fun q=>hs (hst i q))⟩
theorem Fr.below{S:Nat->Prop}{a b:World}{n:Nat}(h:Fr S a b)(hn:n<=a.heap.size)(hs:∀ k,S k->n<=k):Below n a b:=
 ⟨h.os,h.tape,h.output,h.size,fun i hi=>h.block i (o4 hi hn) (fun q=>by have:=hs i q;omega)⟩
theorem Fr.of_below{S:Nat->Prop}{a b:World}(h:Below a.heap.size a b):Fr S a b:=⟨h.os,h.tape,h.output,h.size,fun i hi _=>h.block i hi⟩
theorem Fr.alloc{S:Nat->Prop}{a w:World}(h:Fr S a w)(o:Obj):Fr S a (w.alloc o):=h.trans (Fr.of_below ((Below.refl _ _).alloc lz9 o))
theorem Fr.drew{S:Nat->Prop}{a w:World}(h:Fr S a w):Fr S a w.drew:=h.trans (Fr.of_below (Below.refl _ _).drew)
theorem Fr.setCell{S:Nat->Prop}{a w:World}(h:Fr S a w){p:Addr}(hp:S p.block)(u:Value):Fr S a (w.setCell p u):=
 h.trans ⟨rfl,rfl,rfl,by simp [World.setCell],fun k _ hk=>Below.heap_setCell _ _ _ _ (fun e=>hk (e ▸ hp))⟩
theorem Fr.setNew{S:Nat->Prop}{a w:World}(h:Fr S a w){p:Addr}(hp:a.heap.size<=p.block)(u:Value):Fr S a (w.setCell p u):=
 ⟨h.os,h.tape,h.output,by have:=h.size;simp [World.setCell];exact this,fun k hk hs=>(Below.heap_setCell _ _ _ _ (by omega)).trans (h.block k hk hs)⟩
theorem Fr.then{S:Nat->Prop}{a b c:World}(h:Fr S a b)(k:Below b.heap.size b c):Fr S a c:=h.trans (Fr.of_below k)
theorem Fr.grown{S:Nat->Prop}{a w w':World}{row:Option Nat}(h:Fr S a w)(hg:w.grownBy w' row)(hr:∀ k,row=some k->S k):Fr S a w':=
 h.trans ⟨hg.os,hg.tape,hg.output,hg.size,fun k hk hs=>hg.block k hk (fun e=>hs (hr k e.symm))⟩
theorem aB{w:World}{k:Nat}{o:Obj}(h:w.heap[k]?=some o):k<w.heap.size:=(aBJ.1 h).1
theorem aN{w:World}{k:Nat}{cur:Array Value}{t:TypeId}{fr:Nat×Nat}(h:w.heap[k]?=some (.cells cur t fr))(j:Nat)(v:Value):(w.setCell (aDr k j) v).heap[k]?=some (.cells (cur.setIfInBounds j v) t fr):=by
 simp [World.setCell,Array.getElem?_modify,h]
theorem bH{W:World}{x y:Nat}{c c':Array Value}{t t':TypeId}{f f':Nat×Nat}(h:W.heap[x]?=some (.cells c t f))(h':W.heap[y]?=some (.cells c' t' f'))(ht:t≠t'):x≠y:=fun e=>by
 rw [e,h'] at h;injection h with h;injection h with _ h _;exact ht h.symm
theorem aA{W:World}{wb:Nat}{c:Array Value}{t:TypeId}(h:W.heap[wb]?=some (.cells c t (0,0))){i:Nat}{v:Value}(hi:c[i]?=some v):W.cell? (aDr wb i)=some v:=by simp [World.cell?,h,hi]
theorem aG{W:World}{wb:Nat}{c:Array Value}{t:TypeId}(h:W.heap[wb]?=some (.cells c t (0,0)))(i:Nat):W.frozen? (aDr wb i)=false:=by simp [World.frozen?,h]
theorem aJ{n:Nat}{a b c:World}(h:Below n a b)(k:Below b.heap.size b c)(hn:n<=a.heap.size):Below n a c:=h.trans (k.mono (m9 hn h.size))
theorem bB{n:Nat}{a b c:World}{S:Nat->Prop}(h:Below n a b)(k:Fr S b c)(hn:n<=a.heap.size)(hs:∀ k,S k->n<=k):Below n a c:=h.trans (k.below (m9 hn h.size) hs)
theorem dM{α:Type}(l:List α)(k:Nat)(h:k<l.length):l.take (k+1)=l.take k++[l[k]]:=by simp
def Ext(W:World):Type:={ w:World // wBl W w }
theorem tO{P:Program}{id:Nat}{Q:Exit->Act->World->Prop}{a:Act}{w:World}{l:List Oper}(hm:P.follows .mixedOrders=true)(hB:Region.lexB .any l.toArray=true)
  (h:wpQuiet P l.toArray (fun w'=>∃ x:Ext w,w'=x.val) (fun a'=>∀ w',(∃ x:Ext w,w'=x.val)->Q .normal a' w') l a):(Code.region id l.toArray true).wp P Q a w:=
 wp_region_quiet (C:=fun w'=>∃ x:Ext w,w'=x.val) hm hB ⟨⟨w.drew,(Below.refl _ _).drew⟩,rfl⟩ (by simpa using h)
theorem wx9{P:Program}{id:Nat}{Q:Exit->Act->World->Prop}{a:Act}{w:World}{l:List Oper}(h:wpQuiet P l.toArray (fun w'=>∃ x:Ext w,w'=x.val) (fun a'=>∀ w',(∃ x:Ext w,w'=x.val)->Q .normal a' w') l a)(hm:P.follows .mixedOrders=true:=by kernel_rfl)(hB:Region.lexB .any l.toArray=true:=by kernel_rfl):(Code.region id l.toArray true).wp P Q a w:=tO hm hB h
theorem bP{P:Program}{f:FuncId}{args:Array Value}{W:World}{x:Ext W}{v:Value}
  (h:Calls P f args x.val fun e w'=>e=.returned v/\Below x.val.heap.size x.val w'):Calls P f args x.val fun e w''=>e=.returned v/\∃ y:Ext W,w''=y.val:=
 h.mono fun _ w' ⟨he,hb⟩=>⟨he,⟨w',x.2.trans (hb.mono x.2.size)⟩,rfl⟩
theorem eX{P:Program}{f:FuncId}{args:Array Value}{W:World}{x:Ext W}{v:Value}
  (h:Calls P f args x.val fun e w'=>e=.returned v/\w'=x.val):Calls P f args x.val fun e w''=>e=.returned v/\∃ y:Ext W,w''=y.val:=
 h.mono fun _ _ ⟨he,hb⟩=>⟨he,x,hb⟩
theorem aT{W:World}(x:Ext W)(b o:Nat)(h:b<W.heap.size):x.val.cell? (aDr b o)=W.cell? (aDr b o):=x.2.cell (p:=(aDr b o)) h
theorem pY{W:World}(x:Ext W):wBl W x.val:=x.2
theorem aP{W w1:World}(h:∃ x:Ext W,w1=x.val):wBl W w1:=by
 obtain⟨x,rfl⟩:=h;exact x.2
section
def fP(l:List Oper)(o:Oper):Bool:=
 (l.zipIdx.all fun x=>x.1.after.all (fun e=>decide (e.on<x.2))&&(match x.1.guard with | none=>true | some g=>decide (g.1<l.length))) &&
 o.guard.isNone&&o.after.all (fun e=>decide (e.on<l.length))&&(List.range l.length).all fun j=>o.after.any fun e=>Region.binds .any e&&e.on==j
section
variable {P:Program} {l:List Oper} {o:Oper} {Q:Exit->Act->World->Prop}
def Q1(P:Program)(l:List Oper)(o:Oper)(Q:Exit->Act->World->Prop):Exit->Act->World->Prop
 | .normal,a,w=>wpList P (l++[o]).toArray Q [o] a w
 | e,a,w=>Q e a w
theorem aE4{j:Nat}(h:j<l.length):(l++[o]).toArray[j]?=l.toArray[j]?:=by
 simp [List.getElem?_append_left h]
theorem sL:(l++[o]).toArray[l.length]?=some o:=by simp
theorem kG(h:fP l o=true){j:Nat}{x:Oper}(hx:l.toArray[j]?=some x):(∀ e∈x.after,e.on<j)/\∀ g b,x.guard=some (g,b)->g<l.length:=by
 unfold fP at h;simp only [aAY,List.all_eq_true] at h;have hm:(x,j)∈l.zipIdx:=by
  rw [List.mem_zipIdx_iff_getElem?];simpa using hx
 have:=h.1.1.1 (x,j) hm;refine⟨fun e he=>?_,fun g b hg=>?_⟩
 ·have h1:=this.1;rw [Array.all_eq_true_iff_forall_mem] at h1;simpa using h1 e he
 ·have h2:=this.2;simp only [hg] at h2;simpa using h2
theorem zB(h:fP l o=true):o.guard=none:=by
 unfold fP at h;simp only [aAY] at h;simpa using h.1.1.2
theorem aZ5(h:fP l o=true):∀ e∈o.after,e.on<l.length:=by
 unfold fP at h;simp only [aAY] at h;have h1:=h.1.2;rw [Array.all_eq_true_iff_forall_mem] at h1;intro e he;simpa using h1 e he
theorem aQ4(h:fP l o=true){j:Nat}(hj:j<l.length):∃ e∈o.after,Region.binds .any e=true/\e.on=j:=by
 unfold fP at h;simp only [aAY,List.all_eq_true] at h;have:=h.2 j (by simpa using hj);rw [<- Array.any_toList,List.any_eq_true] at this;obtain⟨e,he,hb⟩:=this;simp at hb;exact⟨e,by simpa using he,hb.1,hb.2⟩
theorem iD{listed:Array Bool}{j:Nat}(d:Bool)(hj:j<listed.size):(listed.push false).getD j d=listed.getD j d:=by
 simp [Array.getD_eq_getD_getElem?,Array.getElem?_push,Nat.ne_of_lt hj]
theorem wP{listed:Array Bool}(d:Bool):(listed.push false).getD listed.size d=false:=by
 simp [Array.getD_eq_getD_getElem?]
theorem sF(h:fP l o=true){listed:Array Bool}(hs:listed.size=l.length){j:Nat}(hj:j<l.length) :
  j∈Region.ready .any (l++[o]).toArray (listed.push false)↔j∈Region.ready .any l.toArray listed:=by
 rw [mem_ready,mem_ready,aE4 hj,iD _ (by omega)];refine and_congr_right fun _=>exists_congr fun x=>and_congr_right fun hx=>?_;have he:=(kG h hx).1;refine forall_congr' fun e=>forall_congr' fun hm=>forall_congr' fun _=>?_;have:=he e hm;rw [iD _ (by omega)]
theorem tD(h:fP l o=true){listed:Array Bool}(hs:listed.size=l.length)(hr:Region.ready .any l.toArray listed=[]) :
  ∀ j,j<l.length->listed.getD j false=true:=by
 intro j
 induction j using Nat.strongRecOn with
 | _ j ih=>
  intro hj;have hx:l.toArray[j]?=some l[j]:=by simp [hj]
  have hn:¬ j∈Region.ready .any l.toArray listed:=by rw [hr];simp
  rw [mem_ready] at hn;have hge:listed.getD j true=true:=by
   rcases hb:listed.getD j true with _ | _
   ·exact absurd ⟨hb,_,hx,fun e he _=>ih e.on ((kG h hx).1 e he) (by have:=(kG h hx).1 e he;omega)⟩ hn
   ·rfl
  have hlt:j<listed.size:=by omega
  simpa [Array.getD_eq_getD_getElem?,hlt] using hge
theorem sP(h:fP l o=true){listed:Array Bool}(hs:listed.size=l.length)(hr:Region.ready .any l.toArray listed=[]) :
  l.length∈Region.ready .any (l++[o]).toArray (listed.push false):=by
 rw [mem_ready];refine⟨by rw [<- hs];exact wP _,o,sL,fun e he _=>?_⟩;have:=aZ5 h e he;rw [iD _ (by omega)];exact tD h hs hr _ this
theorem tT(h:fP l o=true){listed:Array Bool}(hs:listed.size=l.length)
  (hl:l.length∈Region.ready .any (l++[o]).toArray (listed.push false)):Region.ready .any l.toArray listed=[]:=by
 rw [mem_ready] at hl;obtain⟨_,x,hx,ha⟩:=hl;rw [sL] at hx;cases hx;rw [List.eq_nil_iff_forall_not_mem];intro j hj;rw [mem_ready] at hj;obtain⟨hu,x,hx,_⟩:=hj;have hlt:j<l.length:=by
  have:=(aBJ.1 hx).1;simpa using this
 obtain⟨e,he,hb,rfl⟩:=aQ4 h hlt;have:=ha e he hb;rw [iD _ (by omega)] at this;have hlt':e.on<listed.size:=by omega
 simp [Array.getD_eq_getD_getElem?,hlt'] at this hu;rw [this] at hu;cases hu
theorem uR(h:fP l o=true){listed:Array Bool}(hs:listed.size=l.length)(hr:Region.ready .any l.toArray listed=[]) :
  Region.ready .any (l++[o]).toArray ((listed.push false).setIfInBounds l.length true)=[]:=by
 rw [List.eq_nil_iff_forall_not_mem];intro j hj;rw [mem_ready] at hj;obtain⟨hu,x,hx,_⟩:=hj;have hlt:j<l.length+1:=by
  have:=(aBJ.1 hx).1;simpa using this
 by_cases e:j=l.length
 ·subst e;simp [Array.getD_eq_getD_getElem?,hs] at hu
 ·have hj':j<l.length:=by omega
  have:=tD h hs hr j hj';have hlt':j<listed.size:=by omega
  have hne:¬ l.length=j:=fun h=>e h.symm;simp [Array.getD_eq_getD_getElem?,hne,Array.getElem?_push,Nat.ne_of_lt hlt',hlt'] at this hu;rw [this] at hu;cases hu
theorem aM8(h:fP l o=true){j:Nat}{x:Oper}(hx:l.toArray[j]?=some x)(tmps:Array Value) :
  Region.wanted x (yielded (l++[o]).toArray tmps)=Region.wanted x (yielded l.toArray tmps):=by
 unfold Region.wanted
 cases hg:x.guard with
 | none=>rfl
 | some g=>
  obtain⟨g,b⟩:=g;have:=(kG h hx).2 g b hg;simp only [yielded,aE4 this]
theorem Oper.wp_q1{x:Oper}{a:Act}{w:World}{K K':Act->World->Prop}(hK:∀ a w,K a w->K' a w)(hh:x.wp P a w K (Q1 P l o Q)):x.wp P a w K' Q:=by
 unfold Oper.wp at *;generalize (execOp a.eval x).run P w=r at *
 cases r with
 | ok n w'=>
  cases n <;> simp only [Oper.upon] at hh ⊢ <;>
   first
    | exact hK _ _ hh
    | exact Calls.mono hh (fun e w'' he=>by cases e <;> first | exact hK _ _ he | exact he)
    | exact Rows.mono hh (fun _ _ he=>hK _ _ he)
 | halt x w'=>cases x <;> simp only [Oper.upon] at hh ⊢ <;> exact hh
theorem bF2(h:fP l o=true){i:Nat}(hi:i<l.length){a:Act}{w:World}{K K':Act->World->Prop}(hK:∀ a w,K a w->K' a w)
  (hh:wpOp P l.toArray (Q1 P l o Q) i K a w):wpOp P (l++[o]).toArray Q i K' a w:=by
 unfold wpOp at *;rw [aE4 hi];have hx:l.toArray[i]?=some l[i]:=by simp [hi]
 simp only [hx] at hh ⊢;rw [aM8 h hx]
 split
 ·rename_i hw
  rw [if_pos hw] at hh;exact hh.imp (Oper.wp_q1 hK) (fun g=>⟨g.1,g.2⟩)
 ·rename_i hw
  rw [if_neg hw] at hh;exact hK _ _ hh
theorem uG(h:fP l o=true){a:Act}{w:World}{K:Act->World->Prop}(hK:∀ a w,Q .normal a w->K a w)(hh:Q1 P l o Q .normal a w) :
  wpOp P (l++[o]).toArray Q l.length K a w:=by
 unfold wpOp;rw [sL];have hw:∀ y,Region.wanted o y=true:=fun y=>by unfold Region.wanted;rw [zB h]
 have hh':wpList P (l++[o]).toArray Q [o] a w:=hh;unfold wpList at hh';rw [if_pos (hw _)] at hh';simp only [hw,if_true];exact hh'.imp (Oper.wp_mono hK) id
theorem aX2{listed:Array Bool}{i:Nat}(hi:i<listed.size):(listed.setIfInBounds i true).push false=(listed.push false).setIfInBounds i true:=by
 apply Array.ext';simp [List.set_append_left _ _ (show i<listed.toList.length by simpa using hi)]
theorem aB3(h:fP l o=true):∀ (fuel:Nat) (listed:Array Bool) (a:Act) (w:World),listed.size=l.length ->
  wpAny P .any l.toArray (Q1 P l o Q) fuel listed a w->wpAny P .any (l++[o]).toArray Q (fuel+1) (listed.push false) a w:=by
 intro fuel
 induction fuel with
 | zero=>
  rintro listed a w hs ⟨hr,hq⟩;refine⟨fun h0=>?_,fun i hi=>?_⟩
  ·have:=sP h hs hr;rw [h0] at this;cases this
  ·by_cases e:i=l.length
   ·subst e;exact uG h (fun a w hq=>⟨uR h hs hr,hq⟩) hq
   ·have hlt:i<l.length:=by
     rw [mem_ready] at hi;obtain⟨_,x,hx,_⟩:=hi;have:=(aBJ.1 hx).1;simp at this;omega
    rw [sF h hs hlt,hr] at hi;cases hi
 | succ fuel ih=>
  rintro listed a w hs ⟨hq,hall⟩;refine⟨fun h0=>?_,fun i hi=>?_⟩
  ·by_cases hr:Region.ready .any l.toArray listed=[]
   ·have:=sP h hs hr;rw [h0] at this;cases this
   ·obtain⟨j,hj⟩:=List.exists_mem_of_ne_nil _ hr;have hlt:j<l.length:=by
     rw [mem_ready] at hj;obtain⟨_,x,hx,_⟩:=hj;have:=(aBJ.1 hx).1;simpa using this
    rw [<- sF h hs hlt,h0] at hj;cases hj
  ·by_cases e:i=l.length
   ·subst e;have hr:=tT h hs hi;exact uG h (fun a w hq=>⟨fun _=>hq,fun j hj=>by rw [uR h hs hr] at hj;cases hj⟩) (hq hr)
   ·have hlt:i<l.length:=by
     rw [mem_ready] at hi;obtain⟨_,x,hx,_⟩:=hi;have:=(aBJ.1 hx).1;simp at this;omega
    have hi':=(sF h hs hlt).1 hi;refine bF2 h hlt (fun a' w' hw=>?_) (hall i hi');have:=ih (listed.setIfInBounds i true) a' w' (by simpa using hs) hw;rwa [aX2 (by omega)] at this
theorem rO{id:Nat}{a:Act}{w:World}(hm:P.follows .mixedOrders=true)(hB:Region.lexB .any l.toArray=true)(hl:fP l o=true)
  (h:wpQuiet P l.toArray (fun w'=>∃ x:Ext w,w'=x.val) (fun a'=>∀ w',(∃ x:Ext w,w'=x.val)->wpList P (l++[o]).toArray Q [o] a' w') l a):(Code.region id (l++[o]).toArray true).wp P Q a w:=by
 simp only [Region.lexB,aAY] at hB;refine wp_region_any hm ?_;have h1:=wpAnyQ_lex (C:=fun w'=>∃ x:Ext w,w'=x.val) (md:=.any) hB.1 l 0 (Array.replicate l.length false) a (by simp) (by simpa using hB.2) h;have h2:=wpAny_of_quiet (Q':=Q1 P l o Q) (fun _ w' hw' h=>h w' hw') _ _ _ { w with drawn:=w.drawn+1 } ⟨⟨w.drew,(Below.refl _ _).drew⟩,rfl⟩ h1;have h3:=aB3 hl _ _ _ _ (by simp) h2;have e:(Array.replicate l.length false).push false=Array.replicate (l++[o]).toArray.size false:=by simp [Array.replicate_succ]
 rw [e] at h3;simpa using h3
end
theorem aV{P:Program}{Q:Exit->Act->World->Prop}{id:Nat}{a:Act}{w:World}{L:List Oper}(hne:L≠[])(hm:P.follows .mixedOrders=true)(hB:Region.lexB .any L.dropLast.toArray=true)(hl:fP L.dropLast (L.getLast hne)=true)
  (h:wpQuiet P L.dropLast.toArray (fun w'=>∃ x:Ext w,w'=x.val) (fun a'=>∀ w',(∃ x:Ext w,w'=x.val)->wpList P L.toArray Q [L.getLast hne] a' w') L.dropLast a):(Code.region id L.toArray true).wp P Q a w:=by
 have e:L.dropLast++[L.getLast hne]=L:=List.dropLast_concat_getLast hne;have:=rO (P:=P) (Q:=Q) (id:=id) (a:=a) (w:=w) (l:=L.dropLast) (o:=L.getLast hne) hm hB hl (by rw [e];exact h);rwa [e] at this
end
section
open Go
def unr(P:Program)(c:Code)(Q:Exit->Act->World->Prop):Nat->Act->World->Prop
 | 0,_,_=>False
 | n+1,a,w=>c.wp P (Exit.then (unr P c Q n) Q) a w
theorem jD{P:Program}{c:Code}{Q:Exit->Act->World->Prop}{n:Nat}{a:Act}{w:World}
  (h:c.wp P (Exit.then (unr P c Q n) Q) a w):unr P c Q (n+1) a w:=h
theorem aZ0{p:Nat->Prop}:∀ n,p n->∃ m,p m/\∀ k,p k->m<=k:=by
 intro n
 induction n using Nat.strongRecOn with
 | _ n ih=>
  intro h;by_cases g:∃ k,k<n/\p k
  ·obtain⟨k,hk,hp⟩:=g;exact ih k hk hp
  ·exact⟨n,h,fun k hk=>Nat.le_of_not_lt fun hlt=>g ⟨k,hlt,hk⟩⟩
open Classical in
noncomputable def oM (p:Nat->Prop):Nat:=if h:∃ m,p m/\∀ k,p k->m<=k then Classical.choose h else 0
theorem oL{p:Nat->Prop}{n:Nat}(h:p n):p (oM p)/\∀ k,p k->oM p<=k:=by
 have g:=aZ0 n h;unfold oM;rw [dif_pos g];exact Classical.choose_spec g
theorem xS{P:Program}{c:Code}{Q:Exit->Act->World->Prop}(n:Nat){a:Act}{w:World}
  (h:unr P c Q n a w):(Code.loop c).wp P Q a w:=by
 refine wp_loop (fun a w=>∃ n,unr P c Q n a w) (fun a w=>oM fun n=>unr P c Q n a w) ⟨n,h⟩ ?_;rintro a w ⟨n,hn⟩;obtain⟨hs,-⟩:=oL (p:=fun n=>unr P c Q n a w) hn;generalize oM (fun n=>unr P c Q n a w)=m at hs
 cases m with
 | zero=>exact hs.elim
 | succ m=>
  refine wp_mono (show c.wp P (Exit.then (unr P c Q m) Q) a w from hs) ?_;intro e a' w' he
  cases e with
  | normal=>exact⟨⟨m,he⟩,Nat.lt_succ_of_le ((oL (p:=fun n=>unr P c Q n a' w') (n:=m) he).2 m he)⟩
  | exit id=>exact he
  | goto l=>exact he
  | ret=>exact he
  | panic ch=>exact he
  | outgrown=>exact he
end
section
open Go Go.ChangeShapes Go.WideShapes Go.ChangeAt Go.RowKit
theorem own:ownKnob Tryz.prog.godebug=none:=by kernel_rfl
theorem aJ9:laidOutB Tryz.prog=true:=by kernel_rfl
theorem jT:Tryz.prog.cellsOf 3=1:=by kernel_rfl
def ArgI(W:World)(v:Value)(zs:List Int):Prop:=
 (∃ p cap,v=.slice p 0 cap/\zs=[])\/∃ g off cap,v=.slice (some (aDr g off)) zs.length cap/\g<W.heap.size/\zs.length<=cap/\cap<=maxLen/\∀ (i:Nat) (x:Int),zs[i]?=some x->W.cell? ⟨g,off+i,none⟩=some (.I x)
end
theorem jH:(Tryz.prog.info? 3).map (fun i=>(i.zero,i.size,i.bytes))=some (some (.I 0),1,8):=by kernel_rfl
theorem jE:Tryz.prog.underlying 44=some (.slice 3):=by kernel_rfl
theorem aW{P:Program}{t:TypeId}{z:Value}{s b:Nat}(h:(P.info? t).map (fun i=>(i.zero,i.size,i.bytes))=some (some z,s,b)):∃ i,P.info? t=some i/\i.zero=some z/\i.size=s/\i.bytes=b:=by
 cases hi:P.info? t with
 | none=>rw [hi] at h;cases h
 | some i=>
  rw [hi] at h;simp at h;exact⟨i,rfl,h.1,h.2.1,h.2.2⟩
theorem aH{S:Nat->Prop}{w w':World}{base:Nat}{t:TypeId}{size n:Nat}{v:Value}{xs:List Value}(h:w.ownsRow base t size v n xs)(hf:Fr S w w')(hs:∀ k,v.ownBlock=some k->¬ S k):w'.ownsRow base t size v n xs:=by
 obtain⟨h1,h2 | ⟨g,cap,cur,q1,q2,q3,q4⟩⟩:=h
 ·exact⟨h1,.inl h2⟩
 ·exact⟨h1,.inr ⟨g,cap,cur,q1,q2,(hf.block _ (aB q3) (hs g (by rw [q1];rfl))).trans q3,q4⟩⟩
theorem bE{w:World}{base base':Nat}{t:TypeId}{size n:Nat}{v:Value}{xs:List Value}(h:w.ownsRow base t size v n xs)(hb:base'<=base):w.ownsRow base' t size v n xs:=by
 obtain⟨h1,h2 | ⟨g',cap',cur,q1,q2,q4⟩⟩:=h
 ·exact⟨h1,.inl h2⟩
 ·exact⟨h1,.inr ⟨g',cap',cur,q1,m9 hb q2,q4⟩⟩
theorem aR{w:World}{base:Nat}{e:TypeId}{size n:Nat}{v:Value}{xs:List Value}(h:w.ownsRow base e size v n xs):∃ q c,v=.slice q n c:=by
 rcases h.2 with⟨rfl,rfl⟩ | ⟨g,cap,cur,rfl,_⟩
 ·exact⟨_,_,rfl⟩
 ·exact⟨_,_,rfl⟩
theorem aF{w:World}{base:Nat}{e:TypeId}{size n:Nat}{v:Value}{xs:List Value}(h:w.ownsRow base e size v n xs){g:Nat}(hg:v.ownBlock=some g):base<=g/\g<w.heap.size/\∃ cur,w.heap[g]?=some (.cells cur e (0,0)):=by
 rcases h.2 with⟨rfl,rfl⟩ | ⟨g',cap,cur,rfl,h1,h2,_⟩
 ·cases hg
 ·cases hg;exact⟨h1,aB h2,cur,h2⟩
theorem aO{w:World}{base:Nat}{e t:TypeId}{size n:Nat}{v:Value}{xs:List Value}(h:w.ownsRow base e size v n xs){b:Nat}{cs:Array Value}(hb:w.heap[b]?=some (.cells cs t (0,0)))(ht:t≠e):v.ownBlock≠some b:=fun q=>by
 obtain⟨_,_,cur,hc⟩:=aF h q;exact bH hb hc ht rfl
theorem aM{w:World}{base:Nat}{e:TypeId}{size n g c:Nat}{xs:List Value}(h:w.ownsRow base e size (.slice (some (aDr g 0)) n c) n xs){j:Nat}{u:Value}(hj:xs[j]?=some u):w.cell? (aDr g j)=some u:=by
 rcases h.2 with⟨q,_⟩ | ⟨g',cap,cur,q1,_,q3,_,_,q6,q7⟩
 ·cases q
 ·cases q1;have:cur[j]?=some u:=by
   rw [<- q7,List.getElem?_take] at hj
   split at hj
   ·simpa using hj
   ·cases hj
  simp [World.cell?,q3,this]
theorem yO{w:World}{base:Nat}{e:TypeId}{size n:Nat}{v:Value}{xs:List Value}(h:w.ownsRow base e size v n xs):n<=maxLen:=by
 rcases h.2 with⟨_,q⟩ | ⟨g,cap,cur,q,_,_,hc,hm,_⟩
 ·omega
 ·omega
theorem aL{w:World}{base:Nat}{e:TypeId}{size n:Nat}{v:Value}{xs:List Value}(h:w.ownsRow base e size v n xs)(hn:0<n):∃ g c,v=.slice (some (aDr g 0)) n c:=by
 rcases h.2 with⟨_,q⟩ | ⟨g,cap,cur,rfl,_⟩
 ·omega
 ·exact⟨_,_,rfl⟩
def moved(v v':Value)(n:Nat):Prop:=v'.ownBlock=v.ownBlock\/v'.ownBlock=none\/∃ g,n<=g/\v'.ownBlock=some g
theorem moved.refl(v:Value)(n:Nat):moved v v n:=.inl rfl
theorem moved.trans{v v' v'':Value}{n m:Nat}(h:moved v v' n)(k:moved v' v'' m)(hm:n<=m):moved v v'' n:=by
 rcases k with k | k | ⟨g,k1,k2⟩
 ·rcases h with h | h | ⟨g,h1,h2⟩
  ·exact .inl (k.trans h)
  ·exact .inr (.inl (k.trans h))
  ·exact .inr (.inr ⟨g,h1,k.trans h2⟩)
 ·exact .inr (.inl k)
 ·exact .inr (.inr ⟨g,by omega,k2⟩)
theorem oH{v v':Value}{n k:Nat}(h:moved v v' n)(hk:k<n)(hv:v'.ownBlock=some k):v.ownBlock=some k:=by
 rcases h with h | h | ⟨g,h1,h2⟩
 ·exact h ▸ hv
 ·rw [h] at hv;cases hv
 ·rw [h2] at hv;cases hv;omega
theorem aY{P:Program}{ops:Array Oper}{o:Oper}{a:Act}{w:World}{K:Act->World->Prop}{Q:Exit->Act->World->Prop}{E:Prop}(hgd:o.guard=none)(s x:Operand)(t:TypeId)
  (ho:o.op=.call { callee:=.builtin .append,args:=#[s,x],argTypes:=#[t,t] })
  (base:Nat) (e:TypeId) (i:TypeInfo) (z:Value) (size bytes:Nat) (ht:P.underlying t=some (.slice e)) (hi:P.info? e=some i) (hz:i.zero=some z)
  (hsize:i.size=size) (hby:i.bytes=bytes) (hzs:z.cells.size=size) (hsz:0<size)
  (v:Value) (n:Nat) (xs:List Value) (hs:a.eval s=v) (hown:w.ownsRow base e size v n xs)
  (ad:Addr) (m c:Nat) (news:List Value) (hx:a.eval x=.slice (some ad) m c) (hl:news.length=m*size) (hnews:∀ j u,news[j]?=some u->w.cell? (ad.add j)=some u) (h1:∀ u∈news,u.oneCell'=true)
  (h63:n+m<=maxLen) (hbytes:(n+m)*bytes<=140737488355328) (hbase:base<=w.heap.size)
  (h:∀ v' w',w'.ownsRow base e size v' (n+m) (xs++news)->w.grownBy w' v.ownBlock->(v'.ownBlock=v.ownBlock\/v'.ownBlock=some w.heap.size)->K (a.put o.dst v') w') :
  if Region.wanted o (yielded ops a.tmps)=true then Oper.wp P o a w K Q else E:=by
 have hw:Region.wanted o (yielded ops a.tmps)=true:=by simp [Region.wanted,hgd]
 rw [if_pos hw];obtain⟨v',w',hrun,h2,h3,_,h5⟩:=run_append_own_at (P:=P) w base t o.type e i z size bytes ht hi hz hsize hby hzs hsz v n xs hown ad m c news hl hnews h1 h63 hbytes hbase;unfold Oper.wp;simp [execOp,ho,resolve,invoke,builtin,hs,hx,hrun,Result.andThen];exact h v' w' h2 h3 h5
theorem kT(W:World)(a b:Value)(t:TypeId):∀ (j:Nat) (u:Value),[a,b][j]?=some u->(W.alloc (.cells #[a,b] t)).cell? (((aDr W.heap.size 0):Addr).add j)=some u:=by
 intro j u h
 match j,h with
 | 0,h=>simp at h;subst h;simp [Addr.add]
 | 1,h=>simp at h;subst h;simp [Addr.add]
theorem aE(w:World)(o:Obj):(w.alloc o).heap[w.heap.size]?=some o:=by unfold World.alloc;simp
def In(L:lIi)(c:Int):Prop:=∃ r∈L,r.1<=c/\c<=r.2
structure Cls(L:lIi):Prop where
 some:∀ r∈L,r.1<=r.2
 apart:L.Pairwise (fun a b=>a.2+1<b.1)
theorem gV(c:Int):¬ In [] c:=fun⟨_,h,_⟩=>by cases h
theorem cD(r:Int×Int)(L:lIi)(c:Int):In (r :: L) c↔(r.1<=c/\c<=r.2)\/In L c:=by
 simp [In]
theorem bV(A B:lIi)(c:Int):In (A++B) c↔In A c\/In B c:=by
 constructor
 ·rintro ⟨r,h,q⟩;rcases o5.1 h with h | h
  ·exact .inl ⟨r,h,q⟩
  ·exact .inr ⟨r,h,q⟩
 ·rintro (⟨r,h,q⟩ | ⟨r,h,q⟩)
  ·exact⟨r,o5.2 (.inl h),q⟩
  ·exact⟨r,o5.2 (.inr h),q⟩
theorem eE(r:Int×Int)(c:Int):In [r] c↔r.1<=c/\c<=r.2:=by simp [In]
theorem aL1:Cls []:=⟨fun _ h=>(by cases h),List.Pairwise.nil⟩
theorem lT{r:Int×Int}{L:lIi}(h:Cls (r :: L)):Cls L:=⟨fun x hx=>h.some x (t7 _ hx),(aBD.1 h.apart).2⟩
theorem fT{r:Int×Int}{L:lIi}(h:Cls (r :: L)):r.1<=r.2:=h.some r t5
theorem lU{r x:Int×Int}{L:lIi}(h:Cls (r :: L))(hx:x∈L):r.2+1<x.1:=(aBD.1 h.apart).1 x hx
theorem eC{r:Int×Int}{L:lIi}(h:Cls (r :: L)){c:Int}(hc:In L c):r.2+1<c:=by
 obtain⟨x,hx,h1,h2⟩:=hc;have:=lU h hx;omega
theorem sV:∀ (A B:lIi),Cls A->Cls B->(∀ c,In A c↔In B c)->A=B
 | [],[],_,_,_=>rfl
 | [],b :: B,_,hB,h=>absurd ((h b.1).2 ⟨b,t5,aAK _,fT hB⟩) (gV _)
 | a :: A,[],hA,_,h=>absurd ((h a.1).1 ⟨a,t5,aAK _,fT hA⟩) (gV _)
 | a :: A,b :: B,hA,hB,h=>by
  have ha:=fT hA;have hb:=fT hB;have h1:a.1=b.1:=by
   have p:=(h a.1).1 ((cD ..).2 (.inl ⟨aAK _,ha⟩));have q:=(h b.1).2 ((cD ..).2 (.inl ⟨aAK _,hb⟩));rcases (cD ..).1 p with p | p
   ·rcases (cD ..).1 q with q | q
    ·omega
    ·have:=eC hA q;omega
   ·have:=eC hB p;rcases (cD ..).1 q with q | q
    ·omega
    ·have:=eC hA q;omega
  have h2:a.2=b.2:=by
   rcases Int.lt_trichotomy a.2 b.2 with q | q | q
   ·have p:=(h (a.2+1)).2 ((cD ..).2 (.inl ⟨by omega,by omega⟩));rcases (cD ..).1 p with p | p
    ·omega
    ·have:=eC hA p;omega
   ·exact q
   ·have p:=(h (b.2+1)).1 ((cD ..).2 (.inl ⟨by omega,by omega⟩));rcases (cD ..).1 p with p | p
    ·omega
    ·have:=eC hB p;omega
  have e:a=b:=Prod.ext h1 h2;subst e;rw [sV A B (lT hA) (lT hB) fun c=>?_];constructor
  ·intro p;have:=eC hA p;rcases (cD ..).1 ((h c).1 ((cD ..).2 (.inr p))) with q | q
   ·omega
   ·exact q
  ·intro p;have:=eC hB p;rcases (cD ..).1 ((h c).2 ((cD ..).2 (.inr p))) with q | q
   ·omega
   ·exact q
def cA(C:lIi)(r:Int×Int):lIi:=
 if r.2<r.1 then C else
  match C.getLast? with
  | none=>[r]
  | some x=>if x.2+1<r.1 then C++[r] else C.dropLast++[(x.1,max x.2 r.2)]
theorem kQ{C:lIi}{r:Int×Int}(h:r.2<r.1):cA C r=C:=if_pos h
theorem lW{r:Int×Int}(h:¬ r.2<r.1):cA [] r=[r]:=by unfold cA;rw [if_neg h];rfl
theorem lY{C:lIi}{x r:Int×Int}(h:¬ r.2<r.1)(hf:x.2+1<r.1):cA (C++[x]) r=C++[x]++[r]:=by
 unfold cA;rw [if_neg h];simp [hf]
theorem jV{C:lIi}{x r:Int×Int}(h:¬ r.2<r.1)(hf:¬ x.2+1<r.1):cA (C++[x]) r=C++[(x.1,max x.2 r.2)]:=by
 unfold cA;rw [if_neg h];simp [hf]
theorem iO{α:Type}(C:List α):C=[]\/∃ D x,C=D++[x]:=by
 rcases List.eq_nil_or_concat C with h | ⟨D,x,h⟩
 ·exact .inl h
 ·exact .inr ⟨D,x,by rw [h,List.concat_eq_append]⟩
theorem sW{A:lIi}{r:Int×Int}(hA:Cls A)(hr:r.1<=r.2)(h:∀ x∈A,x.2+1<r.1):Cls (A++[r]):=
 ⟨fun x hx=>by
  rcases o5.1 hx with q | q
  ·exact hA.some x q
  ·simp at q;subst q;exact hr,
  List.pairwise_append.2 ⟨hA.apart,List.pairwise_singleton _ _,fun x hx y hy=>by simp at hy;subst hy;exact h x hx⟩⟩
theorem bC8{A:lIi}{x:Int×Int}(h:Cls (A++[x])):Cls A/\x.1<=x.2/\∀ y∈A,y.2+1<x.1:=
 ⟨⟨fun y hy=>h.some y (o5.2 (.inl hy)),(List.pairwise_append.1 h.apart).1⟩,h.some x (by simp),fun y hy=>(List.pairwise_append.1 h.apart).2.2 y hy x (by simp)⟩
theorem vC{C:lIi}{r:Int×Int}(hC:Cls C)(hl:r.1<=r.2->∀ x∈C,x.1<=r.1) :
  Cls (cA C r)/\(∀ c,In (cA C r) c↔In C c\/(r.1<=c/\c<=r.2))/\(∀ m,(r.1<=r.2->r.1<=m)->(∀ x∈C,x.1<=m)->∀ x∈cA C r,x.1<=m):=by
 by_cases h:r.2<r.1
 ·rw [kQ h];exact⟨hC,fun c=>⟨.inl,fun q=>q.elim id fun q=>by omega⟩,fun m _ q=>q⟩
 ·have hr:r.1<=r.2:=by omega
  have hl:=hl hr;rcases iO C with rfl | ⟨D,x,rfl⟩
  ·rw [lW h];refine⟨⟨fun y hy=>by simp at hy;subst hy;exact hr,List.pairwise_singleton _ _⟩,fun c=>?_,fun m hm _ y hy=>by simp at hy;subst hy;exact hm hr⟩;rw [eE];exact⟨.inr,fun q=>q.elim (fun q=>absurd q (gV _)) id⟩
  ·obtain⟨hD,hx,hDx⟩:=bC8 hC;have hxr:=hl x (by simp);by_cases hf:x.2+1<r.1
   ·rw [lY h hf];refine⟨sW hC hr fun y hy=>?_,fun c=>by rw [bV,eE],fun m hm q y hy=>?_⟩
    ·rcases o5.1 hy with q | q
     ·have:=hDx y q;omega
     ·simp at q;subst q;exact hf
    ·rcases o5.1 hy with p | p
     ·exact q y p
     ·simp at p;subst p;exact hm hr
   ·rw [jV h hf];refine⟨sW hD (by simp only;omega) hDx,fun c=>?_,fun m hm q y hy=>?_⟩
    ·rw [bV,bV,eE,eE];constructor
     ·rintro (p | ⟨p1,p2⟩)
      ·exact .inl (.inl p)
      ·simp only at p1 p2;by_cases hc:c<=x.2
       ·exact .inl (.inr ⟨p1,hc⟩)
       ·exact .inr ⟨by omega,by omega⟩
     ·rintro ((p | ⟨p1,p2⟩) | ⟨p1,p2⟩)
      ·exact .inl p
      ·exact .inr ⟨p1,by simp only;omega⟩
      ·exact .inr ⟨by simp only;omega,by simp only;omega⟩
    ·rcases o5.1 hy with p | p
     ·exact q y (o5.2 (.inl p))
     ·simp at p;subst p;exact q x (by simp)
def Fit(L:lIi):Prop:=∀ r∈L,(-9223372036854775808<=r.1/\r.1<=9223372036854775807)/\(-9223372036854775808<=r.2/\r.2<=9223372036854775807)
theorem kJ:Fit []:=fun _ h=>by cases h
theorem dU{A B:lIi}(hA:Fit A)(hB:Fit B):Fit (A++B):=fun r hr=>(o5.1 hr).elim (hA r) (hB r)
theorem oX{a b:Int}(h:(-9223372036854775808<=a/\a<=9223372036854775807)/\(-9223372036854775808<=b/\b<=9223372036854775807)):Fit [(a,b)]:=fun r hr=>by simp at hr;subst hr;exact h
theorem fR{A B:lIi}(hA:Fit A)(h:∀ x∈B,x∈A):Fit B:=fun r hr=>hA r (h r hr)
theorem zK{C:lIi}{r:Int×Int}(hC:Fit C)(hr:Fit [r]):Fit (cA C r):=by
 have q:=hr r (by simp);by_cases h:r.2<r.1
 ·rw [kQ h];exact hC
 ·rcases iO C with rfl | ⟨D,x,rfl⟩
  ·rw [lW h];exact hr
  ·have hx:=hC x (by simp);by_cases hf:x.2+1<r.1
   ·rw [lY h hf];exact dU hC hr
   ·rw [jV h hf];exact dU (fR hC fun y hy=>o5.2 (.inl hy)) (oX ⟨hx.1,by omega,by omega⟩)
theorem lX(C:lIi)(r:Int×Int):(cA C r).length<=C.length+1:=by
 by_cases h:r.2<r.1
 ·rw [kQ h];omega
 ·rcases iO C with rfl | ⟨D,x,rfl⟩
  ·rw [lW h];simp
  ·by_cases hf:x.2+1<r.1
   ·rw [lY h hf];simp
   ·rw [jV h hf];simp
theorem bK1{A B:lIi}(h:A.Perm B)(c:Int):In A c↔In B c:=
 ⟨fun⟨r,q,p⟩=>⟨r,h.mem_iff.1 q,p⟩,fun⟨r,q,p⟩=>⟨r,h.mem_iff.2 q,p⟩⟩
theorem aS5{a b:Int×Int}{A B:lIi}(hb:Cls (b :: B))(h:a.2<b.2)(c:Int) :
  (In (a :: A) c/\In (b :: B) c)↔(max a.1 b.1<=c/\c<=min a.2 b.2)\/(In A c/\In (b :: B) c):=by
 rw [cD,cD];constructor
 ·rintro ⟨p | p,q | q⟩
  ·exact .inl ⟨by omega,by omega⟩
  ·have:=eC hb q;omega
  ·exact .inr ⟨p,.inl q⟩
  ·exact .inr ⟨p,.inr q⟩
 ·rintro (⟨p,q⟩ | ⟨p,q⟩)
  ·exact⟨.inl ⟨by omega,by omega⟩,.inl ⟨by omega,by omega⟩⟩
  ·exact⟨.inr p,q⟩
theorem aG0{a b:Int×Int}{A B:lIi}(ha:Cls (a :: A))(h:b.2<=a.2)(c:Int) :
  (In (a :: A) c/\In (b :: B) c)↔(max a.1 b.1<=c/\c<=min a.2 b.2)\/(In (a :: A) c/\In B c):=by
 rw [cD,cD];constructor
 ·rintro ⟨p | p,q | q⟩
  ·exact .inl ⟨by omega,by omega⟩
  ·exact .inr ⟨.inl p,q⟩
  ·have:=eC ha p;omega
  ·exact .inr ⟨.inr p,q⟩
 ·rintro (⟨p,q⟩ | ⟨p,q⟩)
  ·exact⟨.inl ⟨by omega,by omega⟩,.inl ⟨by omega,by omega⟩⟩
  ·exact⟨p,.inr q⟩
def aS(L:lIi):List Go.Value:=L.flatMap fun r=>[.I r.1,.I r.2]
theorem eD(L:lIi):(aS L).length=L.length*2:=by
 induction L with
 | nil=>rfl
 | cons r L ih=>simp [aS] at ih ⊢;omega
theorem jC(A B:lIi):aS (A++B)=aS A++aS B:=by simp [aS]
theorem nP(L:lIi):∀ v∈aS L,v.oneCell'=true:=fun v hv=>by
 simp [aS] at hv;obtain⟨a,b,_,rfl | rfl⟩:=hv <;> rfl
theorem iQ:∀ (L:lIi) (i:Nat) (r:Int×Int),L[i]?=some r->(aS L)[2*i]?=some (.I r.1)/\(aS L)[2*i+1]?=some (.I r.2)
 | [],i,r,h=>by cases h
 | x :: L,0,r,h=>by
  simp at h;subst h;simp [aS]
 | x :: L,i+1,r,h=>by
  have:=iQ L i r (by simpa using h);simp only [aS,aBB] at this ⊢;rw [show 2*(i+1)=2*i+2 from by omega];simpa using this
theorem sY:∀ (L:lIi) (i:Nat) (a b:Int),((aS L).set (i*2) (.I a)).set (i*2+1) (.I b)=aS (L.set i (a,b))
 | [],i,a,b=>by simp [aS]
 | x :: L,0,a,b=>by simp [aS]
 | x :: L,i+1,a,b=>by
  have:=sY L i a b;simp only [aS,aBB,i8] at this ⊢;rw [show (i+1)*2=i*2+2 from by omega];simpa using this
theorem pE:∀ (L:lIi) (i:Nat) (r:Int×Int) (b:Int),L[i]?=some r->(aS L).set (i*2+1) (.I b)=aS (L.set i (r.1,b))
 | [],i,r,b,h=>by cases h
 | x :: L,0,r,b,h=>by simp at h;subst h;simp [aS]
 | x :: L,i+1,r,b,h=>by
  have:=pE L i r b (by simpa using h);simp only [aS,aBB,i8] at this ⊢;rw [show (i+1)*2=i*2+2 from by omega];simpa using this
theorem aC{p:Prop}(h:p):Hid p:=h
theorem xT{x:Int}(h:(Lit.int .i64 x).wf=true):-9223372036854775808<=x/\x<=9223372036854775807:=by
 simp [Lit.wf,IntKind.min,IntKind.max,IntKind.signed,IntKind.bits] at h;omega
theorem cZ:(Tryz.prog.info? 92).map (fun i=>(i.zero,i.size,i.bytes))=some (some (.agg #[.I 0,.I 0]),2,16):=by kernel_rfl
theorem bG:Tryz.prog.underlying 22=some (.slice 92):=by kernel_rfl
theorem iW(P:Program)(t:Array TypeId)(ty:TypeId)(w:World)(x y:Int):(Builtin.max_ t ty #[.I x,.I y]).run P w=.ok (.I (max x y)) w:=by
 have e:max x y=if y>x then y else x:=by split <;> omega
 rw [e]
 rfl
theorem oI(P:Program)(t:Array TypeId)(ty:TypeId)(w:World)(x y:Int):(Builtin.min_ t ty #[.I x,.I y]).run P w=.ok (.I (min x y)) w:=by
 have e:min x y=if y<x then y else x:=by split <;> omega
 rw [e]
 rfl
def ArgR(W:World)(v:Value)(L:lIi):Prop:=
 (∃ p cap,v=.slice p 0 cap/\L=[]/\(p=none->cap=0))\/∃ g off cap,v=.slice (some (aDr g off)) L.length cap/\g<W.heap.size/\L.length<=cap/\cap<=maxLen/\∀ (i:Nat) (r:Int×Int),L[i]?=some r->W.cell? ⟨g,off+2*i,none⟩=some (.I r.1)/\W.cell? ⟨g,off+2*i+1,none⟩=some (.I r.2)
theorem ArgR.kept{W W':World}{v:Value}{L:lIi}(h:ArgR W v L)(hb:wBl W W'):ArgR W' v L:=by
 rcases h with h | ⟨g,off,cap,h1,h2,h3,h4,h5⟩
 ·exact .inl h
 ·exact .inr ⟨g,off,cap,h1,o4 h2 hb.size,h3,h4,fun i x hx=>⟨(hb.cell (p:=⟨g,off+2*i,none⟩) h2).trans (h5 i x hx).1,(hb.cell (p:=⟨g,off+2*i+1,none⟩) h2).trans (h5 i x hx).2⟩⟩
theorem ArgR.slice{W:World}{v:Value}{L:lIi}(h:ArgR W v L):∃ q cap,v=.slice q L.length cap/\L.length<=maxLen/\L.length<=cap /\
  (∀ (i:Nat) (r:Int×Int),L[i]?=some r->∃ g off,q=some (aDr g off)/\g<W.heap.size/\W.cell? ⟨g,off+2*i,none⟩=some (.I r.1)/\W.cell? ⟨g,off+2*i+1,none⟩=some (.I r.2)):=by
 rcases h with⟨p,cap,rfl,rfl,-⟩ | ⟨g,off,cap,rfl,h2,h3,h4,h5⟩
 ·exact⟨p,cap,rfl,r9 _,r9 _,fun i x hx=>by simp at hx⟩
 ·exact⟨_,cap,rfl,m9 h3 h4,h3,fun i x hx=>⟨g,off,rfl,h2,h5 i x hx⟩⟩
theorem ArgR.news{W:World}{ad:Addr}{n c:Nat}{L:lIi}(h:ArgR W (.slice (some ad) n c) L):∀ j u,(aS L)[j]?=some u->W.cell? (ad.add j)=some u:=by
 intro j u hj;have hjl:j<L.length*2:=by have:=(m8.1 hj).1;rwa [eD] at this
 rcases h with⟨p,cap,e,rfl,-⟩ | ⟨g,off,cap,e,h2,h3,h4,h5⟩
 ·simp at hjl
 ·cases e;obtain⟨q1,q2⟩:=h5 (j/2) _ (m7 (by omega));obtain⟨r1,r2⟩:=iQ L (j/2) _ (m7 (by omega));have hadd:((aDr g off):Addr).add j=⟨g,off+j,none⟩:=by unfold Addr.add;split <;> simp_all
  rw [hadd];rcases Nat.mod_two_eq_zero_or_one j with e | e
  ·rw [show 2*(j/2)=j by omega] at q1 r1;rw [q1,<- r1,hj]
  ·rw [show off+2*(j/2)+1=off+j by omega] at q2;rw [show 2*(j/2)+1=j by omega] at r2;rw [q2,<- r2,hj]
def RR(base:Nat)(w:World)(v:Value)(L:lIi):Prop:=w.ownsRow base 92 2 v L.length (aS L)
theorem RR.arg{base:Nat}{w:World}{v:Value}{L:lIi}(h:RR base w v L):ArgR w v L:=by
 have h':=h;rcases h.2 with⟨rfl,hn⟩ | ⟨g,cap,cur,rfl,hg,hc,h1,h2,h3,h4⟩
 ·exact .inl ⟨none,0,rfl,aAL hn,fun _=>rfl⟩
 ·exact .inr ⟨g,0,cap,rfl,aB hc,h1,h2,fun i x hx=>by
   obtain⟨p1,p2⟩:=iQ L i x hx;rw [n7];exact⟨aM h' p1,aM h' p2⟩⟩
theorem RR.nil(base:Nat)(w:World):RR base w (.slice none 0 0) []:=⟨rfl,.inl ⟨rfl,rfl⟩⟩
theorem RR.fr{base:Nat}{w w':World}{v:Value}{L:lIi}{S:Nat->Prop}(h:RR base w v L)(hf:Fr S w w')(hs:∀ k,v.ownBlock=some k->¬ S k):RR base w' v L:=aH h hf hs
theorem RR.kept{base:Nat}{w w':World}{v:Value}{L:lIi}(h:RR base w v L)(hb:wBl w w'):RR base w' v L:=h.fr (S:=fun _=>False) (Fr.of_below hb) (fun _ _ q=>q)
theorem RR.mono{base base':Nat}{w:World}{v:Value}{L:lIi}(h:RR base w v L)(hb:base'<=base):RR base' w v L:=bE h hb
theorem RR.shape{base:Nat}{w:World}{v:Value}{L:lIi}(h:RR base w v L):∃ q c,v=.slice q L.length c:=aR h
structure IsC(C:lIi)(p:Int->Prop):Prop where
 cls:Cls C
 fit:Fit C
 mem:∀ c,In C c↔p c
theorem IsC.one{C D:lIi}{p q:Int->Prop}(h:IsC C p)(k:IsC D q)(e:∀ c,p c↔q c):C=D:=
 sV C D h.cls k.cls fun c=>(h.mem c).trans ((e c).trans (k.mem c).symm)
theorem IsC.to{C:lIi}{p q:Int->Prop}(h:IsC C p)(e:∀ c,p c↔q c):IsC C q:=⟨h.cls,h.fit,fun c=>(h.mem c).trans (e c)⟩
def xE(w:World)(p:Int->Prop)(n:Nat)(e:Ending)(w':World):Prop:=∃ v C,e=.returned v/\RR w.heap.size w' v C/\IsC C p/\C.length<=n/\wBl w w'
structure Fl where
 k:Int
 n:Int
 mn:Int
 mx:Int
 rs:lIi
 rq:Option Addr
 rc:Nat
 kq:Option Addr
 kl:Nat
 kc:Nat
abbrev nDf (f:Fl):Array Value:=#[.I f.k,.I f.n,.I f.mn,.I f.mx,.slice f.rq f.rs.length f.rc,.slice f.kq f.kl f.kc]
inductive Tr where
 | mk (f:Fl) (ks:List Tr)
def Tr.f:Tr->Fl | .mk f _=>f
def Tr.ks:Tr->List Tr | .mk _ ks=>ks
abbrev Way:=List (Tr×Nat)
abbrev El:=Way×Tr
mutual
def pp:Way->Tr->List El
 | p,.mk f ks=>(p,.mk f ks) :: pps (.mk f ks) p 0 ks
def pps(par:Tr)(p:Way):Nat->List Tr->List El
 | _,[]=>[]
 | i,t :: ts=>pp ((par,i) :: p) t++pps par p (i+1) ts
end
theorem cL(p:Way)(t:Tr):pp p t=(p,t) :: pps t p 0 t.ks:=by
 cases t;rw [pp]
 rfl
theorem bN(par:Tr)(p:Way)(i:Nat)(t:Tr)(ts:List Tr):pps par p i (t :: ts)=pp ((par,i) :: p) t++pps par p (i+1) ts:=by rw [pps]
theorem cP(par:Tr)(p:Way)(i:Nat):pps par p i []=[]:=by rw [pps]
mutual
def Tr.sz:Tr->Nat | .mk _ ks=>szs ks+1
def szs:List Tr->Nat | []=>0 | t :: ts=>t.sz+szs ts
end
theorem fE(t:Tr):t.sz=szs t.ks+1:=by cases t;rw [Tr.sz];rfl
theorem fM(t:Tr)(ts:List Tr):szs (t :: ts)=t.sz+szs ts:=by rw [szs]
theorem eQ:szs []=0:=by rw [szs]
theorem dS(t:Tr):1<=t.sz:=by rw [fE];omega
theorem bQ1{t:Tr}{ks:List Tr}(h:t∈ks):t.sz<=szs ks:=by
 induction ks with
 | nil=>cases h
 | cons x r ih=>
  rw [fM];rcases aBK.1 h with e | e
  ·subst e;omega
  ·have:=ih e;omega
theorem cH{t u:Tr}(h:u∈t.ks):u.sz<t.sz:=by rw [fE t];have:=bQ1 h;omega
theorem Tr.ind{P:Tr->Prop}(h:∀ t,(∀ u∈t.ks,P u)->P t)(t:Tr):P t:=by
 have:∀ (m:Nat) (t:Tr),t.sz<=m->P t:=by
  intro m
  induction m with
  | zero=>intro t ht;have:=dS t;omega
  | succ m ih=>intro t ht;exact h t fun u hu=>ih u (by have:=cH hu;omega)
 exact this t.sz t lz9
theorem aD6{ks:List Tr}(h:∀ t∈ks,∀ p,(pp p t).length=t.sz)(par:Tr)(p:Way)(i:Nat):(pps par p i ks).length=szs ks:=by
 induction ks generalizing i with
 | nil=>rw [cP,eQ];rfl
 | cons t ts ih=>
  rw [bN,fM,o8,h t (t5 ..),ih (fun u hu=>h u (t7 _ hu))]
theorem cQ(t:Tr):∀ p,(pp p t).length=t.sz:=by
 refine Tr.ind (P:=fun t=>∀ p,(pp p t).length=t.sz) (fun t ih p=>?_) t;rw [cL,fE,r8,aD6 ih]
def Nx(x y:El):Prop:=∃ (par:Tr) (j:Nat) (rest:Way),y.1=(par,j) :: rest/\((par=x.2/\j=0/\rest=x.1)\/∃ s i,x.1=s++(par,i) :: rest/\j=i+1)
def Ch:List El->Prop
 | []=>True
 | [_]=>True
 | x :: y :: r=>Nx x y/\Ch (y :: r)
theorem pB{a b:List El}(ha:Ch a)(hb:Ch b)(h:∀ x∈a.getLast?,∀ y∈b.head?,Nx x y):Ch (a++b):=by
 induction a with
 | nil=>exact hb
 | cons x a ih=>
  cases a with
  | nil=>
   cases b with
   | nil=>trivial
   | cons y b=>exact⟨h x (by simp) y (by simp),hb⟩
  | cons z a=>exact⟨ha.1,ih ha.2 fun u hu=>h u (by rw [List.getLast?_cons_cons];exact hu)⟩
theorem bD2{a b:List El}{x y:El}(h:Ch (a++x :: y :: b)):Nx x y:=by
 induction a with
 | nil=>exact h.1
 | cons z a ih=>
  cases a with
  | nil=>exact h.2.1
  | cons u a=>exact ih h.2
theorem wI{ks:List Tr}(h:∀ t∈ks,∀ p,Ch (pp p t)/\∀ z∈pp p t,∃ s,z.1=s++p)(par:Tr)(p:Way)(i:Nat) :
  Ch (pps par p i ks)/\(∀ z∈pps par p i ks,∃ s j,z.1=s++(par,j) :: p)/\∀ z∈(pps par p i ks).head?,z.1=(par,i) :: p:=by
 induction ks generalizing i with
 | nil=>rw [cP];exact⟨trivial,fun z hz=>(by cases hz),fun z hz=>(by cases hz)⟩
 | cons t ts ih=>
  obtain⟨c1,c2⟩:=h t (t5 ..) ((par,i) :: p);obtain⟨d1,d2,d3⟩:=ih (fun u hu=>h u (t7 _ hu)) (i+1);rw [bN];refine⟨pB c1 d1 fun x hx y hy=>?_,fun z hz=>?_,fun z hz=>?_⟩
  ·obtain⟨s,hs⟩:=c2 x (List.mem_of_getLast? hx);exact⟨par,i+1,p,d3 y hy,.inr ⟨s,i,hs,rfl⟩⟩
  ·rcases o5.1 hz with q | q
   ·obtain⟨s,hs⟩:=c2 z q;exact⟨s,i,hs⟩
   ·exact d2 z q
  ·rw [cL] at hz;simp at hz;subst hz
   rfl
theorem aX5(t:Tr):∀ p,Ch (pp p t)/\∀ z∈pp p t,∃ s,z.1=s++p:=by
 refine Tr.ind (P:=fun t=>∀ p,Ch (pp p t)/\∀ z∈pp p t,∃ s,z.1=s++p) (fun t ih p=>?_) t;obtain⟨d1,d2,d3⟩:=wI ih t p 0;rw [cL];refine⟨pB (a:=[(p,t)]) trivial d1 fun x hx y hy=>?_,fun z hz=>?_⟩
 ·simp at hx;subst hx;exact⟨t,0,p,d3 y hy,.inl ⟨rfl,rfl,rfl⟩⟩
 ·rcases aBK.1 hz with q | q
  ·subst q;exact⟨[],rfl⟩
  ·obtain⟨s,j,hs⟩:=d2 z q;exact⟨s++[(t,j)],by simp [hs]⟩
theorem uI{t:Tr}{pre:List El}{x y:El}(h:pre++[x]++[y] <+: pp [] t):Nx x y:=by
 obtain⟨r,hr⟩:=h;have:=(aX5 t []).1;rw [<- hr,show pre++[x]++[y]++r=pre++x :: y :: r by simp] at this;exact bD2 this
theorem rS{t:Tr}{x:El}(h:[x] <+: pp [] t):x=([],t):=by
 rw [cL] at h;obtain⟨r,hr⟩:=h;simp at hr;exact hr.1
mutual
def bL(P:Tr->Prop):Tr->Prop | .mk f ks=>P (.mk f ks)/\qD P ks
def qD(P:Tr->Prop):List Tr->Prop | []=>True | t :: ts=>bL P t/\qD P ts
end
theorem aQ{P:Tr->Prop}(t:Tr):bL P t↔P t/\qD P t.ks:=by cases t;rw [bL];rfl
theorem cJ{P:Tr->Prop}(ks:List Tr):qD P ks ↔ ∀ t∈ks,bL P t:=by
 induction ks with
 | nil=>rw [qD];simp
 | cons t ts ih=>rw [qD,ih];simp
theorem bA{P:Tr->Prop}{t u:Tr}(h:bL P t)(hu:u∈t.ks):bL P u:=(cJ _).1 ((aQ t).1 h).2 u hu
theorem gP{P:Tr->Prop}(t:Tr):∀ p,bL P t->∀ z∈pp p t,bL P z.2:=by
 refine Tr.ind (P:=fun t=>∀ p,bL P t->∀ z∈pp p t,bL P z.2) (fun t ih p he z hz=>?_) t;rw [cL] at hz;rcases aBK.1 hz with q | q
 ·subst q;exact he
 ·have:∀ (ks:List Tr) (i:Nat),(∀ u∈ks,u∈t.ks)->z∈pps t p i ks->bL P z.2:=by
   intro ks
   induction ks with
   | nil=>intro i _ h;rw [cP] at h;cases h
   | cons u us ih2=>
    intro i hs h;rw [bN] at h;rcases o5.1 h with g | g
    ·exact ih u (hs u (t5 ..)) _ (bA he (hs u (t5 ..))) z g
    ·exact ih2 (i+1) (fun v hv=>hs v (t7 _ hv)) g
  exact this t.ks 0 (fun _ h=>h) q
section
open Go Go.RowKit Go.Shelf
theorem xC{W W':World}(hb:wBl W W'):W.grownBy W' none:=⟨hb.os,hb.tape,hb.output,hb.size,fun k hk _=>hb.block k hk⟩
structure CKeep(N:Nat->Prop)(W W':World):Prop where
 size:W.heap.size<=W'.heap.size
 same:∀ (k:Nat) (cur:Array Value) (t:TypeId) (fr:Nat×Nat),N k->W.heap[k]?=some (.cells cur t fr)->W'.heap[k]?=some (.cells cur t fr)
theorem CKeep.trans{N:Nat->Prop}{A B C:World}(h:CKeep N A B)(k:CKeep N B C):CKeep N A C:=⟨m9 h.size k.size,fun i cur t fr hi hc=>k.same i cur t fr hi (h.same i cur t fr hi hc)⟩
theorem CKeep.put{N:Nat->Prop}{W:World}{l:Nat}{o:Obj}(o':Obj)(h:W.heap[l]?=some o)(hc:o.isCells=false):CKeep N W (W.putObj l o'):=
 ⟨(grownBy_putObj' W l o').size,fun k cur t fr _ hk=>by
  have hne:k≠l:=fun e=>by subst e;rw [hk] at h;cases h;cases hc
  exact(World.putObj_heap_other hne).trans hk⟩
theorem Fr.ckeep{S N:Nat->Prop}{W W':World}(h:Fr S W W')(hs:∀ k,S k->¬ N k):CKeep N W W':=
 ⟨h.size,fun k _ _ _ hk hc=>(h.block k (aB hc) (fun q=>hs k q hk)).trans hc⟩
theorem Fr.keepsFrom{S:Nat->Prop}{N:Nat}{W W':World}(h:Fr S W W')(hs:∀ k,S k->k<N):KeepsFrom N W W':=
 ⟨h.size,fun k o hk hc _=>(h.block k (aB hc) (fun q=>by have:=hs k q;omega)).trans hc⟩
def bO3{α:Type}(n:Nat)(P:Program)(gf:Nat)(lb:Array Value)(encs:α->Array Value)(N:Nat->Prop)(Told:List α->α->World->Prop)(S Sp:List α->Prop)(w:World):Prop:=
 ∀ (l:Nat) (J Jx:List α->World->Prop) (W:World),wBl w W->OwnFrom W.heap.size J->OwnFrom W.heap.size Jx->(∀ pre V,J pre V->pre.length<=1000000) ->
  (∀ pre x V,J pre V->Told pre x V->YieldAt Fence.wide (n-1) P l (encs x) V fun e V'=>KeepsFrom W.heap.size V V'/\((e=.returned (.bool true)/\J (pre++[x]) V'/\CKeep N V V')\/(e=.returned (.bool false)/\Jx (pre++[x]) V'))) ->
  J [] W->CallsIn Fence.wide n P gf (#[.func (.yield l) #[] #[]]++lb) W fun e V=>(∃ v,e=.returned v)/\((∃ xs,S xs/\J xs V)\/(∃ pre,Sp pre/\Jx pre V))
theorem eW{β:Type}{B:Nat}{J:β->World->Prop}(h:OwnFrom B J){s:β}{A A':World}(hj:J s A)(hb:wBl A A'):J s A':=h s A A' none hj (xC hb) (fun _ e=>by cases e)
theorem kE{β:Type}{B B':Nat}{J:β->World->Prop}(h:OwnFrom B J)(hB:B<=B'):OwnFrom B' J:=fun s W W' row hs hg hr=>h s W W' row hs hg (fun r e=>⟨m9 hB (hr r e).1,(hr r e).2⟩)
theorem oQ{B B':Nat}{W W':World}(h:KeepsFrom B W W')(hB:B<=B'):KeepsFrom B' W W':=⟨h.size,fun k o hk hc ho=>h.same k o (m9 hB hk) hc ho⟩
theorem iG{B:Nat}(W:World){l:Nat}(o:Obj)(hl:l<B):KeepsFrom B W (W.putObj l o):=
 ⟨(grownBy_putObj' W l o).size,fun k _ hk hc _=>(World.putObj_heap_other (by omega)).trans hc⟩
theorem zQ{N:Nat->Prop}{W W':World}(hb:wBl W W'):CKeep N W W':=⟨hb.size,fun k _ _ _ _ hc=>(hb.block k (aB hc)).trans hc⟩
theorem lL{B:Nat}{W W':World}(hb:wBl W W'):KeepsFrom B W W':=⟨hb.size,fun k _ _ hc _=>(hb.block k (aB hc)).trans hc⟩
section
variable {α:Type} {P:Program}
def Rc(D:Nat)(r:Loop)(W:World):Prop:=W.heap[D+1]?=some (.loop r)/\W.heap[D]?=some (.deferred (some []))
theorem Rc.below{D:Nat}{r:Loop}{W W':World}(h:Rc D r W)(hb:wBl W W'):Rc D r W':=
 ⟨(hb.block _ (aB h.1)).trans h.1,(hb.block _ (aB h.2)).trans h.2⟩
theorem Rc.from{D:Nat}{r:Loop}{W W':World}(h:Rc D r W)(hk:KeepsFrom D W W'):Rc D r W':=⟨hk.same _ _ (by omega) h.1 rfl,hk.same _ _ lz9 h.2 rfl⟩
theorem Rc.put{D:Nat}{r:Loop}{W:World}(h:Rc D r W)(r':Loop):Rc D r' (W.putObj (D+1) (.loop r')):=
 ⟨World.putObj_heap_same (aB h.1),(World.putObj_heap_other (by omega)).trans h.2⟩
theorem wC{β:Type}{D:Nat}(r:Loop):OwnFrom (D+2) (fun (_:β) W=>Rc D r W):=fun _ A B row h hg hrow=>
 ⟨(hg.block _ (aB h.1) (fun e=>by have:=(hrow _ e.symm).1;omega)).trans h.1,(hg.block _ (aB h.2) (fun e=>by have:=(hrow _ e.symm).1;omega)).trans h.2⟩
theorem aD0{D:Nat}{N:Nat->Prop}{r:Loop}{I:List α->World->Prop}{Ix:Code->List α->World->Prop}{xs:List α}{V W W3:World}{e:Exit}{a3:Act}
  (hI:OwnFrom D I) (hIx:∀ c,OwnFrom D (Ix c)) (hc:CKeep N V W) (hr:Rc D { r with state:=.busy } W)
  (hv:KeepsFrom (D+2) V W) (hp:ownPostG D (CKeep N) I Ix xs W e a3 W3):roundPost P (D+1) (fun e V'=>KeepsFrom (D+2) V V'/\((e=.returned (.bool true)/\(I xs V'/\Rc D { r with state:=.ready,pending:=none } V')/\CKeep N V V')\/(e=.returned (.bool false)/\∃ c,Ix c xs V'/\Rc D { r with state:=.done,pending:=some c } V'))) e a3 W3:=by
 have out:∀ c:Code,KeepsFrom D W W3->Ix c xs W3->∃ v V',(Instr.endRound (D+1) (some c)).run P W3=.ok v V'/\(KeepsFrom (D+2) V V'/\((Ending.returned v=.returned (.bool true)/\(I xs V'/\Rc D { r with state:=.ready,pending:=none } V')/\CKeep N V V')\/(Ending.returned v=.returned (.bool false)/\∃ c,Ix c xs V'/\Rc D { r with state:=.done,pending:=some c } V'))):=fun c hk hi=>by
  have h3:=hr.from hk;exact⟨_,_,run_endRound (some c) h3.1,(hv.trans (oQ hk (by omega))).trans (iG _ _ (by omega)),.inr ⟨rfl,c,(hIx c).putObj _ hi (by omega) h3.1 rfl,h3.put _⟩⟩
 cases e with
 | normal=>
  obtain⟨hk,hkp,hi⟩:=hp;have h3:=hr.from hk;exact⟨_,_,run_endRound none h3.1,(hv.trans (oQ hk (by omega))).trans (iG _ _ (by omega)),.inl ⟨rfl,⟨hI.putObj _ hi (by omega) h3.1 rfl,h3.put _⟩,(hc.trans hkp).trans (CKeep.put _ h3.1 rfl)⟩⟩
 | ret=>exact out .ret hp.1 hp.2
 | exit id=>exact out (.exit id) hp.1 hp.2
 | goto t=>exact out (.goto t) hp.1 hp.2
 | panic ch=>exact hp.elim
 | outgrown=>exact hp.elim
theorem aD2{g:Operand}{ps:Array Tmp}{assign body:Code}{Q:Exit->Act->World->Prop}{a:Act}{w:World}{n:Nat}(h1:1<=n){gf:Nat}{lb:Array Value}
  (hg:a.eval g=.func (.func gf) #[] lb) (eg:∀ args w,(callFunc gf args).run P w=.ok (.enter gf args) w) {encs:α->Array Value} (hps:∀ x,(encs x).size=ps.size)
  {N:Nat->Prop} {Told:List α->α->World->Prop} {S Sp:List α->Prop} (hseq:bO3 (n-1) P gf lb encs N Told S Sp w)
  (I:List α->World->Prop) (Ix:Code->List α->World->Prop) (hI:OwnFrom w.heap.size I) (hIx:∀ c,OwnFrom w.heap.size (Ix c)) (hT:∀ pre x,OwnFrom w.heap.size (fun (_:Unit) W=>Told pre x W)) (hbd:∀ pre W,I pre W->pre.length<=1000000) (h0:I [] w) (Ax:α->Act->World->Prop) (hAx:∀ x a',OwnFrom w.heap.size (fun (_:Unit) W=>Ax x a' W))
  (hassign:∀ (l:Nat) (pre:List α) (x:α) (W:World) (K:Act->World->Prop),I pre W->Told pre x W->(∀ a' W',wBl W W'->Ax x a' W'->K a' W') ->
   assign.wpIn (Fence.wide.inRound l) (n-1-1) P (Exit.then K (fun _ _ _=>False)) { tmps:=(ps.zip (encs x)).foldl (fun t (p,v)=>t.setIfInBounds p v) a.tmps,defers:=[] } W)
  (hbody:∀ (l:Nat) (pre:List α) (x:α) (a':Act) (W:World),I pre W->Told pre x W->Ax x a' W->body.wpIn (Fence.wide.inRound l) (n-1-1) P (ownPostG w.heap.size (CKeep N) I Ix (pre++[x]) W) a' W)
  (hdone:∀ (D:Nat) (xs:List α) (W:World),w.heap.size<=D->S xs->I xs W->W.heap[D]?=some (.deferred (some []))->Q .normal { a with defers:={ target:=.collected D,args:=#[] } :: a.defers } W)
  (hstop:∀ (D:Nat) (c:Code) (pre:List α) (W:World),w.heap.size<=D->Sp pre->Ix c pre W->W.heap[D]?=some (.deferred (some []))->c.wpIn Fence.wide n P Q { a with defers:={ target:=.collected D,args:=#[] } :: a.defers } W) :
  (Code.rangeFunc g ps assign body).wpIn Fence.wide n P Q a w:=by
 refine wpIn_rangeFunc fun fn hfn=>?_
 let r:Loop:={ state:=.ready,pending:=none,fn:=fn,tmps:=a.tmps,params:=ps,assign:=assign,body:=body,defers:=w.heap.size }
 have hB:wBl w ((w.alloc (.deferred (some []))).alloc (.loop r)):=(bz9).alloc (by simp) _;have hz:((w.alloc (.deferred (some []))).alloc (.loop r)).heap.size=w.heap.size+2:=by simp
 have hR:Rc w.heap.size r ((w.alloc (.deferred (some []))).alloc (.loop r)):=by
  refine⟨?_,(Below.heap_alloc _ _ _ (by simp)).trans (World.alloc_heap_new w _)⟩;have:=World.alloc_heap_new (w.alloc (.deferred (some []))) (.loop r);rwa [f8] at this
 refine⟨w.heap.size+1,[{ target:=.collected w.heap.size,args:=#[] }],((w.alloc (.deferred (some []))).alloc (.loop r)),{ target:=.fn (.func gf) lb,args:=#[.func (.yield (w.heap.size+1)) #[] #[]] },((w.alloc (.deferred (some []))).alloc (.loop r)),gf,#[.func (.yield (w.heap.size+1)) #[] #[]]++lb,((w.alloc (.deferred (some []))).alloc (.loop r)),
  run_enterLoop_outer _ _ _ _ _,?_,fun _ _=>trivial,?_,fun _=>h1,?_⟩
 ·simp only [resolve,hg];simp [go_sem]
 ·simp [invoke,go_sem,eg]
 ·refine(hseq (w.heap.size+1) (fun pre W=>I pre W/\Rc w.heap.size r W) (fun pre W=>∃ c,Ix c pre W/\Rc w.heap.size { r with state:=.done,pending:=some c } W) _ hB
   ?_ ?_ (fun pre V h=>hbd pre V h.1) ?_ ⟨hI.alloc _ (hI.alloc _ h0),hR⟩).mono ?_
  ·rw [hz];exact(kE hI (by omega)).and (wC _)
  ·rw [hz];rintro pre A B row ⟨c,hi,hr⟩ hg hrow;exact⟨c,kE (hIx c) (by omega) pre A B row hi hg hrow,wC (β:=Unit) _ () A B row hr hg hrow⟩
  ·rw [hz];rintro pre x V ⟨hi,hr⟩ ht;refine⟨fn,_,assign,body,run_yield hr.1 (hps x),roundIn_of_wpIn hfn (hassign _ pre x V _ hi ht ?_)⟩;intro a' W' hb hax;have hr':=hr.below hb;refine⟨_,run_beginRound hr'.1 rfl,?_⟩;have hr2:Rc w.heap.size { r with state:=.busy } (W'.putObj (w.heap.size+1) (.loop { r with state:=.busy })):=hr'.put _;exact wpIn_mono (hbody _ pre x a' _ (hI.putObj _ (eW hI hi hb) (by omega) hr'.1 rfl) ((hT pre x).putObj (s:=()) _ (eW (hT pre x) (s:=()) ht hb) (by omega) hr'.1 rfl) ((hAx x a').putObj (s:=()) _ hax (by omega) hr'.1 rfl)) fun e a3 W3 hp=>
    aD0 (r:=r) hI hIx ((zQ hb).trans (CKeep.put _ hr'.1 rfl)) hr2 ((lL hb).trans (iG _ _ (by omega))) hp
  ·rintro e V ⟨⟨v,rfl⟩,(⟨xs,hS,hi,hr⟩ | ⟨pre,hSp,c,hi,hr⟩)⟩
   ·exact⟨none,_,run_endLoop hr.1 (by simp [r]),hdone _ xs _ lz9 hS (hI.putObj _ hi (by omega) hr.1 rfl) ((World.putObj_heap_other (by omega)).trans hr.2)⟩
   ·exact⟨some c,_,run_endLoop hr.1 (by simp),hstop _ c pre _ lz9 hSp ((hIx c).putObj _ hi (by omega) hr.1 rfl) ((World.putObj_heap_other (by omega)).trans hr.2)⟩
end
theorem cR{W W':World}{row:Option Nat}{B:Nat}(hg:W.grownBy W' row)(hr:∀ r,row=some r->B<=r/\∃ o:Obj,W.heap[r]?=some o/\o.isCells=false){k:Nat}{cur:Array Value}{t:TypeId}{fr:Nat×Nat}(hc:W.heap[k]?=some (.cells cur t fr)) :
  W'.heap[k]?=some (.cells cur t fr):=by
 refine(hg.block k (aB hc) (fun e=>?_)).trans hc;obtain⟨_,o,ho,hq⟩:=hr k e.symm;rw [hc] at ho;cases ho;cases hq
theorem dH{N:Nat->Prop}{W W':World}{p:Addr}{v:Value}(h:CKeep N W W')(hp:N p.block)(hc:W.cell? p=some v):W'.cell? p=some v:=by
 unfold World.cell? at hc ⊢
 cases ho:W.heap[p.block]? with
 | none=>simp [ho] at hc
 | some o=>
  cases o with
  | cells cur t fr=>rw [h.same _ _ _ _ hp ho];rw [ho] at hc;exact hc
  | _=>simp [ho] at hc
end
def Six(W:World)(g o:Nat)(f:Fl):Prop:=
 W.cell? (aDr g o)=some (.I f.k)/\W.cell? ⟨g,o+1,none⟩=some (.I f.n)/\W.cell? ⟨g,o+2,none⟩=some (.I f.mn)/\W.cell? ⟨g,o+3,none⟩=some (.I f.mx)/\W.cell? ⟨g,o+4,none⟩=some (.slice f.rq f.rs.length f.rc)/\W.cell? ⟨g,o+5,none⟩=some (.slice f.kq f.kl f.kc)
theorem Six.ck{N:Nat->Prop}{W W':World}{g o:Nat}{f:Fl}(h:Six W g o f)(hc:CKeep N W W')(hg:N g):Six W' g o f:=
 ⟨dH hc (p:=(aDr g o)) hg h.1,dH hc (p:=⟨g,o+1,none⟩) hg h.2.1,dH hc (p:=⟨g,o+2,none⟩) hg h.2.2.1,dH hc (p:=⟨g,o+3,none⟩) hg h.2.2.2.1,dH hc (p:=⟨g,o+4,none⟩) hg h.2.2.2.2.1,dH hc (p:=⟨g,o+5,none⟩) hg h.2.2.2.2.2⟩
def ArgK(W:World)(v:Value)(ks:List Tr):Prop:=
 (∃ p cap,v=.slice p 0 cap/\ks=[]/\(p=none->cap=0))\/∃ g off cap,v=.slice (some (aDr g off)) ks.length cap/\g<W.heap.size/\ks.length<=cap/\cap<=maxLen/\∀ (i:Nat) (t:Tr),ks[i]?=some t->Six W g (off+i*6) t.f
theorem ArgK.slice{W:World}{v:Value}{ks:List Tr}(h:ArgK W v ks):∃ q cap,v=.slice q ks.length cap/\ks.length<=maxLen/\ks.length<=cap /\
  (∀ (i:Nat) (t:Tr),ks[i]?=some t->∃ g off,q=some (aDr g off)/\g<W.heap.size/\Six W g (off+i*6) t.f):=by
 rcases h with⟨p,cap,rfl,rfl,-⟩ | ⟨g,off,cap,rfl,h2,h3,h4,h5⟩
 ·exact⟨p,cap,rfl,r9 _,r9 _,fun i x hx=>by simp at hx⟩
 ·exact⟨_,cap,rfl,m9 h3 h4,h3,fun i x hx=>⟨g,off,rfl,h2,h5 i x hx⟩⟩
def CK(W W':World):Prop:=CKeep (fun k=>k<W.heap.size) W W'
theorem CK.of_below{W W':World}(h:wBl W W'):CK W W':=⟨h.size,fun k _ _ _ _ hc=>(h.block k (aB hc)).trans hc⟩
theorem CK.trans{A B C:World}(h:CK A B)(k:CK B C):CK A C:=⟨m9 h.size k.size,fun i cur t fr hi hc=>k.same i cur t fr (o4 hi h.size) (h.same i cur t fr hi hc)⟩
theorem CK.step{A B C:World}(h:CK A B)(k:CKeep (fun i=>i<A.heap.size) B C):CK A C:=⟨m9 h.size k.size,fun i cur t fr hi hc=>k.same i cur t fr hi (h.same i cur t fr hi hc)⟩
theorem ArgK.ck{W W':World}{v:Value}{ks:List Tr}(h:ArgK W v ks)(hc:CK W W'):ArgK W' v ks:=by
 rcases h with h | ⟨g,off,cap,h1,h2,h3,h4,h5⟩
 ·exact .inl h
 ·exact .inr ⟨g,off,cap,h1,o4 h2 hc.size,h3,h4,fun i x hx=>(h5 i x hx).ck hc h2⟩
theorem ArgR.ck{W W':World}{v:Value}{L:lIi}(h:ArgR W v L)(hc:CK W W'):ArgR W' v L:=by
 rcases h with h | ⟨g,off,cap,h1,h2,h3,h4,h5⟩
 ·exact .inl h
 ·exact .inr ⟨g,off,cap,h1,o4 h2 hc.size,h3,h4,fun i x hx=>⟨dH hc (p:=⟨g,off+2*i,none⟩) h2 (h5 i x hx).1,dH hc (p:=⟨g,off+2*i+1,none⟩) h2 (h5 i x hx).2⟩⟩
def NO(W:World)(t:Tr):Prop:=(∀ a,t.f.rq=some a->t.f.rs≠[]->∃ cur,W.heap[a.block]?=some (.cells cur 92 (0,0)))/\(∀ a,t.f.kq=some a->t.ks≠[]->∃ cur,W.heap[a.block]?=some (.cells cur 25 (0,0)))
structure NA(W:World)(t:Tr):Prop where
 r:ArgR W (.slice t.f.rq t.f.rs.length t.f.rc) t.f.rs
 k:ArgK W (.slice t.f.kq t.f.kl t.f.kc) t.ks
 fit:Fit t.f.rs
 len:t.f.rs.length+3<=8796093022208
 own:NO W t
def TA(W:World)(t:Tr):Prop:=bL (NA W) t
theorem pZ{P Q:Tr->Prop}(h:∀ t,P t->Q t)(t:Tr):bL P t->bL Q t:=by
 refine Tr.ind (P:=fun t=>bL P t->bL Q t) (fun t ih he=>?_) t;exact(aQ t).2 ⟨h t ((aQ t).1 he).1,(cJ _).2 fun u hu=>ih u hu (bA he hu)⟩
structure NB(W:World)(t:Tr):Prop where
 r:ArgR W (.slice t.f.rq t.f.rs.length t.f.rc) t.f.rs
 k:ArgK W (.slice t.f.kq t.f.kl t.f.kc) t.ks
 fit:Fit t.f.rs
 len:t.f.rs.length+3<=8796093022208
theorem NB.ck{W W':World}{t:Tr}(h:NB W t)(hc:CK W W'):NB W' t:=⟨h.r.ck hc,h.k.ck hc,h.fit,h.len⟩
theorem NB.kl{W:World}{t:Tr}(h:NB W t):t.f.kl=t.ks.length:=by
 obtain⟨q,cap,e,-⟩:=h.k.slice;injection e
def TB(W:World)(t:Tr):Prop:=bL (NB W) t
theorem TB.ck{W W':World}{t:Tr}(h:TB W t)(hc:CK W W'):TB W' t:=pZ (fun _ q=>NB.ck q hc) t h
theorem TB.kept{W W':World}{t:Tr}(h:TB W t)(hb:wBl W W'):TB W' t:=h.ck (CK.of_below hb)
theorem TB.node{W:World}{t:Tr}(h:TB W t):NB W t:=((aQ t).1 h).1
theorem TB.kid{W:World}{t u:Tr}(h:TB W t)(hu:u∈t.ks):TB W u:=bA h hu
theorem TB.at{W:World}{t:Tr}(h:TB W t){p:Way}{z:El}(hz:z∈pp p t):TB W z.2:=gP t p h z hz
theorem TA.tb{W:World}{t:Tr}(h:TA W t):TB W t:=pZ (fun _ q=>⟨q.r,q.k,q.fit,q.len⟩) t h
instance {W:World} {t:Tr}:Coe (TA W t) (TB W t):=⟨TA.tb⟩
def BoxN(W:World)(b:Nat)(f:Fl):Prop:=W.heap[b]?=some (.cells (nDf f) 25 (0,0))
theorem BoxN.six{W:World}{b:Nat}{f:Fl}(h:BoxN W b f):Six W b 0 f:=
 ⟨aA h (i:=0) rfl,aA h (i:=1) rfl,aA h (i:=2) rfl,aA h (i:=3) rfl,aA h (i:=4) rfl,aA h (i:=5) rfl⟩
section
abbrev dE(T:Type):=Fl->List Tr->List T->(Int->T)->T
def nV{T:Type}(g:Int->T)(k:Int)(x:T):Int->T:=fun i=>if i=k then x else g i
theorem uH{T:Type}(g:Int->T)(k:Int)(x:T):nV g k x k=x:=if_pos rfl
theorem nC{T:Type}(g:Int->T){k i:Int}(x:T)(h:i≠k):nV g k x i=g i:=if_neg h
mutual
def ev{T:Type}(ρ:dE T):(Int->T)->Tr->T×(Int->T)
 | g,.mk f ks=>(ρ f ks (evs ρ g ks).1 (evs ρ g ks).2,if f.k=7 then nV (evs ρ g ks).2 f.n (ρ f ks (evs ρ g ks).1 (evs ρ g ks).2) else (evs ρ g ks).2)
def evs{T:Type}(ρ:dE T):(Int->T)->List Tr->List T×(Int->T)
 | g,[]=>([],g)
 | g,t :: ts=>((ev ρ g t).1 :: (evs ρ (ev ρ g t).2 ts).1,(evs ρ (ev ρ g t).2 ts).2)
end
mutual
def evG{T:Type}(ρ:dE T)(G:Int->T):Tr->T
 | .mk f ks=>ρ f ks (qU ρ G ks) G
def qU{T:Type}(ρ:dE T)(G:Int->T):List Tr->List T
 | []=>[]
 | t :: ts=>evG ρ G t :: qU ρ G ts
end
variable {T:Type} {ρ:dE T}
theorem jA(g:Int->T)(t:Tr):(ev ρ g t).1=ρ t.f t.ks (evs ρ g t.ks).1 (evs ρ g t.ks).2:=by cases t;rw [ev];rfl
theorem lP(g:Int->T)(t:Tr):(ev ρ g t).2=if t.f.k=7 then nV (evs ρ g t.ks).2 t.f.n (ev ρ g t).1 else (evs ρ g t.ks).2:=by cases t;rw [ev];rfl
theorem cK(g:Int->T):evs ρ g []=([],g):=by rw [evs]
theorem eB(g:Int->T)(t:Tr)(ts:List Tr):evs ρ g (t :: ts)=((ev ρ g t).1 :: (evs ρ (ev ρ g t).2 ts).1,(evs ρ (ev ρ g t).2 ts).2):=by rw [evs]
theorem aF3(a b:List Tr):∀ (g:Int->T),evs ρ g (a++b)=((evs ρ g a).1++(evs ρ (evs ρ g a).2 b).1,(evs ρ (evs ρ g a).2 b).2):=by
 induction a with
 | nil=>intro g;rw [cK];rfl
 | cons t a ih=>intro g;rw [aAI,eB,eB,ih];rfl
theorem fS(ks:List Tr):∀ (g:Int->T),(evs ρ g ks).1.length=ks.length:=by
 induction ks with
 | nil=>intro g;rw [cK];rfl
 | cons t a ih=>intro g;rw [eB];simp [ih]
theorem dA{ks:List Tr}{j:Nat}{u:Tr}(h:ks[j]?=some u)(g:Int->T) :
  (evs ρ g (ks.take (j+1))).1=(evs ρ g (ks.take j)).1++[(ev ρ (evs ρ g (ks.take j)).2 u).1]/\(evs ρ g (ks.take (j+1))).2=(ev ρ (evs ρ g (ks.take j)).2 u).2:=by
 rw [t9,h,aAZ,aF3,eB,cK];exact⟨rfl,rfl⟩
theorem kL(G:Int->T)(t:Tr):evG ρ G t=ρ t.f t.ks (qU ρ G t.ks) G:=by cases t;rw [evG];rfl
theorem lQ(G:Int->T)(ks:List Tr):qU ρ G ks=ks.map (evG ρ G):=by
 induction ks with
 | nil=>rw [qU];rfl
 | cons t a ih=>rw [qU,ih];rfl
theorem aK7{NP:Tr->Prop}{Good:T->Prop}(hg:∀ t xs g,NP t->xs.length=t.ks.length->(∀ x∈xs,Good x)->(∀ i,Good (g i))->Good (ρ t.f t.ks xs g))(t:Tr):∀ g:Int->T,bL NP t->(∀ i,Good (g i))->Good (ev ρ g t).1/\∀ i,Good ((ev ρ g t).2 i):=by
 refine Tr.ind (P:=fun t=>∀ g:Int->T,bL NP t->(∀ i,Good (g i))->Good (ev ρ g t).1/\∀ i,Good ((ev ρ g t).2 i)) (fun t ih g he h0=>?_) t;have hl:∀ (ks:List Tr) (g:Int->T),(∀ u∈ks,u∈t.ks)->(∀ i,Good (g i))->(∀ x∈(evs ρ g ks).1,Good x)/\∀ i,Good ((evs ρ g ks).2 i):=by
  intro ks
  induction ks with
  | nil=>intro g _ h;rw [cK];exact⟨fun x hx=>(by cases hx),h⟩
  | cons u us ih2=>
   intro g hs h;obtain⟨a,b⟩:=ih u (hs u (t5 ..)) g (bA he (hs u (t5 ..))) h;obtain⟨p,q⟩:=ih2 (ev ρ g u).2 (fun v hv=>hs v (t7 _ hv)) b;rw [eB];refine⟨fun x hx=>?_,q⟩;rcases aBK.1 hx with e | e
   ·rw [e];exact a
   ·exact p x e
 obtain⟨p,q⟩:=hl t.ks g (fun _ h=>h) h0;have hx:Good (ev ρ g t).1:=by
  rw [jA];exact hg t _ _ ((aQ t).1 he).1 (fS _ _) p q
 refine⟨hx,fun i=>?_⟩;rw [lP]
 split
 ·unfold nV
  split
  ·exact hx
  ·exact q i
 ·exact q i
theorem eO{NP:Tr->Prop}{Good:T->Prop}(hg:∀ t xs g,NP t->xs.length=t.ks.length->(∀ x∈xs,Good x)->(∀ i,Good (g i))->Good (ρ t.f t.ks xs g)):∀ (ks:List Tr) (g:Int->T),(∀ u∈ks,bL NP u)->(∀ i,Good (g i))->(∀ x∈(evs ρ g ks).1,Good x)/\∀ i,Good ((evs ρ g ks).2 i)
 | [],g,_,h=>by rw [cK];exact⟨fun x hx=>(by cases hx),h⟩
 | u :: us,g,hs,h=>by
  obtain⟨a,b⟩:=aK7 hg u g (hs u (t5 ..)) h;obtain⟨p,q⟩:=eO hg us (ev ρ g u).2 (fun v hv=>hs v (t7 _ hv)) b;rw [eB];refine⟨fun x hx=>?_,q⟩;rcases aBK.1 hx with e | e
  ·rw [e];exact a
  ·exact p x e
theorem bM{ks:List Tr}{j:Nat}{u:Tr}(h:ks[j]?=some u):szs (ks.take (j+1))=szs (ks.take j)+u.sz:=by
 have app:∀ a b:List Tr,szs (a++b)=szs a+szs b:=by
  intro a b
  induction a with
  | nil=>rw [eQ];simp
  | cons x a ih=>rw [aAI,fM,fM,ih];omega
 rw [t9,h,aAZ,app,fM,eQ]
 rfl
theorem cO(ks:List Tr):ks.length<=szs ks:=by
 induction ks with
 | nil=>simp
 | cons x a ih=>rw [fM,r8];have:=dS x;omega
theorem lA(ks:List Tr)(j:Nat):szs (ks.take j)<=szs ks:=by
 have app:∀ a b:List Tr,szs (a++b)=szs a+szs b:=by
  intro a b
  induction a with
  | nil=>rw [eQ];simp
  | cons x a ih=>rw [aAI,fM,fM,ih];omega
 have:=app (ks.take j) (ks.drop j);rw [aBZ] at this;omega
end
def bX7(v:Value):Option (DataW Value×List MemPlace):=some (.held v,[])
def MapV(w:World)(z:Value)(b n:Nat)(g:Int->Value):Prop:=
 ∃ D:DataW Value,w.ownsMap Tryz.prog 3 bX7 b n D/\Maps.IsMap D/\∀ i:Int,D.atKey (.int .i64 i) (.held z)=.held (g i)
theorem mB:Tryz.prog.underlying 3=some (.int .i64):=by kernel_rfl
theorem MapV.made(w:World)(z:Value):MapV (w.alloc (.map #[] 0)) z w.heap.size 0 (fun _=>z):=
 ⟨.map [],World.ownsMap_made w _ _ _,Maps.isMap_empty,fun _=>rfl⟩
theorem MapV.lt{w:World}{z:Value}{b n:Nat}{g:Int->Value}(h:MapV w z b n g):b<w.heap.size:=by
 obtain⟨D,h1,-⟩:=h;exact h1.lt
theorem MapV.block{w:World}{z:Value}{b n:Nat}{g:Int->Value}(h:MapV w z b n g):∃ es clock,w.heap[b]?=some (.map es clock):=by
 obtain⟨D,⟨es,clock,hb,-⟩,-⟩:=h;exact⟨es,clock,hb⟩
theorem MapV.mono{w:World}{z:Value}{b n m:Nat}{g:Int->Value}(h:MapV w z b n g)(hm:n<=m):MapV w z b m g:=by
 obtain⟨D,h1,h2⟩:=h;exact⟨D,h1.mono hm,h2⟩
theorem MapV.same{w w':World}{z:Value}{b n:Nat}{g:Int->Value}(h:MapV w z b n g)(hb:w'.heap[b]?=w.heap[b]?):MapV w' z b n g:=by
 obtain⟨D,⟨es,clock,h1,h2⟩,h3⟩:=h;exact⟨D,⟨es,clock,hb.trans h1,h2⟩,h3⟩
theorem MapV.kept{w w':World}{z:Value}{b n:Nat}{g:Int->Value}(h:MapV w z b n g)(hb:wBl w w'):MapV w' z b n g:=h.same (hb.block b h.lt)
theorem MapV.fr{S:Nat->Prop}{w w':World}{z:Value}{b n:Nat}{g:Int->Value}(h:MapV w z b n g)(hf:Fr S w w')(hs:¬ S b):MapV w' z b n g:=h.same (hf.block b h.lt hs)
theorem MapV.look{w:World}{z:Value}{b n:Nat}{g:Int->Value}(h:MapV w z b n g){t e:TypeId}(ht:Tryz.prog.underlying t=some (.map 3 e))(hz:(zeroValue e).run Tryz.prog w=.ok z w){i:Int}(hi:(Lit.int .i64 i).wf=true) :
  (Instr.lookup t (.map (some b)) (.int .i64 i) false).run Tryz.prog w=.ok (g i) w:=by
 obtain⟨D,h1,h2,h3⟩:=h;obtain⟨v,ps,r1,r2⟩:=h1.lookup (Maps.int_keyed mB) ht hz (zd:=.held z) (zp:=[]) rfl (Maps.keyOf_int_mk mB hi);rw [h3 i] at r2;have r3:(DataW.held v:DataW Value)=.held (g i):=congrArg Prod.fst (t8 r2);have r4:v=g i:=DataW.held.inj r3;exact r4 ▸ r1
theorem MapV.store{w:World}{z:Value}{b n:Nat}{g:Int->Value}(h:MapV w z b n g){t e:TypeId}(ht:Tryz.prog.underlying t=some (.map 3 e))(hn:n<maxLen){i:Int}(hi:(Lit.int .i64 i).wf=true)(v:Value) :
  ∃ w',(Instr.mapUpdate t (.map (some b)) (.int .i64 i) v).run Tryz.prog w=.ok () w'/\MapV w' z b (n+1) (nV g i v)/\w.grownBy w' (some b):=by
 obtain⟨D,h1,h2,h3⟩:=h;obtain⟨w',r1,r2,r3⟩:=h1.update (Maps.int_keyed mB) ht hn (val:=v) (d:=.held v) (ps:=[]) (Maps.keyOf_int_mk mB hi) rfl;refine⟨w',r1,⟨_,r2,h2.put _ _,fun j=>?_⟩,r3⟩;by_cases hj:j=i
 ·subst hj;rw [Maps.atKey_put_same h2 (show WideAt.IsKeyLit (.int .i64 j) from trivial),uH]
 ·rw [Maps.atKey_put_other (fun e=>hj (by injection e)),nC _ _ hj,h3 j]
theorem mV(w:World){ops:Array Oper}{rest:List Oper}{o:Oper}{a:Act}{Q:Exit->Act->World->Prop}(hg:o.guard=none)(m x:Operand)(t:TypeId)(hop:o.op=Op.lookup t m x false)(e:TypeId)
  (ht:Tryz.prog.underlying t=some (.map 3 e)) (z:Value) (b n:Nat) (g:Int->Value) (hm:a.eval m=.map (some b)) (h:MapV w z b n g) (hz:(zeroValue e).run Tryz.prog w=.ok z w) (i:Int) (hx:a.eval x=.int .i64 i) (hi:(Lit.int .i64 i).wf=true)
  (hK:wpList Tryz.prog ops Q rest (a.put o.dst (g i)) w):wpList Tryz.prog ops Q (o :: rest) a w:=by
 refine wpList_plain hg fun K' hK'=>?_;have hrun:=h.look ht hz hi;unfold Oper.wp;simp [execOp,hop,hm,hx,hrun,Result.andThen];exact hK' _ _ hK
theorem eK(w:World){ops:Array Oper}{rest:List Oper}{o:Oper}{a:Act}{Q:Exit->Act->World->Prop}(hg:o.guard=none)(m x y:Operand)(t:TypeId)(hop:o.op=Op.mapUpdate t m x y)(e:TypeId)
  (ht:Tryz.prog.underlying t=some (.map 3 e)) (z:Value) (b n:Nat) (g:Int->Value) (hm:a.eval m=.map (some b)) (h:MapV w z b n g) (hn:n<maxLen) (i:Int) (hx:a.eval x=.int .i64 i) (hi:(Lit.int .i64 i).wf=true) (v:Value) (hy:a.eval y=v)
  (hK:∀ w',MapV w' z b (n+1) (nV g i v)->w.grownBy w' (some b)->wpList Tryz.prog ops Q rest (a.put o.dst undef) w'):wpList Tryz.prog ops Q (o :: rest) a w:=by
 refine wpList_plain hg fun K' hK'=>?_;obtain⟨w',hrun,r1,r2⟩:=h.store ht hn hi v;unfold Oper.wp;simp [execOp,hop,hm,hx,hy,hrun,Result.andThen];exact hK' _ _ (hK w' r1 r2)
abbrev bx(b:Nat):Value:=.pointer (some (aDr b 0))
theorem wV{w w':World}{b:Nat}(h:∃ es clock,w.heap[b]?=some (.map es clock))(hf:Fr (fun k=>k=b) w w'):CK w w':=
 ⟨hf.size,fun k cur t fr _ hc=>(hf.block k (aB hc) (fun e=>by
  obtain⟨es,clock,hb⟩:=h;rw [e,hb] at hc;cases hc)).trans hc⟩
structure TW(GF OF RF GT OT RT MT:Nat)(w:World)(bm bg bo br bp bb:Nat)(c f:Bool):Prop where
 m:w.heap[bm]?=some (.cells #[.bool c,.bool f] 27 (0,0))
 g:w.heap[bg]?=some (.cells #[.func (.func GF) #[] #[bx bp]] GT (0,0))
 o:w.heap[bo]?=some (.cells #[.func (.func OF) #[] #[bx bm,bx bg,bx bo,bx br,bx bp]] OT (0,0))
 r:w.heap[br]?=some (.cells #[.func (.func RF) #[] #[]] RT (0,0))
 p:w.heap[bp]?=some (.cells #[.map (some bb)] MT (0,0))
theorem TW.ck{GF OF RF GT OT RT MT:Nat}{w w':World}{bm bg bo br bp bb:Nat}{c f:Bool}(h:TW GF OF RF GT OT RT MT w bm bg bo br bp bb c f)(hc:CK w w'):TW GF OF RF GT OT RT MT w' bm bg bo br bp bb c f:=
 ⟨hc.same _ _ _ _ (aB h.m) h.m,hc.same _ _ _ _ (aB h.g) h.g,hc.same _ _ _ _ (aB h.o) h.o,hc.same _ _ _ _ (aB h.r) h.r,hc.same _ _ _ _ (aB h.p) h.p⟩
def cW(f:Fl)(c o:Bool)(v:Value)(g:Value):Array Value:=#[.I f.k,.I f.n,.I f.mn,.I f.mx,.slice f.rq f.rs.length f.rc,.slice f.kq f.kl f.kc,.bool c,.bool o,v,g]
def Wr2(b s:Nat):Nat->Prop:=fun k=>k=b\/k=s
theorem fD{w W wr:World}{b s:Nat}(h:∃ es clock,W.heap[b]?=some (.map es clock))(hs:w.heap.size<=s)(hB:wBl w W)(hf:Fr (Wr2 b s) W wr):CK w wr:=
 ⟨m9 hB.size hf.size,fun k cur t fr hk hc=>by
  have h1:=(hB.block k hk).trans hc;refine(hf.block k (aB h1) ?_).trans h1;rintro (e | e)
  ·obtain⟨es,clock,hb⟩:=h;rw [e,hb] at h1;cases h1
  ·omega⟩
theorem sS{w W wr:World}{b s:Nat}(hs:w.heap.size<=s)(hB:wBl w W)(hf:Fr (Wr2 b s) W wr):Fr (fun k=>k=b) w wr:=
 ⟨hf.os.trans hB.os,hf.tape.trans hB.tape,hf.output.trans hB.output,m9 hB.size hf.size,fun k hk hn=>(hf.block k (o4 hk hB.size) (fun z=>by
  rcases z with e | e
  ·exact hn e
  ·omega)).trans (hB.block k hk)⟩
theorem rP{T:Type}(en:T->Value)(g:Int->T)(k:Int)(x:T):nV (fun i=>en (g i)) k (en x)=fun i=>en (nV g k x i):=by
 funext i
 unfold nV
 split <;> rfl
def bF(W:World)(b:Nat):Nat->List Value->World
 | _,[]=>W
 | o,v :: vs=>bF (W.setCell (aDr b o) v) b (o+1) vs
theorem aX(b:Nat):∀ (vs:List Value) (o:Nat) (W:World),Fr (fun k=>k=b) W (bF W b o vs)
 | [],_,W=>Fr.refl _ W
 | v :: vs,o,W=>((Fr.refl (fun k=>k=b) W).setCell (p:=(aDr b o)) rfl v).trans (aX b vs (o+1) _)
theorem uP(b:Nat)(t:TypeId):∀ (vs pre:List Value) (W:World) (cs:List Value),W.heap[b]?=some (.cells (pre++cs).toArray t (0,0))->cs.length=vs.length->(bF W b pre.length vs).heap[b]?=some (.cells (pre++vs).toArray t (0,0))
 | [],pre,W,cs,h,hl=>by
  have:cs=[]:=aAL hl;subst this;exact h
 | v :: vs,pre,W,[],h,hl=>by simp at hl
 | v :: vs,pre,W,c :: cs,h,hl=>by
  have h1:=aN h pre.length v;have h2:=uP b t vs (pre++[v]) (W.setCell ⟨b,pre.length,none⟩ v) cs (by rw [h1];simp) (by simpa using hl);rw [o8,aCG] at h2;simpa [bF] using h2
theorem aZ{W:World}{b:Nat}{t:TypeId}{cs:Array Value}(h:W.heap[b]?=some (.cells cs t (0,0)))(vs:List Value)(hl:cs.size=vs.length):(bF W b 0 vs).heap[b]?=some (.cells vs.toArray t (0,0)):=
 uP b t vs [] W cs.toList (by simpa using h) (by simpa using hl)
theorem lO{S:Nat->Prop}{a b c:World}{x:Nat}(h:Fr S a b)(k:Fr (fun z=>z=x) b c)(hx:a.heap.size<=x):Fr S a c:=
 ⟨k.os.trans h.os,k.tape.trans h.tape,k.output.trans h.output,m9 h.size k.size,fun i hi hs=>(k.block i (o4 hi h.size) (by omega)).trans (h.block i hi hs)⟩
theorem Fr.grownNew{S:Nat->Prop}{a w w':World}{row:Option Nat}(h:Fr S a w)(hg:w.grownBy w' row)(hr:∀ k,row=some k->a.heap.size<=k):Fr S a w':=
 ⟨hg.os.trans h.os,hg.tape.trans h.tape,hg.output.trans h.output,m9 h.size hg.size,fun k hk hs=>(hg.block k (o4 hk h.size) (fun e=>by have:=hr k e.symm;omega)).trans (h.block k hk hs)⟩
theorem bJ(W:World)(cs:List Value)(t:TypeId):∀ (j:Nat) (u:Value),cs[j]?=some u->(W.alloc (.cells cs.toArray t)).cell? (((aDr W.heap.size 0):Addr).add j)=some u:=by
 intro j u h;have hadd:((aDr W.heap.size 0):Addr).add j=(aDr W.heap.size j):=by unfold Addr.add;split <;> simp_all
 rw [hadd];exact aA (aE W (.cells cs.toArray t)) (i:=j) (by simpa using h)
theorem bK{w:World}{base:Nat}{e:TypeId}{size n b:Nat}{v:Value}{xs:List Value}(h:w.ownsRow base e size v n xs)(hb:∃ es cl,w.heap[b]?=some (.map es cl)):v.ownBlock≠some b:=fun q=>by
 obtain⟨_,_,cur,hc⟩:=aF h q;obtain⟨es,cl,hm⟩:=hb;rw [hm] at hc;cases hc
theorem aK{w:World}{k:Nat}(o:Obj)(h:k=w.heap.size):(w.alloc o).heap[k]?=some o:=by rw [h];exact aE w o
theorem kI{α:Type}(f:α->List Value)(N:Nat)(hf:∀ x,(f x).length=N):∀ (xs:List α) (i:Nat) (x:α),xs[i]?=some x->∀ j,j<N->(xs.flatMap f)[i*N+j]?=(f x)[j]?
 | [],i,x,h,_,_=>by simp at h
 | y :: ys,0,x,h,j,hj=>by
  simp at h;subst h;rw [aBB,aBL,n7,aAE (by rw [hf];exact hj)]
 | y :: ys,i+1,x,h,j,hj=>by
  rw [aBB,aAF (by rw [hf,Nat.add_mul];omega),hf,show (i+1)*N+j-N=i*N+j by rw [Nat.add_mul];omega];exact kI f N hf ys i x (by simpa using h) j hj
def top(m:Bool):Int:=if m then 1114111 else 255
def bS(m:Bool)(c:Int):Prop:=0<=c/\c<=top m/\(m=true->c<55296\/57343<c)
def dJ(m:Bool):lIi:=if m then [(0,55295),(57344,1114111)] else [(0,255)]
theorem jS(m:Bool):IsC (dJ m) (bS m):=by
 cases m with
 | true=>
  refine⟨⟨by simp [dJ],by simp [dJ]⟩,fun r hr=>?_,fun c=>?_⟩
  ·simp [dJ] at hr;rcases hr with rfl | rfl <;> simp
  ·simp [dJ,In,bS,top];omega
 | false=>
  refine⟨⟨by simp [dJ],by simp [dJ]⟩,fun r hr=>?_,fun c=>?_⟩
  ·simp [dJ] at hr;subst hr;simp
  ·simp [dJ,In,bS,top]
theorem jB(m:Bool):(dJ m).length<=2:=by cases m <;> simp [dJ]
theorem bN0(m:Bool)(w:World):Calls Tryz.prog 181 #[.bool m] w fun e w'=>e=.returned (.I (top m))/\w'=w:=by
 cases m with
 | true=>
  go_enter Tryz.func181,Tryz.ntmps181;go_wp2;go_ret;exact⟨rfl,rfl⟩
 | false=>
  go_enter Tryz.func181,Tryz.ntmps181;go_wp2;go_ret;exact⟨rfl,rfl⟩
theorem bL9(m:Bool)(w:World):Calls Tryz.prog 176 #[.bool m] w fun e w'=>∃ v,e=.returned v/\RR w.heap.size w' v (dJ m)/\wBl w w':=by
 cases m with
 | true=>
  go_enter Tryz.func176,Tryz.ntmps176;go_wp2_with (go_at_call 181;refine(bN0 _ _).mono ?_;rintro e w5 ⟨rfl,h5⟩;subst w5)
  go_ret;exact⟨_,rfl,World.ownsRow_lit w #[.I 0,.I 55295,.I 57344,.I 1114111] 2 lz9 (by unfold maxLen;omega) rfl,bz9⟩
 | false=>
  go_enter Tryz.func176,Tryz.ntmps176;go_wp2_with (go_at_call 181;refine(bN0 _ _).mono ?_;rintro e w5 ⟨rfl,h5⟩;subst w5)
  go_ret;exact⟨_,rfl,World.ownsRow_lit w #[.I 0,.I 255] 1 lz9 (by unfold maxLen;omega) rfl,bz9⟩
end Go.Proofs.YtdgfpiekjigfnaaGreatDoor
