/-
  Parts of the proof.
-/
import Derived.Test.YtjafnbjipgediaaGreatDoorPartsProofB3
import Derived.Deep.RegionHeld3
import Derived.Deep.DrawnRows
import Derived.Deep.MidRow
import Derived.Laws.Bits64b
set_option maxRecDepth 100000
set_option maxHeartbeats 8000000
namespace Go.Proofs.YtjafnbjipgediaaGreatDoor
open Go Go.RowKit
section
attribute [local go_sem] gS gR gQ gP cD
def cC(lo hi:Int):cA:=bZ (cF (hi+1)) (cF lo)
def cR(lo hi:Int):Prop:=0<=lo/\lo<=hi/\hi<=255
theorem gG(i:Nat):aC (0#256) i=0:=by simp [aC]
theorem lB{w W W':World}(h:Below w.heap.size w W)(hb:Below W.heap.size W W'):Below w.heap.size w W':=h.trans (hb.mono h.size)
theorem lA{w W:World}{x0 fH fG fF:Value}{t:TypeId}(h:Below (w.alloc (.cells #[x0,fH,fG,fF] t)).heap.size (w.alloc (.cells #[x0,fH,fG,fF] t)) W) :
  W.cell? ⟨w.heap.size,0,none⟩=some x0/\W.cell? ⟨w.heap.size,1,none⟩=some fH/\W.cell? ⟨w.heap.size,2,none⟩=some fG/\W.cell? ⟨w.heap.size,3,none⟩=some fF/\∀ o,W.frozen? ⟨w.heap.size,o,none⟩=false:=by
 refine⟨?_,?_,?_,?_,fun o=>?_⟩
 ·rw [h.cell (by simp)];simp [go_sem]
 ·rw [h.cell (by simp)];simp [go_sem]
 ·rw [h.cell (by simp)];simp [go_sem]
 ·rw [h.cell (by simp)];simp [go_sem]
 ·rw [h.frozen (by simp)];simp [go_sem]
theorem rN(lo hi:Int)(w:World)(h:¬ cR lo hi) :
  Calls Tryz.prog 145 #[.int .i64 lo,.int .i64 hi] w fun e w'=>e=.returned (.tuple #[.agg #[.int .u64 (aC (0#256) 0),.int .u64 (aC (0#256) 1),.int .u64 (aC (0#256) 2),.int .u64 (aC (0#256) 3)],.int .i64 1])/\Below w.heap.size w w':=by
 unfold cR at h
 rw [gG,gG,gG,gG]
 have hc:lo < 0\/(0<=lo/\hi < lo)\/(0<=lo/\lo<=hi/\255 < hi):=by omega
 clear h
 rcases hc with h | ⟨h,h'⟩ | ⟨h,h',h''⟩
 all_goals
  go_enter Tryz.func145,Tryz.ntmps145
  go_wp2
  exact bodyPost_ret (v:=.tuple #[.agg #[.int .u64 0,.int .u64 0,.int .u64 0,.int .u64 0],.int .i64 1]) (by simp [results,Tryz.results145,go_sem]) rfl ⟨rfl,(Below.refl _ _).alloc (Nat.le_refl _) _⟩
theorem tJ(lo hi:Int)(w:World)(h:cR lo hi) :
  Calls Tryz.prog 145 #[.int .i64 lo,.int .i64 hi] w fun e w'=>e=.returned (.tuple #[.agg #[.int .u64 (aC (cC lo hi) 0),.int .u64 (aC (cC lo hi) 1),.int .u64 (aC (cC lo hi) 2),.int .u64 (aC (cC lo hi) 3)],.int .i64 0])/\Below w.heap.size w w':=by
 obtain⟨h0,h1,h2⟩:=h
 go_enter Tryz.func145,Tryz.ntmps145
 go_wp2_with (first
  |(go_at_call 179;refine(lC _ _).mono ?_;rintro e w2 ⟨rfl,hb2⟩;have HB:=lB HA hb2)
  |(go_at_call 179;refine(lC _ _).mono ?_;rintro e w1 ⟨rfl,HA⟩)
  |(go_at_call 178;refine(tK _ _ _).mono ?_;rintro e w3 ⟨rfl,hb3⟩;have HC:=lB HB hb3;obtain⟨c0,c1,c2,c3,f0⟩:=lA HC))
 exact bodyPost_ret (v:=.tuple #[.agg #[.int .u64 (aC (cC lo hi) 0),.int .u64 (aC (cC lo hi) 1),.int .u64 (aC (cC lo hi) 2),.int .u64 (aC (cC lo hi) 3)],.int .i64 0]) (by simp [results,Tryz.results145,go_sem,cC,c0,c1,c2,c3]) rfl ⟨rfl,((((((Below.refl _ _).alloc (Nat.le_refl _) _).trans (HC.mono (by simp))).setCell (by simp) _).setCell (by simp) _).setCell (by simp) _).setCell (by simp) _⟩
open Classical in
noncomputable def fY (lo hi:Int):cA:=if cR lo hi then cC lo hi else 0#256
open Classical in
noncomputable def mO (lo hi:Int):Int:=if cR lo hi then 0 else 1
theorem rO(lo hi:Int)(w:World) :
  Calls Tryz.prog 145 #[.int .i64 lo,.int .i64 hi] w fun e w'=>e=.returned (.tuple #[.agg #[.int .u64 (aC (fY lo hi) 0),.int .u64 (aC (fY lo hi) 1),.int .u64 (aC (fY lo hi) 2),.int .u64 (aC (fY lo hi) 3)],.int .i64 (mO lo hi)])/\Below w.heap.size w w':=by
 unfold fY mO
 by_cases h:cR lo hi
 ·rw [if_pos h,if_pos h];exact tJ lo hi w h
 ·rw [if_neg h,if_neg h];exact rN lo hi w h
theorem rP{lo hi:Int}(h:cR lo hi):fY lo hi=cC lo hi:=if_pos h
theorem rQ{lo hi:Int}(h:cR lo hi):mO lo hi=0:=if_pos h
end
section
attribute [local go_sem] gS gR gQ gP cD gT
theorem eH{W:World}{g:Nat}{cur:Array Value}{t:TypeId}(hg:W.heap[g]?=some (.cells cur t (0,0)))(o:Nat)(v:Value):(W.setCell ⟨g,o,none⟩ v).heap[g]?=some (.cells (cur.setIfInBounds o v) t (0,0)):=by
 unfold World.setCell
 dsimp only
 rw [Array.getElem?_modify,if_pos rfl,hg]
 rfl
theorem z1_SetAt.store{W:World}{B:Nat}{s:cA}(h:z1_SetAt W B s)(t:cA) :
  z1_SetAt ((((W.setCell ⟨B,0,none⟩ (.int .u64 (aC t 0))).setCell ⟨B,1,none⟩ (.int .u64 (aC t 1))).setCell ⟨B,2,none⟩ (.int .u64 (aC t 2))).setCell ⟨B,3,none⟩ (.int .u64 (aC t 3))) B t:=
 (eH (eH (eH (eH h 0 _) 1 _) 2 _) 3 _).trans (by rfl)
theorem z1_SetAt.frozen{W:World}{B:Nat}{s:cA}(h:z1_SetAt W B s)(o:Nat):W.frozen? ⟨B,o,none⟩=false:=by simp [World.frozen?,show W.heap[B]?=_ from h]
end
section
attribute [local go_sem] gS gR gQ gP cD
def z1_RowAt(w:World)(v:Value)(rs:List (Int × Int)):Prop:=
 (∃ p cap,v=.slice p 0 cap/\rs=[]) \/
 ∃ (g off cap:Nat),v=.slice (some ⟨g,off,none⟩) rs.length cap/\g < w.heap.size/\rs.length<=cap/\cap<=maxLen /\
  ∀ i lo hi,rs[i]?=some (lo,hi)->w.cell? ⟨g,off+i * 2,none⟩=some (.int .i64 lo)/\w.cell? ⟨g,off+i * 2+1,none⟩=some (.int .i64 hi)
theorem z1_RowAt.below{w w':World}{v:Value}{rs:List (Int × Int)}(h:z1_RowAt w v rs)(hb:Below w.heap.size w w'):z1_RowAt w' v rs:=by
 rcases h with h | ⟨g,off,cap,rfl,hg,h1,h2,hc⟩
 ·exact .inl h
 ·exact .inr ⟨g,off,cap,rfl,Nat.lt_of_lt_of_le hg hb.size,h1,h2,fun i lo hi he=>⟨(hb.cell (p:=⟨g,off+i * 2,none⟩) hg).trans (hc i lo hi he).1,(hb.cell (p:=⟨g,off+i * 2+1,none⟩) hg).trans (hc i lo hi he).2⟩⟩
def bK(rs:List (Int × Int)):cA:=rs.foldl (fun s r=>aY s (cC r.1 r.2)) 0#256
def qL(rs:List (Int × Int)):Prop:=∀ r∈rs,cR r.1 r.2
theorem kJ(rs:List (Int × Int))(r:Int × Int):bK (rs ++ [r])=aY (bK rs) (cC r.1 r.2):=by simp [bK]
theorem mN{α:Type}(l:List α)(k:Nat)(x:α)(h:l[k]?=some x):l.take (k+1)=l.take k ++ [x]:=by
 obtain⟨hk,rfl⟩:=List.getElem?_eq_some_iff.1 h
 rw [List.take_succ_eq_append_getElem hk]
theorem oB(rs:List (Int × Int))(v:Value)(w:World)(h:z1_RowAt w v rs)(hok:qL rs) :
  Calls Tryz.prog 121 #[v] w fun e w'=>e=.returned (.tuple #[.agg #[.int .u64 (aC (bK rs) 0),.int .u64 (aC (bK rs) 1),.int .u64 (aC (bK rs) 2),.int .u64 (aC (bK rs) 3)],.int .i64 0])/\Below w.heap.size w w':=by
 have HR:Hid (z1_RowAt w v rs):=h
 have HO:Hid (qL rs):=hok
 clear h hok
 obtain⟨p,cap,hv,hlen⟩:∃ p cap,v=.slice p rs.length cap/\rs.length<=maxLen:=by
  rcases HR.out with⟨p0,cap,rfl,rfl⟩ | ⟨g,off,cap,rfl,_,h1,h2,_⟩
  ·exact⟨p0,cap,rfl,by decide⟩
  ·exact⟨_,cap,rfl,Nat.le_trans h1 h2⟩
 subst hv
 unfold maxLen at hlen
 go_enter Tryz.func121,Tryz.ntmps121
 go_wp2
 go_loopw [11] (fun i wr=>∃ k:Nat,k<=rs.length/\i=.int .i64 k/\z1_SetAt wr (w.heap.size+1) (bK (rs.take k))/\Below (w.heap.size+1) (w.alloc (.cells #[.int .u64 0,.int .u64 0,.int .u64 0,.int .u64 0] 36)) wr) (fun i _=>rs.length - (intOf i).toNat)
 case atStart=>
  refine⟨0,Nat.zero_le _,rfl,?_,(Below.refl _ _).alloc (by simp) _⟩
  have:=z1_SetAt.new (w.alloc (.cells #[.int .u64 0,.int .u64 0,.int .u64 0,.int .u64 0] 36)) (0#256)
  simpa [gG,bK] using this
 case round=>
  obtain⟨k,hk,rfl,hset,hb⟩:=hrel
  have HS:Hid (z1_SetAt wr (w.heap.size+1) (bK (rs.take k))):=hset
  have HB:Hid (Below (w.heap.size+1) (w.alloc (.cells #[.int .u64 0,.int .u64 0,.int .u64 0,.int .u64 0] 36)) wr):=hb
  have HW:Hid (Below w.heap.size w wr):=((Below.refl _ _).alloc (Nat.le_refl _) _).trans (hb.mono (by simp))
  clear hset hb
  by_cases hlt:k < rs.length
  ·have HK:Hid (rs[k]?=some rs[k]):=List.getElem?_eq_getElem hlt
   have HT:Hid (rs.take (k+1)=rs.take k ++ [rs[k]]):=mN rs k _ HK.out
   have HX:Hid (cR rs[k].1 rs[k].2):=HO.out _ (List.getElem_mem hlt)
   generalize hlh:rs[k]=lh at HK HT HX
   obtain⟨lo,hi⟩:=lh
   clear hlh
   dsimp only at HX
   rcases HR.out.below HW.out with⟨_,_,h1,h2⟩ | ⟨g,off,cap',h1,hg,hc1,hc2,hcl⟩
   ·rw [h2] at hlt;simp at hlt
   ·cases h1
    obtain⟨q1,q2⟩:=hcl k lo hi HK.out
    unfold maxLen at hc2
    clear hcl
    obtain⟨S0,hS0⟩:∃ S0,bK (rs.take k)=S0:=⟨_,rfl⟩
    rw [hS0] at HS
    have HE:Hid (bK (rs.take k)=S0):=hS0
    clear hS0
    have R0:=rQ HX.out
    have R1:=rP HX.out
    go_wp2_with (first
     |(go_at_call 145;refine(rO _ _ _).mono ?_;rw [R0,R1];rintro e w2 ⟨rfl,hb2⟩;have H2:Hid (Below wr.heap.size wr w2):=lB ((Below.refl _ _).alloc (Nat.le_refl _) _) hb2;have S2:Hid (z1_SetAt w2 (w.heap.size+1) S0):=(HS.out.alloc _).below hb2 (HS.out.alloc _).lt;clear hb2;obtain⟨a0,a1,a2,a3⟩:=S2.out.cells;have z2:=S2.out.lt)
     |(go_at_call 86;refine(jW _ _ _).mono ?_;rintro e w3 ⟨rfl,hb3⟩;have H3:Hid (Below wr.heap.size wr w3):=lB (H2.out.alloc H2.out.size _) hb3;have S3:Hid (z1_SetAt w3 (w.heap.size+1) S0):=(S2.out.alloc _).below hb3 (S2.out.alloc _).lt;clear hb3 a0 a1 a2 a3;obtain⟨a0,a1,a2,a3⟩:=S3.out.cells;have f3:=S3.out.frozen))
    go_roundw
    case rel=>
     refine⟨k+1,by omega,by go_num,?_,((((HB.out.trans (H3.out.mono (Nat.le_of_lt HS.out.lt))).setCell (by simp) _).setCell (by simp) _).setCell (by simp) _).setCell (by simp) _⟩
     rw [HT.out,kJ,HE.out]
     exact S3.out.store _
    case measure=>simp [intOf];omega
  ·have hke:rs.take k=rs:=List.take_of_length_le (by omega)
   rw [hke] at HS
   obtain⟨a0,a1,a2,a3⟩:=HS.out.cells
   obtain⟨e0,e1,e2,e3,fz⟩:=lA (w:=w) (W:=wr) (by simpa using HB.out)
   clear hke
   go_wp2
   exact bodyPost_ret (v:=.tuple #[.agg #[.int .u64 (aC (bK rs) 0),.int .u64 (aC (bK rs) 1),.int .u64 (aC (bK rs) 2),.int .u64 (aC (bK rs) 3)],.int .i64 0]) (by simp [results,Tryz.results121,go_sem,e0,e1,e2,e3]) rfl ⟨rfl,((((((Below.refl _ _).alloc (Nat.le_refl _) _).trans (HB.out.mono (by simp))).setCell (by simp) _).setCell (by simp) _).setCell (by simp) _).setCell (by simp) _⟩
end
section
attribute [local go_sem] gS gR gQ gP cD
def aP8(f:Nat->Bool):Array Value:=((List.range 256).map fun i=>Value.bool (f i)).toArray
theorem tH(w:World):(zeroValue 238).run Tryz.prog w=.ok (.agg (aP8 fun _=>false)) w:=by kernel_rfl
theorem zB:Tryz.zeroCells238=aP8 (fun _=>false):=by kernel_rfl
attribute [local go_sem] tH zB
end
section
attribute [local go_sem] cD gT
def kN(f:Nat->Bool)(k:Nat):cA:=(List.range k).foldl (fun s b=>if f b then aY s (kZ (b:Int)) else s) 0#256
theorem tM(f:Nat->Bool)(k:Nat):kN f (k+1)=if f k then aY (kN f k) (kZ (k:Int)) else kN f k:=by
 unfold kN
 rw [List.range_succ,List.foldl_append]
 rfl
theorem kO(f:Nat->Bool)(n:Nat):∀ k,k<=256->(kN f k).getLsbD n=(decide (n < k) && f n)
 | 0,_=>by simp [kN]
 | k+1,hk=>by
  have ih:=kO f n k (by omega)
  rw [tM]
  by_cases h:n=k
  ·subst h
   cases hf:f n
   ·simp [ih,hf]
   ·simp only [if_true,aY,BitVec.getLsbD_or,ih,hf,nC]
    simp;omega
  ·have hd:decide (n < k+1)=decide (n < k):=by
    rw [Bool.eq_iff_iff];simp;omega
   rw [hd]
   split
   ·simp only [aY,BitVec.getLsbD_or,ih,nC]
    have:¬ (k:Int)=(n:Int):=by omega
    simp [this]
   ·exact ih
end
def fH(x:Nat):Nat:=(x / 2 &&& 6148914691236517205)+(x &&& 6148914691236517205)
def fG(x:Nat):Nat:=(x / 4 &&& 3689348814741910323)+(x &&& 3689348814741910323)
def fF(x:Nat):Nat:=(x / 16+x) &&& 1085102592571150095
section
attribute [local go_sem] gS gR gQ gP cD gT vY nB
theorem zF(a b:cA)(n:Nat):(aY a b).getLsbD n=(a.getLsbD n || b.getLsbD n):=by simp [aY]
end
end Go.Proofs.YtjafnbjipgediaaGreatDoor
