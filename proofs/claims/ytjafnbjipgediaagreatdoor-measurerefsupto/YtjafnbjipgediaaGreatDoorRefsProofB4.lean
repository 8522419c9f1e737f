/-
  Parts of the proof.
-/
import Derived.Test.YtjafnbjipgediaaGreatDoorRefsProofB3
import Derived.Deep.RegionHeld3
import Derived.Deep.DrawnRows
import Derived.Deep.MidRow
import Derived.Laws.Bits64b
set_option maxRecDepth 100000
set_option maxHeartbeats 8000000
namespace Go.Proofs.YtjafnbjipgediaaGreatDoor
open Go Go.RowKit
section
attribute [local go_sem] gT gS gR gQ cD
def cC(lo hi:Int):cA:=bZ (cE (hi+1)) (cE lo)
def cR(lo hi:Int):Prop:=0<=lo/\lo<=hi/\hi<=255
theorem gG(i:Nat):aD (0#256) i=0:=by simp [aD]
theorem lD{w W W':World}(h:Below w.heap.size w W)(hb:Below W.heap.size W W'):Below w.heap.size w W':=h.trans (hb.mono h.size)
theorem lC{w W:World}{x0 fK fJ fI:Value}{t:TypeId}(h:Below (w.alloc (.cells #[x0,fK,fJ,fI] t)).heap.size (w.alloc (.cells #[x0,fK,fJ,fI] t)) W) :
  W.cell? ⟨w.heap.size,0,none⟩=some x0/\W.cell? ⟨w.heap.size,1,none⟩=some fK/\W.cell? ⟨w.heap.size,2,none⟩=some fJ/\W.cell? ⟨w.heap.size,3,none⟩=some fI/\∀ o,W.frozen? ⟨w.heap.size,o,none⟩=false:=by
 refine⟨?_,?_,?_,?_,fun o=>?_⟩
 ·rw [h.cell (by simp)];simp [go_sem]
 ·rw [h.cell (by simp)];simp [go_sem]
 ·rw [h.cell (by simp)];simp [go_sem]
 ·rw [h.cell (by simp)];simp [go_sem]
 ·rw [h.frozen (by simp)];simp [go_sem]
theorem rY(lo hi:Int)(w:World)(h:¬ cR lo hi) :
  Calls Tryz.prog 145 #[.int .i64 lo,.int .i64 hi] w fun e w'=>e=.returned (.tuple #[.agg #[.int .u64 (aD (0#256) 0),.int .u64 (aD (0#256) 1),.int .u64 (aD (0#256) 2),.int .u64 (aD (0#256) 3)],.int .i64 1])/\Below w.heap.size w w':=by
 unfold cR at h
 rw [gG,gG,gG,gG]
 have hc:lo < 0\/(0<=lo/\hi < lo)\/(0<=lo/\lo<=hi/\255 < hi):=by omega
 clear h
 rcases hc with h | ⟨h,h'⟩ | ⟨h,h',h''⟩
 all_goals
  go_enter Tryz.func145,Tryz.ntmps145
  go_wp2
  exact bodyPost_ret (v:=.tuple #[.agg #[.int .u64 0,.int .u64 0,.int .u64 0,.int .u64 0],.int .i64 1]) (by simp [results,Tryz.results145,go_sem]) rfl ⟨rfl,(Below.refl _ _).alloc (Nat.le_refl _) _⟩
theorem tO(lo hi:Int)(w:World)(h:cR lo hi) :
  Calls Tryz.prog 145 #[.int .i64 lo,.int .i64 hi] w fun e w'=>e=.returned (.tuple #[.agg #[.int .u64 (aD (cC lo hi) 0),.int .u64 (aD (cC lo hi) 1),.int .u64 (aD (cC lo hi) 2),.int .u64 (aD (cC lo hi) 3)],.int .i64 0])/\Below w.heap.size w w':=by
 obtain⟨h0,h1,h2⟩:=h
 go_enter Tryz.func145,Tryz.ntmps145
 go_wp2_with (first
  |(go_at_call 179;refine(lE _ _).mono ?_;rintro e w2 ⟨rfl,hb2⟩;have HB:=lD HA hb2)
  |(go_at_call 179;refine(lE _ _).mono ?_;rintro e w1 ⟨rfl,HA⟩)
  |(go_at_call 178;refine(tP _ _ _).mono ?_;rintro e w3 ⟨rfl,hb3⟩;have HC:=lD HB hb3;obtain⟨c0,c1,c2,c3,f0⟩:=lC HC))
 exact bodyPost_ret (v:=.tuple #[.agg #[.int .u64 (aD (cC lo hi) 0),.int .u64 (aD (cC lo hi) 1),.int .u64 (aD (cC lo hi) 2),.int .u64 (aD (cC lo hi) 3)],.int .i64 0]) (by simp [results,Tryz.results145,go_sem,cC,c0,c1,c2,c3]) rfl ⟨rfl,((((((Below.refl _ _).alloc (Nat.le_refl _) _).trans (HC.mono (by simp))).setCell (by simp) _).setCell (by simp) _).setCell (by simp) _).setCell (by simp) _⟩
open Classical in
noncomputable def fZ (lo hi:Int):cA:=if cR lo hi then cC lo hi else 0#256
open Classical in
noncomputable def mV (lo hi:Int):Int:=if cR lo hi then 0 else 1
theorem rZ(lo hi:Int)(w:World) :
  Calls Tryz.prog 145 #[.int .i64 lo,.int .i64 hi] w fun e w'=>e=.returned (.tuple #[.agg #[.int .u64 (aD (fZ lo hi) 0),.int .u64 (aD (fZ lo hi) 1),.int .u64 (aD (fZ lo hi) 2),.int .u64 (aD (fZ lo hi) 3)],.int .i64 (mV lo hi)])/\Below w.heap.size w w':=by
 unfold fZ mV
 by_cases h:cR lo hi
 ·rw [if_pos h,if_pos h];exact tO lo hi w h
 ·rw [if_neg h,if_neg h];exact rY lo hi w h
theorem sA{lo hi:Int}(h:cR lo hi):fZ lo hi=cC lo hi:=if_pos h
theorem sB{lo hi:Int}(h:cR lo hi):mV lo hi=0:=if_pos h
end
section
attribute [local go_sem] gT gS gR gQ cD gU
theorem eG{W:World}{g:Nat}{cur:Array Value}{t:TypeId}(hg:W.heap[g]?=some (.cells cur t (0,0)))(o:Nat)(v:Value):(W.setCell ⟨g,o,none⟩ v).heap[g]?=some (.cells (cur.setIfInBounds o v) t (0,0)):=by
 unfold World.setCell
 dsimp only
 rw [Array.getElem?_modify,if_pos rfl,hg]
 rfl
theorem z1_SetAt.store{W:World}{B:Nat}{s:cA}(h:z1_SetAt W B s)(t:cA) :
  z1_SetAt ((((W.setCell ⟨B,0,none⟩ (.int .u64 (aD t 0))).setCell ⟨B,1,none⟩ (.int .u64 (aD t 1))).setCell ⟨B,2,none⟩ (.int .u64 (aD t 2))).setCell ⟨B,3,none⟩ (.int .u64 (aD t 3))) B t:=
 (eG (eG (eG (eG h 0 _) 1 _) 2 _) 3 _).trans (by rfl)
theorem z1_SetAt.frozen{W:World}{B:Nat}{s:cA}(h:z1_SetAt W B s)(o:Nat):W.frozen? ⟨B,o,none⟩=false:=by simp [World.frozen?,show W.heap[B]?=_ from h]
end
section
attribute [local go_sem] gT gS gR gQ cD
def z1_RowAt(w:World)(v:Value)(rs:List (Int × Int)):Prop:=
 (∃ p cap,v=.slice p 0 cap/\rs=[]) \/
 ∃ (g off cap:Nat),v=.slice (some ⟨g,off,none⟩) rs.length cap/\g < w.heap.size/\rs.length<=cap/\cap<=maxLen /\
  ∀ i lo hi,rs[i]?=some (lo,hi)->w.cell? ⟨g,off+i * 2,none⟩=some (.int .i64 lo)/\w.cell? ⟨g,off+i * 2+1,none⟩=some (.int .i64 hi)
theorem z1_RowAt.below{w w':World}{v:Value}{rs:List (Int × Int)}(h:z1_RowAt w v rs)(hb:Below w.heap.size w w'):z1_RowAt w' v rs:=by
 rcases h with h | ⟨g,off,cap,rfl,hg,h1,h2,hc⟩
 ·exact .inl h
 ·exact .inr ⟨g,off,cap,rfl,Nat.lt_of_lt_of_le hg hb.size,h1,h2,fun i lo hi he=>⟨(hb.cell (p:=⟨g,off+i * 2,none⟩) hg).trans (hc i lo hi he).1,(hb.cell (p:=⟨g,off+i * 2+1,none⟩) hg).trans (hc i lo hi he).2⟩⟩
def bN(rs:List (Int × Int)):cA:=rs.foldl (fun s r=>bA s (cC r.1 r.2)) 0#256
def rA(rs:List (Int × Int)):Prop:=∀ r∈rs,cR r.1 r.2
theorem kP(rs:List (Int × Int))(r:Int × Int):bN (rs ++ [r])=bA (bN rs) (cC r.1 r.2):=by simp [bN]
theorem mU{α:Type}(l:List α)(k:Nat)(x:α)(h:l[k]?=some x):l.take (k+1)=l.take k ++ [x]:=by
 obtain⟨hk,rfl⟩:=List.getElem?_eq_some_iff.1 h
 rw [List.take_succ_eq_append_getElem hk]
theorem oO(rs:List (Int × Int))(v:Value)(w:World)(h:z1_RowAt w v rs)(hok:rA rs) :
  Calls Tryz.prog 121 #[v] w fun e w'=>e=.returned (.tuple #[.agg #[.int .u64 (aD (bN rs) 0),.int .u64 (aD (bN rs) 1),.int .u64 (aD (bN rs) 2),.int .u64 (aD (bN rs) 3)],.int .i64 0])/\Below w.heap.size w w':=by
 have HR:Hid (z1_RowAt w v rs):=h
 have HO:Hid (rA rs):=hok
 clear h hok
 obtain⟨p,cap,hv,hlen⟩:∃ p cap,v=.slice p rs.length cap/\rs.length<=maxLen:=by
  rcases HR.out with⟨p0,cap,rfl,rfl⟩ | ⟨g,off,cap,rfl,_,h1,h2,_⟩
  ·exact⟨p0,cap,rfl,by decide⟩
  ·exact⟨_,cap,rfl,Nat.le_trans h1 h2⟩
 subst hv
 unfold maxLen at hlen
 go_enter Tryz.func121,Tryz.ntmps121
 go_wp2
 go_loopw [11] (fun i wr=>∃ k:Nat,k<=rs.length/\i=.int .i64 k/\z1_SetAt wr (w.heap.size+1) (bN (rs.take k))/\Below (w.heap.size+1) (w.alloc (.cells #[.int .u64 0,.int .u64 0,.int .u64 0,.int .u64 0] 36)) wr) (fun i _=>rs.length - (intOf i).toNat)
 case atStart=>
  refine⟨0,Nat.zero_le _,rfl,?_,(Below.refl _ _).alloc (by simp) _⟩
  have:=z1_SetAt.new (w.alloc (.cells #[.int .u64 0,.int .u64 0,.int .u64 0,.int .u64 0] 36)) (0#256)
  simpa [gG,bN] using this
 case round=>
  obtain⟨k,hk,rfl,hset,hb⟩:=hrel
  have HS:Hid (z1_SetAt wr (w.heap.size+1) (bN (rs.take k))):=hset
  have HB:Hid (Below (w.heap.size+1) (w.alloc (.cells #[.int .u64 0,.int .u64 0,.int .u64 0,.int .u64 0] 36)) wr):=hb
  have HW:Hid (Below w.heap.size w wr):=((Below.refl _ _).alloc (Nat.le_refl _) _).trans (hb.mono (by simp))
  clear hset hb
  by_cases hlt:k < rs.length
  ·have HK:Hid (rs[k]?=some rs[k]):=List.getElem?_eq_getElem hlt
   have HT:Hid (rs.take (k+1)=rs.take k ++ [rs[k]]):=mU rs k _ HK.out
   have HX:Hid (cR rs[k].1 rs[k].2):=HO.out _ (List.getElem_mem hlt)
   generalize hlh:rs[k]=lh at HK HT HX
   obtain⟨lo,hi⟩:=lh
   clear hlh
   dsimp only at HX
   rcases HR.out.below HW.out with⟨_,_,h1,h2⟩ | ⟨g,off,cap',h1,hg,hc1,hc2,hcl⟩
   ·rw [h2] at hlt;simp at hlt
   ·cases h1
    obtain⟨q1,q2⟩:=hcl k lo hi HK.out
    unfold maxLen at hc2
    clear hcl
    obtain⟨S0,hS0⟩:∃ S0,bN (rs.take k)=S0:=⟨_,rfl⟩
    rw [hS0] at HS
    have HE:Hid (bN (rs.take k)=S0):=hS0
    clear hS0
    have R0:=sB HX.out
    have R1:=sA HX.out
    go_wp2_with (first
     |(go_at_call 145;refine(rZ _ _ _).mono ?_;rw [R0,R1];rintro e w2 ⟨rfl,hb2⟩;have H2:Hid (Below wr.heap.size wr w2):=lD ((Below.refl _ _).alloc (Nat.le_refl _) _) hb2;have S2:Hid (z1_SetAt w2 (w.heap.size+1) S0):=(HS.out.alloc _).below hb2 (HS.out.alloc _).lt;clear hb2;obtain⟨a0,a1,a2,a3⟩:=S2.out.cells;have z2:=S2.out.lt)
     |(go_at_call 86;refine(jZ _ _ _).mono ?_;rintro e w3 ⟨rfl,hb3⟩;have H3:Hid (Below wr.heap.size wr w3):=lD (H2.out.alloc H2.out.size _) hb3;have S3:Hid (z1_SetAt w3 (w.heap.size+1) S0):=(S2.out.alloc _).below hb3 (S2.out.alloc _).lt;clear hb3 a0 a1 a2 a3;obtain⟨a0,a1,a2,a3⟩:=S3.out.cells;have f3:=S3.out.frozen))
    go_roundw
    case rel=>
     refine⟨k+1,by omega,by go_num,?_,((((HB.out.trans (H3.out.mono (Nat.le_of_lt HS.out.lt))).setCell (by simp) _).setCell (by simp) _).setCell (by simp) _).setCell (by simp) _⟩
     rw [HT.out,kP,HE.out]
     exact S3.out.store _
    case measure=>simp [intOf];omega
  ·have hke:rs.take k=rs:=List.take_of_length_le (by omega)
   rw [hke] at HS
   obtain⟨a0,a1,a2,a3⟩:=HS.out.cells
   obtain⟨e0,e1,e2,e3,fz⟩:=lC (w:=w) (W:=wr) (by simpa using HB.out)
   clear hke
   go_wp2
   exact bodyPost_ret (v:=.tuple #[.agg #[.int .u64 (aD (bN rs) 0),.int .u64 (aD (bN rs) 1),.int .u64 (aD (bN rs) 2),.int .u64 (aD (bN rs) 3)],.int .i64 0]) (by simp [results,Tryz.results121,go_sem,e0,e1,e2,e3]) rfl ⟨rfl,((((((Below.refl _ _).alloc (Nat.le_refl _) _).trans (HB.out.mono (by simp))).setCell (by simp) _).setCell (by simp) _).setCell (by simp) _).setCell (by simp) _⟩
end
section
attribute [local go_sem] gT gS gR gQ cD
def aT6(f:Nat->Bool):Array Value:=((List.range 256).map fun i=>Value.bool (f i)).toArray
theorem tM(w:World):(zeroValue 238).run Tryz.prog w=.ok (.agg (aT6 fun _=>false)) w:=by kernel_rfl
theorem zT:Tryz.zeroCells238=aT6 (fun _=>false):=by kernel_rfl
attribute [local go_sem] tM zT
end
section
attribute [local go_sem] cD gU
def kT(f:Nat->Bool)(k:Nat):cA:=(List.range k).foldl (fun s b=>if f b then bA s (lB (b:Int)) else s) 0#256
theorem tR(f:Nat->Bool)(k:Nat):kT f (k+1)=if f k then bA (kT f k) (lB (k:Int)) else kT f k:=by
 unfold kT
 rw [List.range_succ,List.foldl_append]
 rfl
theorem kU(f:Nat->Bool)(n:Nat):∀ k,k<=256->(kT f k).getLsbD n=(decide (n < k) && f n)
 | 0,_=>by simp [kT]
 | k+1,hk=>by
  have ih:=kU f n k (by omega)
  rw [tR]
  by_cases h:n=k
  ·subst h
   cases hf:f n
   ·simp [ih,hf]
   ·simp only [if_true,bA,BitVec.getLsbD_or,ih,hf,nM]
    simp;omega
  ·have hd:decide (n < k+1)=decide (n < k):=by
    rw [Bool.eq_iff_iff];simp;omega
   rw [hd]
   split
   ·simp only [bA,BitVec.getLsbD_or,ih,nM]
    have:¬ (k:Int)=(n:Int):=by omega
    simp [this]
   ·exact ih
end
def fK(x:Nat):Nat:=(x / 2 &&& 6148914691236517205)+(x &&& 6148914691236517205)
def fJ(x:Nat):Nat:=(x / 4 &&& 3689348814741910323)+(x &&& 3689348814741910323)
def fI(x:Nat):Nat:=(x / 16+x) &&& 1085102592571150095
section
attribute [local go_sem] gT gS gR gQ cD gU wG nL
theorem zX(a b:cA)(n:Nat):(bA a b).getLsbD n=(a.getLsbD n || b.getLsbD n):=by simp [bA]
end
end Go.Proofs.YtjafnbjipgediaaGreatDoor
