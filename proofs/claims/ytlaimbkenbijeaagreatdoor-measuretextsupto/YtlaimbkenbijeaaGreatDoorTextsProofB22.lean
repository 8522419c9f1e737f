/-
  Parts of the proof.
-/
import Derived.Test.YtlaimbkenbijeaaGreatDoorTextsProofA0
import Derived.Test.YtlaimbkenbijeaaGreatDoorTextsProofA1
import Derived.Test.YtlaimbkenbijeaaGreatDoorTextsProofB21
import Derived.Test.YtlaimbkenbijeaaGreatDoorTextsProofB3
import Derived.Deep.RegionHeld
import Derived.Laws.EntriesVeiled
set_option maxRecDepth 100000
set_option maxHeartbeats 8000000
namespace Go.Proofs.YtlaimbkenbijeaaGreatDoor
open Go Go.RowKit
section
attribute [local go_sem] Oper.semAt_some bB
def bP0(_:BitVec 256 × Bool):Prop:=True
def jY(xs:List (BitVec 256 × Bool)):BitVec 256:=xs.foldl (fun a x=>aN a x.1) 0#256
noncomputable def bJ (c:Bool):dH (BitVec 256 × Bool):=fun f _ xs g=>
 if f.k=2 then (fB c f.rs,false) else if f.k=5 then lP 0#256 xs else if f.k=6 then (jY xs,xs.any (·.2)) else if f.k=7 then xs.headD (0#256,false)
 else if f.k=8 then g f.n else if f.k=9/\f.mx≠0 then ((xs.headD (0#256,false)).1,f.mn==0 ||(xs.headD (0#256,false)).2) else (0#256,true)
theorem aD9(c:Bool):bA0 (bJ c):=fun f ks xs g g' h=>by
 unfold bJ
 by_cases hk:f.k=8
 ·rw [h hk]
 ·simp [hk]
def GloS(W:World):Prop:=z5_Spans W/\0 < W.heap.size
theorem GloS.ck{A B:World}(h:CK A B)(k:GloS A):GloS B:=⟨fun i v hv=>dP h (p:=⟨0,i,none⟩) k.2 (k.1 i v hv),i6 k.2 h.size⟩
theorem fD{R:Ending->World->Prop}{a:Act}{W:World}{b:Nat}{x:BitVec 256 × Bool}(h:W.heap[b]?=some (.cells #[.int .u64 (aC x.1 0),.int .u64 (aC x.1 1),.int .u64 (aC x.1 2),.int .u64 (aC x.1 3),.bool x.2] 76 (0,0)))(ha:a.tmps[2]?.getD undef=.pointer (some ⟨b,0,none⟩))(hd:a.defers=[])(hR:R (.returned (enS x)) W):bodyPost Tryz.prog Tryz.f45 R .ret a W:=by
 refine bodyPost_ret (v:=enS x) ?_ hd hR
 have z0:=aA h (i:=0) rfl;have z1:=aA h (i:=1) rfl;have z2:=aA h (i:=2) rfl;have z3:=aA h (i:=3) rfl;have z4:=aA h (i:=4) rfl
 simp [results,Tryz.results45,go_sem,ha,enS,z0,z1,z2,z3,z4]
def OneS(W V:World):Prop:=V.heap[W.heap.size+1]?=some (.cells #[.int .u64 0,.int .u64 0,.int .u64 0,.int .u64 0,.bool false] 76 (0,0))/\Below W.heap.size W V
theorem OneS.kept{W V V':World}(h:OneS W V)(hb:Below V.heap.size V V'):OneS W V':=⟨(hb.block _ (aB h.1)).trans h.1,aJ h.2 hb lz9⟩
theorem OneS.end{W V:World}(h:OneS W V)(a:BitVec 256)(b:Bool):(bD V (W.heap.size+1) 0 [.int .u64 (aC a 0),.int .u64 (aC a 1),.int .u64 (aC a 2),.int .u64 (aC a 3),.bool b]).heap[W.heap.size+1]?=some (.cells #[.int .u64 (aC a 0),.int .u64 (aC a 1),.int .u64 (aC a 2),.int .u64 (aC a 3),.bool b] 76 (0,0))/\Below W.heap.size W (bD V (W.heap.size+1) 0 [.int .u64 (aC a 0),.int .u64 (aC a 1),.int .u64 (aC a 2),.int .u64 (aC a 3),.bool b]):=
 ⟨bA h.1 [.int .u64 (aC a 0),.int .u64 (aC a 1),.int .u64 (aC a 2),.int .u64 (aC a 3),.bool b] rfl,bC h.2 (aV _ _ 0 V) lz9 (fun _ e=>e ▸ Nat.le_succ _)⟩
theorem bF1(c o:Bool):RuS GloS (NP c o) bP0 (bJ c) c o:=by
 intro t xs g W v bp bb n base hgl hnp hsz hnb hlen _ _ hown hp hm
 obtain⟨qv,cv,rfl⟩:=aZ hown
 have HLEN:=aD hlen
 have HGL:=aD hgl
 have HNB:=aD hnb
 have HP:=aD hp
 have HM:=aD hm
 have hxl:xs.length<=1000000:=by rw [hlen];exact hsz
 have HRW:=aD (RowS.of hown)
 clear hown hnb hp hm hlen hsz hgl
 unfold dE
 go_enter Tryz.func45,Tryz.ntmps45
 go_upto_region 2 with fail
 have S0:Hid (((W.alloc (.cells #[.int .i64 t.f.k,.int .i64 t.f.n,.int .i64 t.f.mn,.int .i64 t.f.mx,.slice t.f.rq t.f.rs.length t.f.rc,.slice t.f.kq t.f.kl t.f.kc,.bool c,.bool o,.slice qv xs.length cv,.func (.func 82) #[] #[bx bp]] 138)).alloc (.cells #[.int .u64 0,.int .u64 0,.int .u64 0,.int .u64 0,.bool false] 76)).heap[W.heap.size]?=some (.cells #[.int .i64 t.f.k,.int .i64 t.f.n,.int .i64 t.f.mn,.int .i64 t.f.mx,.slice t.f.rq t.f.rs.length t.f.rc,.slice t.f.kq t.f.kl t.f.kc,.bool c,.bool o,.slice qv xs.length cv,.func (.func 82) #[] #[bx bp]] 138 (0,0))):=(Below.heap_alloc _ _ _ (by simp only [a7];omega)).trans (aE W _)
 have T0:Hid (OneS W ((W.alloc (.cells #[.int .i64 t.f.k,.int .i64 t.f.n,.int .i64 t.f.mn,.int .i64 t.f.mx,.slice t.f.rq t.f.rs.length t.f.rc,.slice t.f.kq t.f.kl t.f.kc,.bool c,.bool o,.slice qv xs.length cv,.func (.func 82) #[] #[bx bp]] 138)).alloc (.cells #[.int .u64 0,.int .u64 0,.int .u64 0,.int .u64 0,.bool false] 76))):=⟨aK _ (by simp only [a7]),(bz9).alloc (by simp only [a7];omega) _⟩
 have l0:W.heap.size < ((W.alloc (.cells #[.int .i64 t.f.k,.int .i64 t.f.n,.int .i64 t.f.mn,.int .i64 t.f.mx,.slice t.f.rq t.f.rs.length t.f.rc,.slice t.f.kq t.f.kl t.f.kc,.bool c,.bool o,.slice qv xs.length cv,.func (.func 82) #[] #[bx bp]] 138)).alloc (.cells #[.int .u64 0,.int .u64 0,.int .u64 0,.int .u64 0,.bool false] 76)).heap.size:=by simp only [a7];omega
 have l1:W.heap.size+1 < ((W.alloc (.cells #[.int .i64 t.f.k,.int .i64 t.f.n,.int .i64 t.f.mn,.int .i64 t.f.mx,.slice t.f.rq t.f.rs.length t.f.rc,.slice t.f.kq t.f.kl t.f.kc,.bool c,.bool o,.slice qv xs.length cv,.func (.func 82) #[] #[bx bp]] 138)).alloc (.cells #[.int .u64 0,.int .u64 0,.int .u64 0,.int .u64 0,.bool false] 76)).heap.size:=by simp only [a7];omega
 generalize hW0:((W.alloc (.cells #[.int .i64 t.f.k,.int .i64 t.f.n,.int .i64 t.f.mn,.int .i64 t.f.mx,.slice t.f.rq t.f.rs.length t.f.rc,.slice t.f.kq t.f.kl t.f.kc,.bool c,.bool o,.slice qv xs.length cv,.func (.func 82) #[] #[bx bp]] 138)).alloc (.cells #[.int .u64 0,.int .u64 0,.int .u64 0,.int .u64 0,.bool false] 76))=W0 at S0 T0 l0 l1 ⊢
 clear hW0
 have RW0:=aD (HRW.out.kept T0.out.2)
 have s0:W0.cell? ⟨W.heap.size,0,none⟩=some (.int .i64 t.f.k):=aA S0.out (i:=0) rfl
 have s1:W0.cell? ⟨W.heap.size,1,none⟩=some (.int .i64 t.f.n):=aA S0.out (i:=1) rfl
 have s2:W0.cell? ⟨W.heap.size,2,none⟩=some (.int .i64 t.f.mn):=aA S0.out (i:=2) rfl
 have s3:W0.cell? ⟨W.heap.size,3,none⟩=some (.int .i64 t.f.mx):=aA S0.out (i:=3) rfl
 have s4:W0.cell? ⟨W.heap.size,4,none⟩=some (.slice t.f.rq t.f.rs.length t.f.rc):=aA S0.out (i:=4) rfl
 have s5:W0.cell? ⟨W.heap.size,5,none⟩=some (.slice t.f.kq t.f.kl t.f.kc):=aA S0.out (i:=5) rfl
 have s6:W0.cell? ⟨W.heap.size,6,none⟩=some (.bool c):=aA S0.out (i:=6) rfl
 have s7:W0.cell? ⟨W.heap.size,7,none⟩=some (.bool o):=aA S0.out (i:=7) rfl
 have s8:W0.cell? ⟨W.heap.size,8,none⟩=some (.slice qv xs.length cv):=aA S0.out (i:=8) rfl
 have s9:W0.cell? ⟨W.heap.size,9,none⟩=some (.func (.func 82) #[] #[bx bp]):=aA S0.out (i:=9) rfl
 rcases hQ hnp with hk | hk | hk | hk | hk | hk | hk | hk | hk
 ·have hv:Hid (bJ c t.f t.ks xs g=(0#256,true)):=(by unfold bJ;rw [hk];rfl)
  have e2:(t.f.k==2)=false:=by rw [hk];rfl
  have e5:(t.f.k==5)=false:=by rw [hk];rfl
  have e6:(t.f.k==6)=false:=by rw [hk];rfl
  have e7:(t.f.k==7)=false:=by rw [hk];rfl
  have e8:(t.f.k==8)=false:=by rw [hk];rfl
  have e9:(t.f.k==9)=false:=by rw [hk];rfl
  clear hk hnp
  have z0:=aA T0.out.1 (i:=0) rfl
  have z1:=aA T0.out.1 (i:=1) rfl
  have z2:=aA T0.out.1 (i:=2) rfl
  have z3:=aA T0.out.1 (i:=3) rfl
  have z4:=aA T0.out.1 (i:=4) rfl
  have fz:=fun z=>aG T0.out.1 z
  go_wp2
  have T9:=T0.out.end 0#256 true
  simp only [bD,bZ] at T9
  refine fD (b:=W.heap.size+1) (x:=(0#256,true)) (by simp only [bZ];exact T9.1) rfl rfl ?_
  exact⟨by rw [hv.out],T9.2⟩
 ·obtain⟨X,hX⟩:∃ X,fB c t.f.rs=X:=⟨_,rfl⟩
  have hv:Hid (bJ c t.f t.ks xs g=(X,false)):=(by unfold bJ;rw [hk,<- hX];rfl)
  have HD:=aD (wS (w:=W0) (q:=t.f.rq) (k:=t.f.rc) (L:=t.f.rs) c o (HNB.out.r.kept T0.out.2) (pT hnp hk) (GloS.ck (CK.of_below T0.out.2) HGL.out).1 (GloS.ck (CK.of_below T0.out.2) HGL.out).2 hX)
  have e2:(t.f.k==2)=true:=by rw [hk];rfl
  have e5:(t.f.k==5)=false:=by rw [hk];rfl
  have e6:(t.f.k==6)=false:=by rw [hk];rfl
  have e7:(t.f.k==7)=false:=by rw [hk];rfl
  have e8:(t.f.k==8)=false:=by rw [hk];rfl
  have e9:(t.f.k==9)=false:=by rw [hk];rfl
  clear hk hnp hX
  go_wp2_with (go_at_call 84;refine HD.out.mono ?_;rintro e w5 ⟨rfl,h5⟩;have T5:Hid (OneS W w5):=T0.out.kept h5;clear h5;have z0:=aA T5.out.1 (i:=0) rfl;have z1:=aA T5.out.1 (i:=1) rfl;have z2:=aA T5.out.1 (i:=2) rfl;have z3:=aA T5.out.1 (i:=3) rfl;have z4:=aA T5.out.1 (i:=4) rfl;have fz:=fun z=>aG T5.out.1 z)
  have T9:=T5.out.end X false
  simp only [bD] at T9
  refine fD (b:=W.heap.size+1) (x:=(X,false)) T9.1 rfl rfl ?_
  exact⟨by rw [hv.out],T9.2⟩
 ·have hv:Hid (bJ c t.f t.ks xs g=(0#256,true)):=(by unfold bJ;rw [hk];rfl)
  have e2:(t.f.k==2)=false:=by rw [hk];rfl
  have e5:(t.f.k==5)=false:=by rw [hk];rfl
  have e6:(t.f.k==6)=false:=by rw [hk];rfl
  have e7:(t.f.k==7)=false:=by rw [hk];rfl
  have e8:(t.f.k==8)=false:=by rw [hk];rfl
  have e9:(t.f.k==9)=false:=by rw [hk];rfl
  clear hk hnp
  have z0:=aA T0.out.1 (i:=0) rfl
  have z1:=aA T0.out.1 (i:=1) rfl
  have z2:=aA T0.out.1 (i:=2) rfl
  have z3:=aA T0.out.1 (i:=3) rfl
  have z4:=aA T0.out.1 (i:=4) rfl
  have fz:=fun z=>aG T0.out.1 z
  go_wp2
  have T9:=T0.out.end 0#256 true
  simp only [bD,bZ] at T9
  refine fD (b:=W.heap.size+1) (x:=(0#256,true)) (by simp only [bZ];exact T9.1) rfl rfl ?_
  exact⟨by rw [hv.out],T9.2⟩
 ·have hv:Hid (bJ c t.f t.ks xs g=(0#256,true)):=(by unfold bJ;rw [hk];rfl)
  have e2:(t.f.k==2)=false:=by rw [hk];rfl
  have e5:(t.f.k==5)=false:=by rw [hk];rfl
  have e6:(t.f.k==6)=false:=by rw [hk];rfl
  have e7:(t.f.k==7)=false:=by rw [hk];rfl
  have e8:(t.f.k==8)=false:=by rw [hk];rfl
  have e9:(t.f.k==9)=false:=by rw [hk];rfl
  clear hk hnp
  have z0:=aA T0.out.1 (i:=0) rfl
  have z1:=aA T0.out.1 (i:=1) rfl
  have z2:=aA T0.out.1 (i:=2) rfl
  have z3:=aA T0.out.1 (i:=3) rfl
  have z4:=aA T0.out.1 (i:=4) rfl
  have fz:=fun z=>aG T0.out.1 z
  go_wp2
  have T9:=T0.out.end 0#256 true
  simp only [bD,bZ] at T9
  refine fD (b:=W.heap.size+1) (x:=(0#256,true)) (by simp only [bZ];exact T9.1) rfl rfl ?_
  exact⟨by rw [hv.out],T9.2⟩
 ·obtain⟨⟨xa,xb⟩,hx⟩:∃ x,lP 0#256 xs=x:=⟨_,rfl⟩
  have hv:Hid (bJ c t.f t.ks xs g=(xa,xb)):=(by unfold bJ;rw [hk,<- hx];rfl)
  have HD:=aD (wR (k:=cv) RW0.out hxl)
  rw [hx] at HD
  simp only [enS] at HD
  have e2:(t.f.k==2)=false:=by rw [hk];rfl
  have e5:(t.f.k==5)=true:=by rw [hk];rfl
  have e6:(t.f.k==6)=false:=by rw [hk];rfl
  have e7:(t.f.k==7)=false:=by rw [hk];rfl
  have e8:(t.f.k==8)=false:=by rw [hk];rfl
  have e9:(t.f.k==9)=false:=by rw [hk];rfl
  clear hk hnp hx
  go_wp2_with (go_at_call 85;refine HD.out.mono ?_;rintro e w5 ⟨rfl,h5⟩;have T5:Hid (OneS W w5):=T0.out.kept h5;clear h5;have z0:=aA T5.out.1 (i:=0) rfl;have z1:=aA T5.out.1 (i:=1) rfl;have z2:=aA T5.out.1 (i:=2) rfl;have z3:=aA T5.out.1 (i:=3) rfl;have z4:=aA T5.out.1 (i:=4) rfl;have fz:=fun z=>aG T5.out.1 z)
  have T9:=T5.out.end xa xb
  simp only [bD] at T9
  refine fD (b:=W.heap.size+1) (x:=(xa,xb)) T9.1 rfl rfl ?_
  exact⟨by rw [hv.out],T9.2⟩
 ·have hv:Hid (bJ c t.f t.ks xs g=(jY xs,xs.any (·.2))):=(by unfold bJ;rw [hk];rfl)
  have e2:(t.f.k==2)=false:=by rw [hk];rfl
  have e5:(t.f.k==5)=false:=by rw [hk];rfl
  have e6:(t.f.k==6)=true:=by rw [hk];rfl
  have e7:(t.f.k==7)=false:=by rw [hk];rfl
  have e8:(t.f.k==8)=false:=by rw [hk];rfl
  have e9:(t.f.k==9)=false:=by rw [hk];rfl
  clear hk hnp
  have TI:Hid (TwoS (W.heap.size+1) W0.heap.size W (W0.alloc (.cells #[.int .u64 0,.int .u64 0,.int .u64 0,.int .u64 0,.bool false] 76)) (jY (xs.take 0),(xs.take 0).any (·.2))):=⟨(Below.heap_alloc _ _ _ l1).trans T0.out.1,(aE W0 _).trans (by simp only [jY,aAS,List.foldl_nil,bZ,List.any_nil]),T0.out.2.alloc T0.out.2.size _⟩
  have q8:(W0.alloc (.cells #[.int .u64 0,.int .u64 0,.int .u64 0,.int .u64 0,.bool false] 76)).cell? ⟨W.heap.size,8,none⟩=some (.slice qv xs.length cv):=aA ((Below.heap_alloc _ _ _ l0).trans S0.out) (i:=8) rfl
  go_upto_region 9 with fail
  generalize hWI:W0.alloc (.cells #[.int .u64 0,.int .u64 0,.int .u64 0,.int .u64 0,.bool false] 76)=WI at TI q8 ⊢
  clear hWI
  go_loopw [28] (fun i wr=>∃ j:Nat,j<=xs.length/\i=.int .i64 (j:Int)/\TwoS (W.heap.size+1) W0.heap.size W wr (jY (xs.take j),(xs.take j).any (·.2))) (fun i _=>xs.length - (intOf i).toNat)
  case atStart=>exact⟨0,m9 _,rfl,TI.out⟩
  case round=>
   obtain⟨j,hj,rfl,ht⟩:=hrel
   obtain⟨ya,hya⟩:∃ y,jY (xs.take j)=y:=⟨_,rfl⟩
   obtain⟨yb,hyb⟩:∃ y,(xs.take j).any (·.2)=y:=⟨_,rfl⟩
   rw [hya,hyb] at ht
   have TT:=aD ht
   have HY:=aD (And.intro hya hyb)
   clear ht hya hyb
   by_cases hjl:j < xs.length
   ·obtain⟨⟨xa,xb⟩,hx⟩:∃ x,xs[j]?=some x:=⟨_,g9 hjl⟩
    have FN:=aD (show jY (xs.take (j+1))=aN ya xa/\(xs.take (j+1)).any (·.2)=(yb || xb) by
     rw [o5,hx,aAV,List.any_append,HY.out.2]
     refine⟨?_,by simp⟩
     have:=HY.out.1
     unfold jY at this ⊢
     rw [aBJ,this]
     rfl)
    have e1:(j:Int) < (xs.length:Int):=by omega
    obtain⟨gb,rfl,hg,c0,c1,c2,c3,c4⟩:=(HRW.out.kept TT.out.2.2) j _ hx
    simp only at c0 c1 c2 c3 c4
    clear hx
    cases yb with
    | true=>
     have T1:Hid (TwoS (W.heap.size+1) (W0.heap.size) W (wr.alloc (.cells #[.int .u64 (aC xa 0),.int .u64 (aC xa 1),.int .u64 (aC xa 2),.int .u64 (aC xa 3),.bool xb] 76)) (ya,true)):=TT.out.kept (bz9)
     have k0:(wr.alloc (.cells #[.int .u64 (aC xa 0),.int .u64 (aC xa 1),.int .u64 (aC xa 2),.int .u64 (aC xa 3),.bool xb] 76)).cell? ⟨wr.heap.size,0,none⟩=some (.int .u64 (aC xa 0)):=aA (aE wr _) (i:=0) rfl
     have k1:(wr.alloc (.cells #[.int .u64 (aC xa 0),.int .u64 (aC xa 1),.int .u64 (aC xa 2),.int .u64 (aC xa 3),.bool xb] 76)).cell? ⟨wr.heap.size,1,none⟩=some (.int .u64 (aC xa 1)):=aA (aE wr _) (i:=1) rfl
     have k2:(wr.alloc (.cells #[.int .u64 (aC xa 0),.int .u64 (aC xa 1),.int .u64 (aC xa 2),.int .u64 (aC xa 3),.bool xb] 76)).cell? ⟨wr.heap.size,2,none⟩=some (.int .u64 (aC xa 2)):=aA (aE wr _) (i:=2) rfl
     have k3:(wr.alloc (.cells #[.int .u64 (aC xa 0),.int .u64 (aC xa 1),.int .u64 (aC xa 2),.int .u64 (aC xa 3),.bool xb] 76)).cell? ⟨wr.heap.size,3,none⟩=some (.int .u64 (aC xa 3)):=aA (aE wr _) (i:=3) rfl
     have k4:(wr.alloc (.cells #[.int .u64 (aC xa 0),.int .u64 (aC xa 1),.int .u64 (aC xa 2),.int .u64 (aC xa 3),.bool xb] 76)).cell? ⟨wr.heap.size,4,none⟩=some (.bool xb):=aA (aE wr _) (i:=4) rfl
     have y0:(wr.alloc (.cells #[.int .u64 (aC xa 0),.int .u64 (aC xa 1),.int .u64 (aC xa 2),.int .u64 (aC xa 3),.bool xb] 76)).cell? ⟨W0.heap.size,0,none⟩=some (.int .u64 (aC ya 0)):=aA T1.out.2.1 (i:=0) rfl
     have y1:(wr.alloc (.cells #[.int .u64 (aC xa 0),.int .u64 (aC xa 1),.int .u64 (aC xa 2),.int .u64 (aC xa 3),.bool xb] 76)).cell? ⟨W0.heap.size,1,none⟩=some (.int .u64 (aC ya 1)):=aA T1.out.2.1 (i:=1) rfl
     have y2:(wr.alloc (.cells #[.int .u64 (aC xa 0),.int .u64 (aC xa 1),.int .u64 (aC xa 2),.int .u64 (aC xa 3),.bool xb] 76)).cell? ⟨W0.heap.size,2,none⟩=some (.int .u64 (aC ya 2)):=aA T1.out.2.1 (i:=2) rfl
     have y3:(wr.alloc (.cells #[.int .u64 (aC xa 0),.int .u64 (aC xa 1),.int .u64 (aC xa 2),.int .u64 (aC xa 3),.bool xb] 76)).cell? ⟨W0.heap.size,3,none⟩=some (.int .u64 (aC ya 3)):=aA T1.out.2.1 (i:=3) rfl
     have y4:(wr.alloc (.cells #[.int .u64 (aC xa 0),.int .u64 (aC xa 1),.int .u64 (aC xa 2),.int .u64 (aC xa 3),.bool xb] 76)).cell? ⟨W0.heap.size,4,none⟩=some (.bool true):=aA T1.out.2.1 (i:=4) rfl
     have l6:W0.heap.size < (wr.alloc (.cells #[.int .u64 (aC xa 0),.int .u64 (aC xa 1),.int .u64 (aC xa 2),.int .u64 (aC xa 3),.bool xb] 76)).heap.size:=aB T1.out.2.1
     have l7:wr.heap.size < (wr.alloc (.cells #[.int .u64 (aC xa 0),.int .u64 (aC xa 1),.int .u64 (aC xa 2),.int .u64 (aC xa 3),.bool xb] 76)).heap.size:=by rw [a7];omega
     go_wp2
     generalize hW1:wr.alloc (.cells #[.int .u64 (aC xa 0),.int .u64 (aC xa 1),.int .u64 (aC xa 2),.int .u64 (aC xa 3),.bool xb] 76)=W1 at T1 l6 l7 y0 y1 y2 y3 y4 k0 k1 k2 k3 k4 ⊢
     clear hW1
     refine aW (aAF _ _) (by kernel_rfl) (by kernel_rfl) (by kernel_rfl) ?_
     dsimp only [List.dropLast,List.getLast]
     repeat (go_big_quiet_step (first | exact rfl |(go_at_call 86;exact bN (mK ya xa _))))
     refine wpQuiet_nil ?_
     intro w3 hw
     have T3:Hid (TwoS (W.heap.size+1) (W0.heap.size) W w3 (ya,true)):=T1.out.kept (aQ hw)
     clear hw y0 y1 y2 y3 y4 k0 k1 k2 k3 k4 c0 c1 c2 c3 c4
     have y0:=aA T3.out.2.1 (i:=0) rfl
     have y1:=aA T3.out.2.1 (i:=1) rfl
     have y2:=aA T3.out.2.1 (i:=2) rfl
     have y3:=aA T3.out.2.1 (i:=3) rfl
     have y4:=aA T3.out.2.1 (i:=4) rfl
     have fy:=fun z=>aG T3.out.2.1 z
     have T6:Hid (TwoS (W.heap.size+1) (W0.heap.size) W (bD w3 (W0.heap.size) 0 [.int .u64 (aC (aN ya xa) 0),.int .u64 (aC (aN ya xa) 1),.int .u64 (aC (aN ya xa) 2),.int .u64 (aC (aN ya xa) 3),.bool true]) (aN ya xa,true)):=T3.out.put (Nat.ne_of_lt l1) (Nat.le_of_lt l0) (aN ya xa,true)
     go_wp2
     go_roundw
     case rel=>exact⟨j+1,by omega,by go_num,by rw [FN.out.1,FN.out.2];exact T6.out⟩
     case measure=>simp only [intOf];omega
    | false=>
     have T1:Hid (TwoS (W.heap.size+1) (W0.heap.size) W (wr.alloc (.cells #[.int .u64 (aC xa 0),.int .u64 (aC xa 1),.int .u64 (aC xa 2),.int .u64 (aC xa 3),.bool xb] 76)) (ya,false)):=TT.out.kept (bz9)
     have k0:(wr.alloc (.cells #[.int .u64 (aC xa 0),.int .u64 (aC xa 1),.int .u64 (aC xa 2),.int .u64 (aC xa 3),.bool xb] 76)).cell? ⟨wr.heap.size,0,none⟩=some (.int .u64 (aC xa 0)):=aA (aE wr _) (i:=0) rfl
     have k1:(wr.alloc (.cells #[.int .u64 (aC xa 0),.int .u64 (aC xa 1),.int .u64 (aC xa 2),.int .u64 (aC xa 3),.bool xb] 76)).cell? ⟨wr.heap.size,1,none⟩=some (.int .u64 (aC xa 1)):=aA (aE wr _) (i:=1) rfl
     have k2:(wr.alloc (.cells #[.int .u64 (aC xa 0),.int .u64 (aC xa 1),.int .u64 (aC xa 2),.int .u64 (aC xa 3),.bool xb] 76)).cell? ⟨wr.heap.size,2,none⟩=some (.int .u64 (aC xa 2)):=aA (aE wr _) (i:=2) rfl
     have k3:(wr.alloc (.cells #[.int .u64 (aC xa 0),.int .u64 (aC xa 1),.int .u64 (aC xa 2),.int .u64 (aC xa 3),.bool xb] 76)).cell? ⟨wr.heap.size,3,none⟩=some (.int .u64 (aC xa 3)):=aA (aE wr _) (i:=3) rfl
     have k4:(wr.alloc (.cells #[.int .u64 (aC xa 0),.int .u64 (aC xa 1),.int .u64 (aC xa 2),.int .u64 (aC xa 3),.bool xb] 76)).cell? ⟨wr.heap.size,4,none⟩=some (.bool xb):=aA (aE wr _) (i:=4) rfl
     have y0:(wr.alloc (.cells #[.int .u64 (aC xa 0),.int .u64 (aC xa 1),.int .u64 (aC xa 2),.int .u64 (aC xa 3),.bool xb] 76)).cell? ⟨W0.heap.size,0,none⟩=some (.int .u64 (aC ya 0)):=aA T1.out.2.1 (i:=0) rfl
     have y1:(wr.alloc (.cells #[.int .u64 (aC xa 0),.int .u64 (aC xa 1),.int .u64 (aC xa 2),.int .u64 (aC xa 3),.bool xb] 76)).cell? ⟨W0.heap.size,1,none⟩=some (.int .u64 (aC ya 1)):=aA T1.out.2.1 (i:=1) rfl
     have y2:(wr.alloc (.cells #[.int .u64 (aC xa 0),.int .u64 (aC xa 1),.int .u64 (aC xa 2),.int .u64 (aC xa 3),.bool xb] 76)).cell? ⟨W0.heap.size,2,none⟩=some (.int .u64 (aC ya 2)):=aA T1.out.2.1 (i:=2) rfl
     have y3:(wr.alloc (.cells #[.int .u64 (aC xa 0),.int .u64 (aC xa 1),.int .u64 (aC xa 2),.int .u64 (aC xa 3),.bool xb] 76)).cell? ⟨W0.heap.size,3,none⟩=some (.int .u64 (aC ya 3)):=aA T1.out.2.1 (i:=3) rfl
     have y4:(wr.alloc (.cells #[.int .u64 (aC xa 0),.int .u64 (aC xa 1),.int .u64 (aC xa 2),.int .u64 (aC xa 3),.bool xb] 76)).cell? ⟨W0.heap.size,4,none⟩=some (.bool false):=aA T1.out.2.1 (i:=4) rfl
     have l6:W0.heap.size < (wr.alloc (.cells #[.int .u64 (aC xa 0),.int .u64 (aC xa 1),.int .u64 (aC xa 2),.int .u64 (aC xa 3),.bool xb] 76)).heap.size:=aB T1.out.2.1
     have l7:wr.heap.size < (wr.alloc (.cells #[.int .u64 (aC xa 0),.int .u64 (aC xa 1),.int .u64 (aC xa 2),.int .u64 (aC xa 3),.bool xb] 76)).heap.size:=by rw [a7];omega
     go_wp2
     generalize hW1:wr.alloc (.cells #[.int .u64 (aC xa 0),.int .u64 (aC xa 1),.int .u64 (aC xa 2),.int .u64 (aC xa 3),.bool xb] 76)=W1 at T1 l6 l7 y0 y1 y2 y3 y4 k0 k1 k2 k3 k4 ⊢
     clear hW1
     refine aW (aAF _ _) (by kernel_rfl) (by kernel_rfl) (by kernel_rfl) ?_
     dsimp only [List.dropLast,List.getLast]
     repeat (go_big_quiet_step (first | exact rfl |(go_at_call 86;exact bN (mK ya xa _))))
     refine wpQuiet_nil ?_
     intro w3 hw
     have T3:Hid (TwoS (W.heap.size+1) (W0.heap.size) W w3 (ya,false)):=T1.out.kept (aQ hw)
     clear hw y0 y1 y2 y3 y4 k0 k1 k2 k3 k4 c0 c1 c2 c3 c4
     have y0:=aA T3.out.2.1 (i:=0) rfl
     have y1:=aA T3.out.2.1 (i:=1) rfl
     have y2:=aA T3.out.2.1 (i:=2) rfl
     have y3:=aA T3.out.2.1 (i:=3) rfl
     have y4:=aA T3.out.2.1 (i:=4) rfl
     have fy:=fun z=>aG T3.out.2.1 z
     have T6:Hid (TwoS (W.heap.size+1) (W0.heap.size) W (bD w3 (W0.heap.size) 0 [.int .u64 (aC (aN ya xa) 0),.int .u64 (aC (aN ya xa) 1),.int .u64 (aC (aN ya xa) 2),.int .u64 (aC (aN ya xa) 3),.bool xb]) (aN ya xa,xb)):=T3.out.put (Nat.ne_of_lt l1) (Nat.le_of_lt l0) (aN ya xa,xb)
     go_wp2
     go_roundw
     case rel=>exact⟨j+1,by omega,by go_num,by rw [FN.out.1,FN.out.2];exact T6.out⟩
     case measure=>simp only [intOf];omega
   ·have e1:¬ (j:Int) < (xs.length:Int):=by omega
    rw [j9 (by omega)] at HY
    rw [HY.out.1,HY.out.2] at hv
    have y0:=aA TT.out.2.1 (i:=0) rfl
    have y1:=aA TT.out.2.1 (i:=1) rfl
    have y2:=aA TT.out.2.1 (i:=2) rfl
    have y3:=aA TT.out.2.1 (i:=3) rfl
    have y4:=aA TT.out.2.1 (i:=4) rfl
    have z0:=aA TT.out.1 (i:=0) rfl
    have z1:=aA TT.out.1 (i:=1) rfl
    have z2:=aA TT.out.1 (i:=2) rfl
    have z3:=aA TT.out.1 (i:=3) rfl
    have z4:=aA TT.out.1 (i:=4) rfl
    have fz:=fun z=>aG TT.out.1 z
    go_wp2
    have T9:=TT.out.end (Nat.le_succ _)
    simp only [bD] at T9
    refine fD (b:=W.heap.size+1) (x:=(ya,yb)) T9.1 rfl rfl ?_
    exact⟨by rw [hv.out],T9.2⟩
 ·obtain⟨x,rfl⟩:∃ x,xs=[x]:=by
   have:=fG hnp (.inl hk)
   match xs,HLEN.out with
   | [x],_=>exact⟨x,rfl⟩
   | [],e=>rw [this] at e;simp at e
   | _ :: _ :: _,e=>rw [this] at e;simp at e
  obtain⟨xa,xb⟩:=x
  obtain⟨gb,rfl,hg,c0,c1,c2,c3,c4⟩:=RW0.out 0 _ rfl
  simp only [aAK,g8] at c0 c1 c2 c3 c4
  have ng1:gb≠W.heap.size+1:=by
   obtain⟨gb',e,h,-⟩:=HRW.out 0 _ rfl
   injection e with e
   injection e with e
   omega
  simp only [j8,List.length_nil,g8] at s8 ⊢
  have hv:Hid (bJ c t.f t.ks [(xa,xb)] g=(xa,xb)):=(by unfold bJ;rw [hk];rfl)
  have e2:(t.f.k==2)=false:=by rw [hk];rfl
  have e5:(t.f.k==5)=false:=by rw [hk];rfl
  have e6:(t.f.k==6)=false:=by rw [hk];rfl
  have e7:(t.f.k==7)=true:=by rw [hk];rfl
  have e8:(t.f.k==8)=false:=by rw [hk];rfl
  have e9:(t.f.k==9)=false:=by rw [hk];rfl
  clear hk hnp
  have z0:=aA T0.out.1 (i:=0) rfl
  have z1:=aA T0.out.1 (i:=1) rfl
  have z2:=aA T0.out.1 (i:=2) rfl
  have z3:=aA T0.out.1 (i:=3) rfl
  have z4:=aA T0.out.1 (i:=4) rfl
  have fz:=fun z=>aG T0.out.1 z
  go_wp2
  have T9:=T0.out.end xa xb
  simp only [bD] at T9
  refine fD (b:=W.heap.size+1) (x:=(xa,xb)) T9.1 rfl rfl ?_
  exact⟨by rw [hv.out],T9.2⟩
 ·obtain⟨⟨xa,xb⟩,hx⟩:∃ x,g t.f.n=x:=⟨_,rfl⟩
  have hv:Hid (bJ c t.f t.ks xs g=(xa,xb)):=(by unfold bJ;rw [hk,<- hx];rfl)
  have hb:=wM hnp hk
  have hwf:(Lit.int .i64 t.f.n).wf=true:=by simp [Lit.wf,IntKind.min,IntKind.max,IntKind.signed,IntKind.bits];omega
  have HD:=aD (bO3 (g:=g) ((T0.out.2.block _ (aB HP.out)).trans HP.out) (HM.out.kept T0.out.2) t.f.n hwf)
  rw [hx] at HD
  simp only [enS] at HD
  have e2:(t.f.k==2)=false:=by rw [hk];rfl
  have e5:(t.f.k==5)=false:=by rw [hk];rfl
  have e6:(t.f.k==6)=false:=by rw [hk];rfl
  have e7:(t.f.k==7)=false:=by rw [hk];rfl
  have e8:(t.f.k==8)=true:=by rw [hk];rfl
  have e9:(t.f.k==9)=false:=by rw [hk];rfl
  clear hk hnp hx hb hwf
  go_wp2_with (go_at_call 82;refine HD.out.mono ?_;rintro e w5 ⟨rfl,h5⟩;have T5:Hid (OneS W w5):=T0.out.kept h5;clear h5;have z0:=aA T5.out.1 (i:=0) rfl;have z1:=aA T5.out.1 (i:=1) rfl;have z2:=aA T5.out.1 (i:=2) rfl;have z3:=aA T5.out.1 (i:=3) rfl;have z4:=aA T5.out.1 (i:=4) rfl;have fz:=fun z=>aG T5.out.1 z)
  have T9:=T5.out.end xa xb
  simp only [bD] at T9
  refine fD (b:=W.heap.size+1) (x:=(xa,xb)) T9.1 rfl rfl ?_
  exact⟨by rw [hv.out],T9.2⟩
 ·obtain⟨x,rfl⟩:∃ x,xs=[x]:=by
   have:=fG hnp (.inr hk)
   match xs,HLEN.out with
   | [x],_=>exact⟨x,rfl⟩
   | [],e=>rw [this] at e;simp at e
   | _ :: _ :: _,e=>rw [this] at e;simp at e
  obtain⟨xa,xb⟩:=x
  obtain⟨gb,rfl,hg,c0,c1,c2,c3,c4⟩:=RW0.out 0 _ rfl
  simp only [aAK,g8] at c0 c1 c2 c3 c4
  have ng1:gb≠W.heap.size+1:=by
   obtain⟨gb',e,h,-⟩:=HRW.out 0 _ rfl
   injection e with e
   injection e with e
   omega
  simp only [j8,List.length_nil,g8] at s8 ⊢
  have hbd:=lT hnp hk
  have hgl0:gb < W0.heap.size:=hg
  have e2:(t.f.k==2)=false:=by rw [hk];rfl
  have e5:(t.f.k==5)=false:=by rw [hk];rfl
  have e6:(t.f.k==6)=false:=by rw [hk];rfl
  have e7:(t.f.k==7)=false:=by rw [hk];rfl
  have e8:(t.f.k==8)=false:=by rw [hk];rfl
  have e9:(t.f.k==9)=true:=by rw [hk];rfl
  by_cases hx0:t.f.mx=0
  ·have hv:=aD (show bJ c t.f t.ks [(xa,xb)] g=(0#256,true) by unfold bJ;rw [hk];simp [hx0])
   have m1:¬ (0:Int) < t.f.mx:=by omega
   have m2:(t.f.mx==-1)=false:=by rw [hx0];rfl
   clear hk hnp hbd hx0
   have z0:=aA T0.out.1 (i:=0) rfl
   have z1:=aA T0.out.1 (i:=1) rfl
   have z2:=aA T0.out.1 (i:=2) rfl
   have z3:=aA T0.out.1 (i:=3) rfl
   have z4:=aA T0.out.1 (i:=4) rfl
   have fz:=fun z=>aG T0.out.1 z
   go_wp2
   have T9:=T0.out.end 0#256 true
   simp only [bD,bZ] at T9
   refine fD (b:=W.heap.size+1) (x:=(0#256,true)) (by simp only [bZ];exact T9.1) rfl rfl ?_
   exact⟨by rw [hv.out],T9.2⟩
  ·have hb2:0 < t.f.mx\/t.f.mx=-1:=by simp [fU] at hbd;omega
   cases m0:(t.f.mn==0) with
   | true=>
    have hv:=aD (show bJ c t.f t.ks [(xa,xb)] g=(xa,true) by unfold bJ;rw [hk];simp [hx0,m0])
    clear hk hnp hbd hx0
    rcases hb2 with m1 | m1
    ·have T3f:True:=trivial
     go_upto_region 20 with fail
     refine aW (aAF _ _) (by kernel_rfl) (by kernel_rfl) (by kernel_rfl) ?_
     dsimp only [List.dropLast,List.getLast]
     repeat (go_big_quiet_step (first | exact rfl))
     refine wpQuiet_nil ?_
     intro w3 hw
     have T3:Hid (OneS W w3):=T0.out.kept (aQ hw)
     clear hw s0 s1 s2 s3 s4 s5 s6 s7 s8 s9 c0 c1 c2 c3 c4 T3f
     have z0:=aA T3.out.1 (i:=0) rfl
     have z1:=aA T3.out.1 (i:=1) rfl
     have z2:=aA T3.out.1 (i:=2) rfl
     have z3:=aA T3.out.1 (i:=3) rfl
     have z4:=aA T3.out.1 (i:=4) rfl
     have fz:=fun z=>aG T3.out.1 z
     go_wp2
     have T9:=T3.out.end xa true
     simp only [bD] at T9
     refine fD (b:=W.heap.size+1) (x:=(xa,true)) T9.1 rfl rfl ?_
     exact⟨by rw [hv.out],T9.2⟩
    ·have m3:¬ (0:Int) < t.f.mx:=by omega
     have m2:(t.f.mx==-1)=true:=by rw [m1];rfl
     clear m1
     have T3f:True:=trivial
     go_upto_region 20 with fail
     refine aW (aAF _ _) (by kernel_rfl) (by kernel_rfl) (by kernel_rfl) ?_
     dsimp only [List.dropLast,List.getLast]
     repeat (go_big_quiet_step (first | exact rfl))
     refine wpQuiet_nil ?_
     intro w3 hw
     have T3:Hid (OneS W w3):=T0.out.kept (aQ hw)
     clear hw s0 s1 s2 s3 s4 s5 s6 s7 s8 s9 c0 c1 c2 c3 c4 T3f
     have z0:=aA T3.out.1 (i:=0) rfl
     have z1:=aA T3.out.1 (i:=1) rfl
     have z2:=aA T3.out.1 (i:=2) rfl
     have z3:=aA T3.out.1 (i:=3) rfl
     have z4:=aA T3.out.1 (i:=4) rfl
     have fz:=fun z=>aG T3.out.1 z
     go_wp2
     have T9:=T3.out.end xa true
     simp only [bD] at T9
     refine fD (b:=W.heap.size+1) (x:=(xa,true)) T9.1 rfl rfl ?_
     exact⟨by rw [hv.out],T9.2⟩
   | false=>
    have hv:=aD (show bJ c t.f t.ks [(xa,xb)] g=(xa,xb) by unfold bJ;rw [hk];simp [hx0,m0])
    clear hk hnp hbd hx0
    rcases hb2 with m1 | m1
    ·have T3f:True:=trivial
     go_upto_region 20 with fail
     refine aW (aAF _ _) (by kernel_rfl) (by kernel_rfl) (by kernel_rfl) ?_
     dsimp only [List.dropLast,List.getLast]
     repeat (go_big_quiet_step (first | exact rfl))
     refine wpQuiet_nil ?_
     intro w3 hw
     have T3:Hid (OneS W w3):=T0.out.kept (aQ hw)
     clear hw s0 s1 s2 s3 s4 s5 s6 s7 s8 s9 c0 c1 c2 c3 c4 T3f
     have z0:=aA T3.out.1 (i:=0) rfl
     have z1:=aA T3.out.1 (i:=1) rfl
     have z2:=aA T3.out.1 (i:=2) rfl
     have z3:=aA T3.out.1 (i:=3) rfl
     have z4:=aA T3.out.1 (i:=4) rfl
     have fz:=fun z=>aG T3.out.1 z
     go_wp2
     have T9:=T3.out.end xa xb
     simp only [bD] at T9
     refine fD (b:=W.heap.size+1) (x:=(xa,xb)) T9.1 rfl rfl ?_
     exact⟨by rw [hv.out],T9.2⟩
    ·have m3:¬ (0:Int) < t.f.mx:=by omega
     have m2:(t.f.mx==-1)=true:=by rw [m1];rfl
     clear m1
     have T3f:True:=trivial
     go_upto_region 20 with fail
     refine aW (aAF _ _) (by kernel_rfl) (by kernel_rfl) (by kernel_rfl) ?_
     dsimp only [List.dropLast,List.getLast]
     repeat (go_big_quiet_step (first | exact rfl))
     refine wpQuiet_nil ?_
     intro w3 hw
     have T3:Hid (OneS W w3):=T0.out.kept (aQ hw)
     clear hw s0 s1 s2 s3 s4 s5 s6 s7 s8 s9 c0 c1 c2 c3 c4 T3f
     have z0:=aA T3.out.1 (i:=0) rfl
     have z1:=aA T3.out.1 (i:=1) rfl
     have z2:=aA T3.out.1 (i:=2) rfl
     have z3:=aA T3.out.1 (i:=3) rfl
     have z4:=aA T3.out.1 (i:=4) rfl
     have fz:=fun z=>aG T3.out.1 z
     go_wp2
     have T9:=T3.out.end xa xb
     simp only [bD] at T9
     refine fD (b:=W.heap.size+1) (x:=(xa,xb)) T9.1 rfl rfl ?_
     exact⟨by rw [hv.out],T9.2⟩
end
section
attribute [local go_sem] Oper.semAt_some
abbrev TWO:=TW 87 88 47 143 144 82 142
def enO(x:ByteArray × Bool):Value:=.agg #[.string x.1,.bool x.2]
def ceO(xs:List (ByteArray × Bool)):List Value:=xs.flatMap fun x=>[.string x.1,.bool x.2]
theorem wY(xs:List (ByteArray × Bool))(x:ByteArray × Bool):ceO (xs ++ [x])=ceO xs ++ [.string x.1,.bool x.2]:=by simp [ceO]
theorem aC6:Tryz.prog.underlying 145=some (.slice 80):=by kernel_rfl
theorem bI6:Tryz.prog.underlying 142=some (.map 3 80):=by kernel_rfl
theorem bK2:(Tryz.prog.info? 80).map (fun i=>(i.zero,i.size,i.bytes))=some (some (.agg #[.string ⟨#[]⟩,.bool false]),2,24):=by kernel_rfl
def RuO(Glo:World->Prop)(NP:Tr->Prop)(Good:ByteArray × Bool->Prop)(ρ:dH (ByteArray × Bool))(c o:Bool):Prop:=
 ∀ (t:Tr) (xs:List (ByteArray × Bool)) (g:Int->ByteArray × Bool) (W:World) (v:Value) (bp bb n base:Nat),Glo W->NP t->t.ks.length<=1000000->NB W t->xs.length=t.ks.length->(∀ x∈xs,Good x)->(∀ i,Good (g i))->W.ownsRow base 80 2 v xs.length (ceO xs) ->
  W.heap[bp]?=some (.cells #[.map (some bb)] 142 (0,0))->MapV W (.agg #[.string ⟨#[]⟩,.bool false]) bb n (fun i=>enO (g i)) ->
  Calls Tryz.prog 47 #[.agg (dE t.f c o v (.func (.func 87) #[] #[bx bp]))] W fun e w'=>e=.returned (enO (ρ t.f t.ks xs g))/\Below W.heap.size W w'
def OfO(ρ:dH (ByteArray × Bool))(w:World)(bb n:Nat)(t:Tr)(g:Int->ByteArray × Bool)(e:Ending)(w':World):Prop:=
 e=.returned (enO (ev ρ g t).1)/\MapV w' (.agg #[.string ⟨#[]⟩,.bool false]) bb (n+t.sz) (fun i=>enO ((ev ρ g t).2 i))/\Fr (fun k=>k=bb) w w'
theorem aI1{R:Ending->World->Prop}{a:Act}{W:World}{b:Nat}{x:ByteArray × Bool}(h:W.heap[b]?=some (.cells #[.string x.1,.bool x.2] 80 (0,0)))(ha:a.tmps[7]?.getD undef=.pointer (some ⟨b,0,none⟩))(hd:a.defers=[])(hR:R (.returned (enO x)) W):bodyPost Tryz.prog Tryz.f88 R .ret a W:=by
 refine bodyPost_ret (v:=enO x) ?_ hd hR
 have z0:=aA h (i:=0) rfl;have z1:=aA h (i:=1) rfl
 simp [results,Tryz.results88,go_sem,ha,enO,z0,z1]
structure LpO(ρ:dH (ByteArray × Bool))(W0 wr:World)(b s n:Nat)(t:Tr)(c o:Bool)(g:Int->ByteArray × Bool)(j:Nat)(v gv:Value):Prop where
 sc:wr.heap[s]?=some (.cells (dE t.f c o v gv) 147 (0,0))
 own:wr.ownsRow W0.heap.size 80 2 v j (ceO (evs ρ g (t.ks.take j)).1)
 mp:MapV wr (.agg #[.string ⟨#[]⟩,.bool false]) b (n+szs (t.ks.take j)) (fun i=>enO ((evs ρ g (t.ks.take j)).2 i))
 fr:Fr (Wr2 b s) W0 wr
theorem bP4{Glo:World->Prop}(hglo:∀ {A B:World},CK A B->Glo A->Glo B){NP:Tr->Prop}{Good:ByteArray × Bool->Prop}{ρ:dH (ByteArray × Bool)}{c o:Bool}(hr:RuO Glo NP Good ρ c o)(hwf:∀ t,NP t->t.f.k=7->(Lit.int .i64 t.f.n).wf=true)(hg:∀ t xs g,NP t->xs.length=t.ks.length->(∀ x∈xs,Good x)->(∀ i,Good (g i))->Good (ρ t.f t.ks xs g))(bm bg bo br bp bb:Nat) :
  ∀ (m:Nat) (t:Tr) (w:World) (n:Nat) (g:Int->ByteArray × Bool),t.sz<=m->n+t.sz<=1000000->Glo w->TB w t->bY NP t->(∀ i,Good (g i))->TWO w bm bg bo br bp bb c o->MapV w (.agg #[.string ⟨#[]⟩,.bool false]) bb n (fun i=>enO (g i)) ->
   Calls Tryz.prog 88 #[.agg #[.int .i64 t.f.k,.int .i64 t.f.n,.int .i64 t.f.mn,.int .i64 t.f.mx,.slice t.f.rq t.f.rs.length t.f.rc,.slice t.f.kq t.f.kl t.f.kc],bx bm,bx bg,bx bo,bx br,bx bp] w (OfO ρ w bb n t g):=by
 intro m
 induction m with
 | zero=>intro t w n g hm;exact absurd (eV t) (by omega)
 | succ m ih=>
  intro t w n g hm hn hgw hta hnp hgd htw hmp
  have HGW:=aD hgw
  clear hgw
  obtain⟨t0,ti,hz0,hz1,hz2⟩:=bH bK2
  have TI:Hid (Tryz.prog.info? 80=some t0/\t0.zero=some (.agg #[.string ⟨#[]⟩,.bool false])/\t0.size=2/\t0.bytes=24):=⟨ti,hz0,hz1,hz2⟩
  clear ti hz0 hz1 hz2
  have HTA:=aD hta
  have HTW:=aD htw
  obtain⟨q,cap,hkv,hk1,hk2,hk3⟩:=hta.node.k.slice
  injection hkv with hkq hkl hkc
  subst hkq
  have HKL:=aD hkl
  have HK3:=aD hk3
  have hkm:t.ks.length<=9223372036854775807:=hk1
  have hkz:=aD (show szs t.ks+1=t.sz from (jG t).symm)
  clear hkl hkc hk3 hk1
  have m0:w.cell? ⟨bm,0,none⟩=some (.bool c):=aA htw.m (i:=0) rfl
  have m1:w.cell? ⟨bm,1,none⟩=some (.bool o):=aA htw.m (i:=1) rfl
  obtain⟨gv,hgv⟩:∃ gv,Value.func (.func 87) #[] #[bx bp]=gv:=⟨_,rfl⟩
  have g0:w.cell? ⟨bg,0,none⟩=some (.func (.func 87) #[] #[bx bp]):=aA htw.g (i:=0) rfl
  have l1:=aB htw.m
  have l2:=aB htw.g
  have IH:=aD ih
  have HR:=aD hr
  have HWF:=aD hwf
  have HG:=aD hg
  have HNP:=aD hnp
  have HGD:=aD hgd
  have HMP:=aD hmp
  have HM:=aD hm
  have HN:=aD hn
  have HGV:=aD hgv
  clear ih hr hwf hg hnp hgd hmp hm hn hta htw hgv
  go_enter Tryz.func88,Tryz.ntmps88
  go_upto_region 5 with fail
  have B0:Hid (Below w.heap.size w (((w.alloc (.cells #[.int .i64 t.f.k,.int .i64 t.f.n,.int .i64 t.f.mn,.int .i64 t.f.mx,.slice t.f.rq t.f.rs.length t.f.rc,.slice t.f.kq t.f.kl t.f.kc] 25)).alloc (.cells #[.string ⟨#[]⟩,.bool false] 80)).alloc (.cells #[.int .i64 t.f.k,.int .i64 t.f.n,.int .i64 t.f.mn,.int .i64 t.f.mx,.slice t.f.rq t.f.rs.length t.f.rc,.slice t.f.kq t.f.kl t.f.kc,.bool c,.bool o,.slice none 0 0,.func (.func 87) #[] #[bx bp]] 147))):=((bz9).alloc (by simp only [a7];omega) _).alloc (by simp only [a7];omega) _
  have N0:Hid (BoxN (((w.alloc (.cells #[.int .i64 t.f.k,.int .i64 t.f.n,.int .i64 t.f.mn,.int .i64 t.f.mx,.slice t.f.rq t.f.rs.length t.f.rc,.slice t.f.kq t.f.kl t.f.kc] 25)).alloc (.cells #[.string ⟨#[]⟩,.bool false] 80)).alloc (.cells #[.int .i64 t.f.k,.int .i64 t.f.n,.int .i64 t.f.mn,.int .i64 t.f.mx,.slice t.f.rq t.f.rs.length t.f.rc,.slice t.f.kq t.f.kl t.f.kc,.bool c,.bool o,.slice none 0 0,.func (.func 87) #[] #[bx bp]] 147)) w.heap.size t.f):=(Below.heap_alloc _ _ _ (by simp only [a7];omega)).trans ((Below.heap_alloc _ _ _ (by simp only [a7];omega)).trans (aE w _))
  have R0:Hid ((((w.alloc (.cells #[.int .i64 t.f.k,.int .i64 t.f.n,.int .i64 t.f.mn,.int .i64 t.f.mx,.slice t.f.rq t.f.rs.length t.f.rc,.slice t.f.kq t.f.kl t.f.kc] 25)).alloc (.cells #[.string ⟨#[]⟩,.bool false] 80)).alloc (.cells #[.int .i64 t.f.k,.int .i64 t.f.n,.int .i64 t.f.mn,.int .i64 t.f.mx,.slice t.f.rq t.f.rs.length t.f.rc,.slice t.f.kq t.f.kl t.f.kc,.bool c,.bool o,.slice none 0 0,.func (.func 87) #[] #[bx bp]] 147)).heap[w.heap.size+1]?=some (.cells #[.string ⟨#[]⟩,.bool false] 80 (0,0))):=(by have:=aE (w.alloc (.cells #[.int .i64 t.f.k,.int .i64 t.f.n,.int .i64 t.f.mn,.int .i64 t.f.mx,.slice t.f.rq t.f.rs.length t.f.rc,.slice t.f.kq t.f.kl t.f.kc] 25)) (.cells #[.string ⟨#[]⟩,.bool false] 80);rw [a7] at this;exact(Below.heap_alloc _ _ _ (by simp)).trans this)
  have S0:Hid ((((w.alloc (.cells #[.int .i64 t.f.k,.int .i64 t.f.n,.int .i64 t.f.mn,.int .i64 t.f.mx,.slice t.f.rq t.f.rs.length t.f.rc,.slice t.f.kq t.f.kl t.f.kc] 25)).alloc (.cells #[.string ⟨#[]⟩,.bool false] 80)).alloc (.cells #[.int .i64 t.f.k,.int .i64 t.f.n,.int .i64 t.f.mn,.int .i64 t.f.mx,.slice t.f.rq t.f.rs.length t.f.rc,.slice t.f.kq t.f.kl t.f.kc,.bool c,.bool o,.slice none 0 0,.func (.func 87) #[] #[bx bp]] 147)).heap[w.heap.size+1+1]?=some (.cells (dE t.f c o (.slice none 0 0) (.func (.func 87) #[] #[bx bp])) 147 (0,0))):=(by have:=aE ((w.alloc (.cells #[.int .i64 t.f.k,.int .i64 t.f.n,.int .i64 t.f.mn,.int .i64 t.f.mx,.slice t.f.rq t.f.rs.length t.f.rc,.slice t.f.kq t.f.kl t.f.kc] 25)).alloc (.cells #[.string ⟨#[]⟩,.bool false] 80)) (.cells #[.int .i64 t.f.k,.int .i64 t.f.n,.int .i64 t.f.mn,.int .i64 t.f.mx,.slice t.f.rq t.f.rs.length t.f.rc,.slice t.f.kq t.f.kl t.f.kc,.bool c,.bool o,.slice none 0 0,.func (.func 87) #[] #[bx bp]] 147);simp only [a7] at this;exact this)
  generalize hW0:(((w.alloc (.cells #[.int .i64 t.f.k,.int .i64 t.f.n,.int .i64 t.f.mn,.int .i64 t.f.mx,.slice t.f.rq t.f.rs.length t.f.rc,.slice t.f.kq t.f.kl t.f.kc] 25)).alloc (.cells #[.string ⟨#[]⟩,.bool false] 80)).alloc (.cells #[.int .i64 t.f.k,.int .i64 t.f.n,.int .i64 t.f.mn,.int .i64 t.f.mx,.slice t.f.rq t.f.rs.length t.f.rc,.slice t.f.kq t.f.kl t.f.kc,.bool c,.bool o,.slice none 0 0,.func (.func 87) #[] #[bx bp]] 147))=W0 at B0 N0 R0 S0 ⊢
  clear hW0
  obtain⟨bs,hbs⟩:∃ bs,w.heap.size+1+1=bs:=⟨_,rfl⟩
  have HBS:Hid (w.heap.size<=bs/\bs < W0.heap.size/\bs=w.heap.size+1+1):=⟨by omega,by rw [<- hbs];exact aB S0.out,hbs.symm⟩
  rw [hbs] at S0 ⊢
  clear hbs
  have MB:Hid (∃ es clock,W0.heap[bb]?=some (.map es clock)):=aD (by obtain⟨es,cl,hb⟩:=HMP.out.block;exact⟨es,cl,(B0.out.block _ (aB hb)).trans hb⟩)
  go_loopw [19] (fun i wr=>∃ (j:Nat) (v:Value),j<=t.ks.length/\i=.int .i64 (j:Int)/\LpO ρ W0 wr bb bs n t c o g j v (.func (.func 87) #[] #[bx bp])) (fun i _=>t.ks.length - (intOf i).toNat)
  case atStart=>exact⟨0,_,m9 _,rfl,S0.out,(by rw [aAS,cX];exact⟨rfl,.inl ⟨rfl,rfl⟩⟩),(by rw [aAS,cX,fZ];exact HMP.out.kept B0.out),Fr.refl _ _⟩
  case round=>
   clear S0
   obtain⟨j,v,hj,rfl,hlp⟩:=hrel
   obtain⟨qv,cv,rfl⟩:=aZ hlp.own
   have LP:=aD hlp
   have CW:Hid (CK w wr):=fQ MB.out HBS.out.1 B0.out hlp.fr
   clear hlp
   by_cases hjl:j < t.ks.length
   ·have e0:(j:Int) < (t.f.kl:Int):=by rw [HKL.out];omega
    obtain⟨u,hu⟩:∃ u,t.ks[j]?=some u:=⟨_,g9 hjl⟩
    obtain⟨gq,off,hq,hgl,hsix⟩:=HK3.out j u hu
    rw [hq]
    obtain⟨c0,c1,c2,c3,c4,c5⟩:=hsix.ck CW.out hgl
    have HU:=aD hu
    have hin:u∈t.ks:=i9 hu
    clear hsix hu
    have SK:Hid (Fr (Wr2 bb bs) W0 (wr.alloc (.cells #[.int .i64 u.f.k,.int .i64 u.f.n,.int .i64 u.f.mn,.int .i64 u.f.mx,.slice u.f.rq u.f.rs.length u.f.rc,.slice u.f.kq u.f.kl u.f.kc] 25)).drew/\BoxN (wr.alloc (.cells #[.int .i64 u.f.k,.int .i64 u.f.n,.int .i64 u.f.mn,.int .i64 u.f.mx,.slice u.f.rq u.f.rs.length u.f.rc,.slice u.f.kq u.f.kl u.f.kc] 25)).drew wr.heap.size u.f):=⟨(LP.out.fr.alloc _).drew,aE wr _⟩
    have NE:Hid (¬ wr.heap.size=bb/\¬ bb=bs):=⟨fun e=>by have:=LP.out.mp.lt;omega,fun e=>by
     obtain⟨es,cl,hb⟩:=LP.out.mp.block
     rw [e,LP.out.sc] at hb
     cases hb⟩
    have NE3:Hid (wr.heap.size≠bs):=fun e=>by have:=aB LP.out.sc;omega
    have CB:Hid ((wr.alloc (.cells #[.int .i64 u.f.k,.int .i64 u.f.n,.int .i64 u.f.mn,.int .i64 u.f.mx,.slice u.f.rq u.f.rs.length u.f.rc,.slice u.f.kq u.f.kl u.f.kc] 25)).drew.heap[bs]?=some (.cells (dE t.f c o (.slice qv j cv) (.func (.func 87) #[] #[bx bp])) 147 (0,0))):=(Below.heap_alloc wr _ _ (aB LP.out.sc)).trans LP.out.sc
    have k8:(wr.alloc (.cells #[.int .i64 u.f.k,.int .i64 u.f.n,.int .i64 u.f.mn,.int .i64 u.f.mx,.slice u.f.rq u.f.rs.length u.f.rc,.slice u.f.kq u.f.kl u.f.kc] 25)).drew.cell? ⟨bs,8,none⟩=some (.slice qv j cv):=aA CB.out (i:=8) rfl
    have QC:Hid (∀ w',(Fr (Wr2 bb bs) W0 w'/\BoxN w' wr.heap.size u.f)->w'.cell? ⟨bo,0,none⟩=some (.func (.func 88) #[] #[bx bm,bx bg,bx bo,bx br,bx bp])/\w'.cell? ⟨wr.heap.size,0,none⟩=some (.int .i64 u.f.k)/\w'.cell? ⟨wr.heap.size,1,none⟩=some (.int .i64 u.f.n)/\w'.cell? ⟨wr.heap.size,2,none⟩=some (.int .i64 u.f.mn)/\w'.cell? ⟨wr.heap.size,3,none⟩=some (.int .i64 u.f.mx)/\w'.cell? ⟨wr.heap.size,4,none⟩=some (.slice u.f.rq u.f.rs.length u.f.rc)/\w'.cell? ⟨wr.heap.size,5,none⟩=some (.slice u.f.kq u.f.kl u.f.kc)):=fun w' hS=>by
     have six:=hS.2.six
     simp only [Six,g8] at six
     exact⟨aA (HTW.out.ck (fQ MB.out HBS.out.1 B0.out hS.1)).o (i:=0) rfl,six⟩
    have MK:Hid (MapV (wr.alloc (.cells #[.int .i64 u.f.k,.int .i64 u.f.n,.int .i64 u.f.mn,.int .i64 u.f.mx,.slice u.f.rq u.f.rs.length u.f.rc,.slice u.f.kq u.f.kl u.f.kc] 25)).drew (.agg #[.string ⟨#[]⟩,.bool false]) bb (n+szs (t.ks.take j)) (fun i=>enO ((evs ρ g (t.ks.take j)).2 i))):=LP.out.mp.kept ((bz9).drew)
    have OK:Hid ((wr.alloc (.cells #[.int .i64 u.f.k,.int .i64 u.f.n,.int .i64 u.f.mn,.int .i64 u.f.mx,.slice u.f.rq u.f.rs.length u.f.rc,.slice u.f.kq u.f.kl u.f.kc] 25)).drew.ownsRow W0.heap.size 80 2 (.slice qv j cv) j (ceO (evs ρ g (t.ks.take j)).1)):=aBO (l9 LP.out.own _)
    have CK2:Hid (CK w (wr.alloc (.cells #[.int .i64 u.f.k,.int .i64 u.f.n,.int .i64 u.f.mn,.int .i64 u.f.mx,.slice u.f.rq u.f.rs.length u.f.rc,.slice u.f.kq u.f.kl u.f.kc] 25)).drew):=fQ MB.out HBS.out.1 B0.out SK.out.1
    have LJ:=aD (show j<=1000000 by have:=eM t.ks;have:=hkz.out;have:=HN.out;omega)
    have IH0:=IH.out u (wr.alloc (.cells #[.int .i64 u.f.k,.int .i64 u.f.n,.int .i64 u.f.mn,.int .i64 u.f.mx,.slice u.f.rq u.f.rs.length u.f.rc,.slice u.f.kq u.f.kl u.f.kc] 25)).drew (n+szs (t.ks.take j)) (evs ρ g (t.ks.take j)).2 (by have:=dM hin;have:=HM.out;omega)
     (by have:=pP t.ks (j+1);rw [cC HU.out] at this;have:=hkz.out;have:=HN.out;omega) (hglo CK2.out HGW.out) ((HTA.out.ck CK2.out).kid hin) (bI HNP.out hin)
     (eY HG.out (t.ks.take j) g (fun u hu=>bI HNP.out (aAU hu)) HGD.out).2 (HTW.out.ck CK2.out) MK.out
    obtain⟨x5,hx5⟩:∃ x,(ev ρ (evs ρ g (t.ks.take j)).2 u).1=x:=⟨_,rfl⟩
    have IHU:Hid (Calls Tryz.prog 88 #[.agg #[.int .i64 u.f.k,.int .i64 u.f.n,.int .i64 u.f.mn,.int .i64 u.f.mx,.slice u.f.rq u.f.rs.length u.f.rc,.slice u.f.kq u.f.kl u.f.kc],bx bm,bx bg,bx bo,bx br,bx bp] (wr.alloc (.cells #[.int .i64 u.f.k,.int .i64 u.f.n,.int .i64 u.f.mn,.int .i64 u.f.mx,.slice u.f.rq u.f.rs.length u.f.rc,.slice u.f.kq u.f.kl u.f.kc] 25)).drew (fun e w'=>e=.returned (.agg #[.string x5.1,.bool x5.2])/\MapV w' (.agg #[.string ⟨#[]⟩,.bool false]) bb (n+szs (t.ks.take j)+u.sz) (fun i=>enO ((ev ρ (evs ρ g (t.ks.take j)).2 u).2 i))/\Fr (fun k=>k=bb) (wr.alloc (.cells #[.int .i64 u.f.k,.int .i64 u.f.n,.int .i64 u.f.mn,.int .i64 u.f.mx,.slice u.f.rq u.f.rs.length u.f.rc,.slice u.f.kq u.f.kl u.f.kc] 25)).drew w')):=aD (by subst hx5;exact IH0)
    have HX5:=aD hx5
    clear hin IH0 hx5
    go_wp2
    refine wp_region_held_drew (S:=fun w'=>Fr (Wr2 bb bs) W0 w'/\BoxN w' wr.heap.size u.f) (by kernel_rfl) SK.out (fun hHeld=>?_)
    refine aCD (v:=?_) 0 ?_ ?_
    rotate_left
    ·intro wz hSw;obtain⟨q0,q1,q2,q3,q4,q5,q6⟩:=QC.out wz hSw;clear hSw;go_simp;try with_reducible rfl
    dsimp only [Act.put,f4,b6,b7]
    simp only [a8,g4,g3]
    refine aCD (v:=?_) 2 ?_ ?_
    rotate_left
    ·intro wz hSw;obtain⟨q0,q1,q2,q3,q4,q5,q6⟩:=QC.out wz hSw;clear hSw;go_simp;try with_reducible rfl
    dsimp only [Act.put,f4,b6,b7]
    simp only [a8,g4,g3]
    refine aCD (v:=?_) 3 ?_ ?_
    rotate_left
    ·intro wz hSw;obtain⟨q0,q1,q2,q3,q4,q5,q6⟩:=QC.out wz hSw;clear hSw;go_simp;try with_reducible rfl
    dsimp only [Act.put,f4,b6,b7]
    simp only [a8,g4,g3]
    refine wpAnyH_ready (rs:=[1,4]) (by kernel_rfl) (by simp) ?_
    refine AllReadyH.cons rfl (fun K hK=>?_) (AllReadyH.cons rfl (fun K hK=>?_) AllReadyH.nil)
    ·go_simp
     refine hK.out _ _ SK.out (fun hHeld1=>?_)
     clear hK K
     refine wpAnyH_ready (rs:=[4]) (by kernel_rfl) (by simp) ?_
     refine AllReadyH.cons rfl (fun K hK=>?_) AllReadyH.nil
     go_simp
     go_at_call 88
     refine IHU.out.mono ?_
     rintro e w5 ⟨rfl,hm5,hf5⟩
     have M5:=aD hm5
     have F5:=aD hf5
     clear hm5 hf5
     have S5:Hid (Fr (Wr2 bb bs) W0 w5/\BoxN w5 wr.heap.size u.f):=⟨SK.out.1.trans (F5.out.mono (fun k e=>.inl e)),(F5.out.block _ (aB SK.out.2) (fun e=>NE.out.1 e)).trans SK.out.2⟩
     refine hK.out _ _ S5.out (fun hHeld2=>?_)
     clear hK K
     refine wpAnyH_ready (rs:=[5]) (by kernel_rfl) (by simp) ?_
     refine AllReadyH.cons rfl (fun K hK=>?_) AllReadyH.nil
     go_simp
     have S6:Hid (Fr (Wr2 bb bs) W0 (w5.alloc (.cells #[.string x5.1,.bool x5.2] 80))/\BoxN (w5.alloc (.cells #[.string x5.1,.bool x5.2] 80)) wr.heap.size u.f):=⟨S5.out.1.alloc _,(Below.heap_alloc _ _ _ (aB S5.out.2)).trans S5.out.2⟩
     refine hK.out _ _ S6.out (fun hHeld3=>?_)
     clear hK K
     refine wpAnyH_ready (rs:=[6]) (by kernel_rfl) (by simp) ?_
     refine AllReadyH.cons rfl (fun K hK=>?_) AllReadyH.nil
     have O6:Hid ((w5.alloc (.cells #[.string x5.1,.bool x5.2] 80)).ownsRow W0.heap.size 80 2 (.slice qv j cv) j (ceO (evs ρ g (t.ks.take j)).1)):=l9 (aM OK.out F5.out (fun k e z=>bS OK.out MK.out.block (z ▸ e))) _
     refine bF rfl _ _ 145 rfl W0.heap.size 80 t0 (.agg #[.string ⟨#[]⟩,.bool false]) 2 24 aC6 TI.out.1 TI.out.2.1 TI.out.2.2.1 TI.out.2.2.2 rfl (by decide) (.slice qv j cv) j (ceO (evs ρ g (t.ks.take j)).1) (by simp [Act.eval]) O6.out ⟨w5.heap.size,0,none⟩ 1 1 [.string x5.1,.bool x5.2] (by simp [Act.eval]) rfl (cR w5 [.string x5.1,.bool x5.2] _) (by simp [Value.oneCell']) (by have:=LJ.out;unfold maxLen;omega) (by have:=LJ.out;omega) (i8 S5.out.1.size (by simp only [a7];omega)) ?_
     intro v' w6 hown' hgrow hblk
     obtain⟨g6,cap6,rfl⟩:=aL hown' (aAC _)
     have O7:=aD hown'
     have G6:=aD hgrow
     clear hown' hgrow hblk
     have S7:Hid (Fr (Wr2 bb bs) W0 w6/\BoxN w6 wr.heap.size u.f):=⟨S6.out.1.grownNew G6.out (fun k e=>(aH O6.out e).1),(G6.out.block _ (aB S6.out.2) (fun e=>by
      have:=(aH LP.out.own e.symm).2.1
      omega)).trans S6.out.2⟩
     have C7:Hid (w6.heap[bs]?=some (.cells (dE t.f c o (.slice qv j cv) (.func (.func 87) #[] #[bx bp])) 147 (0,0))):=(by
      have e5:=(F5.out.block _ (aB CB.out) (fun e=>NE.out.2 e.symm)).trans CB.out
      have e6:=(Below.heap_alloc w5 (.cells #[.string x5.1,.bool x5.2] 80) _ (aB e5)).trans e5
      exact(G6.out.block _ (aB e6) (fun e=>aP O6.out e6 (by decide) e.symm)).trans e6)
     have M7:Hid (MapV w6 (.agg #[.string ⟨#[]⟩,.bool false]) bb (n+szs (t.ks.take j)+u.sz) (fun i=>enO ((ev ρ (evs ρ g (t.ks.take j)).2 u).2 i))):=(by
      have m6:=M5.out.kept ((Below.refl _ _).alloc lz9 (.cells #[.string x5.1,.bool x5.2] 80))
      exact m6.same (G6.out.block _ m6.lt (fun e=>bS O6.out m6.block e.symm)))
     refine hK.out _ _ S7.out (fun hHeld4=>?_)
     clear hK K
     refine aCD (v:=?_) 7 ?_ ?_
     rotate_left
     ·intro wz hSw;obtain⟨q0,q1,q2,q3,q4,q5,q6⟩:=QC.out wz hSw;clear hSw;go_simp;try with_reducible rfl
     dsimp only [Act.put,f4,b6,b7]
     simp only [a8,g4,g3]
     refine wpAnyH_ready (rs:=[8]) (by kernel_rfl) (by simp) ?_
     refine AllReadyH.cons rfl (fun K hK=>?_) AllReadyH.nil
     have k7:w6.cell? ⟨bs,8,none⟩=some (.slice qv j cv):=aA C7.out (i:=8) rfl
     have fz:=aG C7.out 8
     go_simp
     have S8:Hid (Fr (Wr2 bb bs) W0 (w6.setCell ⟨bs,8,none⟩ (.slice (some ⟨g6,0,none⟩) (j+1) cap6))/\BoxN (w6.setCell ⟨bs,8,none⟩ (.slice (some ⟨g6,0,none⟩) (j+1) cap6)) wr.heap.size u.f):=⟨S7.out.1.setCell (p:=⟨bs,8,none⟩) (.inr rfl) _,(Below.heap_setCell _ _ _ _ (fun e=>NE3.out e)).trans S7.out.2⟩
     refine hK.out _ _ S8.out (fun hHeld5=>?_)
     clear hK K
     refine wpAnyH_done (by kernel_rfl) ?_ _
     have LQ:Hid (LpO ρ W0 (w6.setCell ⟨bs,8,none⟩ (.slice (some ⟨g6,0,none⟩) (j+1) cap6)) bb bs n t c o g (j+1) (.slice (some ⟨g6,0,none⟩) (j+1) cap6) (.func (.func 87) #[] #[bx bp])):=by
      obtain⟨ea,eb⟩:=dJ (ρ:=ρ) HU.out g
      refine⟨aO C7.out 8 _,?_,?_,S8.out.1⟩
      ·rw [ea,wY,HX5.out]
       exact aM O7.out ((Fr.refl (fun k=>k=bs) w6).setCell (p:=⟨bs,8,none⟩) rfl _) (fun k e z=>aP O7.out C7.out (by decide) (z ▸ e))
      ·rw [eb,cC HU.out,<- aAI]
       exact M7.out.fr ((Fr.refl (fun k=>k=bs) w6).setCell (p:=⟨bs,8,none⟩) rfl _) (fun e=>by
        obtain⟨es,cl,hb⟩:=M7.out.block
        rw [e,C7.out] at hb
        cases hb)
     clear k7 fz
     go_wp2
     go_roundw
     case rel=>exact⟨j+1,_,by omega,by go_num,LQ.out⟩
     case measure=>simp only [intOf];omega
    ·go_simp
     go_at_call 88
     refine IHU.out.mono ?_
     rintro e w5 ⟨rfl,hm5,hf5⟩
     have M5:=aD hm5
     have F5:=aD hf5
     clear hm5 hf5
     have S5:Hid (Fr (Wr2 bb bs) W0 w5/\BoxN w5 wr.heap.size u.f):=⟨SK.out.1.trans (F5.out.mono (fun k e=>.inl e)),(F5.out.block _ (aB SK.out.2) (fun e=>NE.out.1 e)).trans SK.out.2⟩
     refine hK.out _ _ S5.out (fun hHeld1=>?_)
     clear hK K
     refine wpAnyH_ready (rs:=[1,5]) (by kernel_rfl) (by simp) ?_
     refine AllReadyH.cons rfl (fun K hK=>?_) (AllReadyH.cons rfl (fun K hK=>?_) AllReadyH.nil)
     ·have k9:w5.cell? ⟨bs,8,none⟩=some (.slice qv j cv):=aA ((F5.out.block _ (aB CB.out) (fun e=>NE.out.2 e.symm)).trans CB.out) (i:=8) rfl
      go_simp
      refine hK.out _ _ S5.out (fun hHeld2=>?_)
      clear hK K
      refine wpAnyH_ready (rs:=[5]) (by kernel_rfl) (by simp) ?_
      refine AllReadyH.cons rfl (fun K hK=>?_) AllReadyH.nil
      go_simp
      have S6:Hid (Fr (Wr2 bb bs) W0 (w5.alloc (.cells #[.string x5.1,.bool x5.2] 80))/\BoxN (w5.alloc (.cells #[.string x5.1,.bool x5.2] 80)) wr.heap.size u.f):=⟨S5.out.1.alloc _,(Below.heap_alloc _ _ _ (aB S5.out.2)).trans S5.out.2⟩
      refine hK.out _ _ S6.out (fun hHeld3=>?_)
      clear hK K
      refine wpAnyH_ready (rs:=[6]) (by kernel_rfl) (by simp) ?_
      refine AllReadyH.cons rfl (fun K hK=>?_) AllReadyH.nil
      have O6:Hid ((w5.alloc (.cells #[.string x5.1,.bool x5.2] 80)).ownsRow W0.heap.size 80 2 (.slice qv j cv) j (ceO (evs ρ g (t.ks.take j)).1)):=l9 (aM OK.out F5.out (fun k e z=>bS OK.out MK.out.block (z ▸ e))) _
      refine bF rfl _ _ 145 rfl W0.heap.size 80 t0 (.agg #[.string ⟨#[]⟩,.bool false]) 2 24 aC6 TI.out.1 TI.out.2.1 TI.out.2.2.1 TI.out.2.2.2 rfl (by decide) (.slice qv j cv) j (ceO (evs ρ g (t.ks.take j)).1) (by simp [Act.eval]) O6.out ⟨w5.heap.size,0,none⟩ 1 1 [.string x5.1,.bool x5.2] (by simp [Act.eval]) rfl (cR w5 [.string x5.1,.bool x5.2] _) (by simp [Value.oneCell']) (by have:=LJ.out;unfold maxLen;omega) (by have:=LJ.out;omega) (i8 S5.out.1.size (by simp only [a7];omega)) ?_
      intro v' w6 hown' hgrow hblk
      obtain⟨g6,cap6,rfl⟩:=aL hown' (aAC _)
      have O7:=aD hown'
      have G6:=aD hgrow
      clear hown' hgrow hblk
      have S7:Hid (Fr (Wr2 bb bs) W0 w6/\BoxN w6 wr.heap.size u.f):=⟨S6.out.1.grownNew G6.out (fun k e=>(aH O6.out e).1),(G6.out.block _ (aB S6.out.2) (fun e=>by
       have:=(aH LP.out.own e.symm).2.1
       omega)).trans S6.out.2⟩
      have C7:Hid (w6.heap[bs]?=some (.cells (dE t.f c o (.slice qv j cv) (.func (.func 87) #[] #[bx bp])) 147 (0,0))):=(by
       have e5:=(F5.out.block _ (aB CB.out) (fun e=>NE.out.2 e.symm)).trans CB.out
       have e6:=(Below.heap_alloc w5 (.cells #[.string x5.1,.bool x5.2] 80) _ (aB e5)).trans e5
       exact(G6.out.block _ (aB e6) (fun e=>aP O6.out e6 (by decide) e.symm)).trans e6)
      have M7:Hid (MapV w6 (.agg #[.string ⟨#[]⟩,.bool false]) bb (n+szs (t.ks.take j)+u.sz) (fun i=>enO ((ev ρ (evs ρ g (t.ks.take j)).2 u).2 i))):=(by
       have m6:=M5.out.kept ((Below.refl _ _).alloc lz9 (.cells #[.string x5.1,.bool x5.2] 80))
       exact m6.same (G6.out.block _ m6.lt (fun e=>bS O6.out m6.block e.symm)))
      refine hK.out _ _ S7.out (fun hHeld4=>?_)
      clear hK K
      refine aCD (v:=?_) 7 ?_ ?_
      rotate_left
      ·intro wz hSw;obtain⟨q0,q1,q2,q3,q4,q5,q6⟩:=QC.out wz hSw;clear hSw;go_simp;try with_reducible rfl
      dsimp only [Act.put,f4,b6,b7]
      simp only [a8,g4,g3]
      refine wpAnyH_ready (rs:=[8]) (by kernel_rfl) (by simp) ?_
      refine AllReadyH.cons rfl (fun K hK=>?_) AllReadyH.nil
      have k7:w6.cell? ⟨bs,8,none⟩=some (.slice qv j cv):=aA C7.out (i:=8) rfl
      have fz:=aG C7.out 8
      go_simp
      have S8:Hid (Fr (Wr2 bb bs) W0 (w6.setCell ⟨bs,8,none⟩ (.slice (some ⟨g6,0,none⟩) (j+1) cap6))/\BoxN (w6.setCell ⟨bs,8,none⟩ (.slice (some ⟨g6,0,none⟩) (j+1) cap6)) wr.heap.size u.f):=⟨S7.out.1.setCell (p:=⟨bs,8,none⟩) (.inr rfl) _,(Below.heap_setCell _ _ _ _ (fun e=>NE3.out e)).trans S7.out.2⟩
      refine hK.out _ _ S8.out (fun hHeld5=>?_)
      clear hK K
      refine wpAnyH_done (by kernel_rfl) ?_ _
      have LQ:Hid (LpO ρ W0 (w6.setCell ⟨bs,8,none⟩ (.slice (some ⟨g6,0,none⟩) (j+1) cap6)) bb bs n t c o g (j+1) (.slice (some ⟨g6,0,none⟩) (j+1) cap6) (.func (.func 87) #[] #[bx bp])):=by
       obtain⟨ea,eb⟩:=dJ (ρ:=ρ) HU.out g
       refine⟨aO C7.out 8 _,?_,?_,S8.out.1⟩
       ·rw [ea,wY,HX5.out]
        exact aM O7.out ((Fr.refl (fun k=>k=bs) w6).setCell (p:=⟨bs,8,none⟩) rfl _) (fun k e z=>aP O7.out C7.out (by decide) (z ▸ e))
       ·rw [eb,cC HU.out,<- aAI]
        exact M7.out.fr ((Fr.refl (fun k=>k=bs) w6).setCell (p:=⟨bs,8,none⟩) rfl _) (fun e=>by
         obtain⟨es,cl,hb⟩:=M7.out.block
         rw [e,C7.out] at hb
         cases hb)
      clear k7 fz
      go_wp2
      go_roundw
      case rel=>exact⟨j+1,_,by omega,by go_num,LQ.out⟩
      case measure=>simp only [intOf];omega
     ·go_simp
      have S6:Hid (Fr (Wr2 bb bs) W0 (w5.alloc (.cells #[.string x5.1,.bool x5.2] 80))/\BoxN (w5.alloc (.cells #[.string x5.1,.bool x5.2] 80)) wr.heap.size u.f):=⟨S5.out.1.alloc _,(Below.heap_alloc _ _ _ (aB S5.out.2)).trans S5.out.2⟩
      refine hK.out _ _ S6.out (fun hHeld2=>?_)
      clear hK K
      refine wpAnyH_ready (rs:=[1]) (by kernel_rfl) (by simp) ?_
      refine AllReadyH.cons rfl (fun K hK=>?_) AllReadyH.nil
      have k9:(w5.alloc (.cells #[.string x5.1,.bool x5.2] 80)).cell? ⟨bs,8,none⟩=some (.slice qv j cv):=(by have e5:=(F5.out.block _ (aB CB.out) (fun e=>NE.out.2 e.symm)).trans CB.out;exact aA ((Below.heap_alloc w5 (.cells #[.string x5.1,.bool x5.2] 80) _ (aB e5)).trans e5) (i:=8) rfl)
      go_simp
      refine hK.out _ _ S6.out (fun hHeld3=>?_)
      clear hK K
      refine wpAnyH_ready (rs:=[6]) (by kernel_rfl) (by simp) ?_
      refine AllReadyH.cons rfl (fun K hK=>?_) AllReadyH.nil
      have O6:Hid ((w5.alloc (.cells #[.string x5.1,.bool x5.2] 80)).ownsRow W0.heap.size 80 2 (.slice qv j cv) j (ceO (evs ρ g (t.ks.take j)).1)):=l9 (aM OK.out F5.out (fun k e z=>bS OK.out MK.out.block (z ▸ e))) _
      refine bF rfl _ _ 145 rfl W0.heap.size 80 t0 (.agg #[.string ⟨#[]⟩,.bool false]) 2 24 aC6 TI.out.1 TI.out.2.1 TI.out.2.2.1 TI.out.2.2.2 rfl (by decide) (.slice qv j cv) j (ceO (evs ρ g (t.ks.take j)).1) (by simp [Act.eval]) O6.out ⟨w5.heap.size,0,none⟩ 1 1 [.string x5.1,.bool x5.2] (by simp [Act.eval]) rfl (cR w5 [.string x5.1,.bool x5.2] _) (by simp [Value.oneCell']) (by have:=LJ.out;unfold maxLen;omega) (by have:=LJ.out;omega) (i8 S5.out.1.size (by simp only [a7];omega)) ?_
      intro v' w6 hown' hgrow hblk
      obtain⟨g6,cap6,rfl⟩:=aL hown' (aAC _)
      have O7:=aD hown'
      have G6:=aD hgrow
      clear hown' hgrow hblk
      have S7:Hid (Fr (Wr2 bb bs) W0 w6/\BoxN w6 wr.heap.size u.f):=⟨S6.out.1.grownNew G6.out (fun k e=>(aH O6.out e).1),(G6.out.block _ (aB S6.out.2) (fun e=>by
       have:=(aH LP.out.own e.symm).2.1
       omega)).trans S6.out.2⟩
      have C7:Hid (w6.heap[bs]?=some (.cells (dE t.f c o (.slice qv j cv) (.func (.func 87) #[] #[bx bp])) 147 (0,0))):=(by
       have e5:=(F5.out.block _ (aB CB.out) (fun e=>NE.out.2 e.symm)).trans CB.out
       have e6:=(Below.heap_alloc w5 (.cells #[.string x5.1,.bool x5.2] 80) _ (aB e5)).trans e5
       exact(G6.out.block _ (aB e6) (fun e=>aP O6.out e6 (by decide) e.symm)).trans e6)
      have M7:Hid (MapV w6 (.agg #[.string ⟨#[]⟩,.bool false]) bb (n+szs (t.ks.take j)+u.sz) (fun i=>enO ((ev ρ (evs ρ g (t.ks.take j)).2 u).2 i))):=(by
       have m6:=M5.out.kept ((Below.refl _ _).alloc lz9 (.cells #[.string x5.1,.bool x5.2] 80))
       exact m6.same (G6.out.block _ m6.lt (fun e=>bS O6.out m6.block e.symm)))
      refine hK.out _ _ S7.out (fun hHeld4=>?_)
      clear hK K
      refine aCD (v:=?_) 7 ?_ ?_
      rotate_left
      ·intro wz hSw;obtain⟨q0,q1,q2,q3,q4,q5,q6⟩:=QC.out wz hSw;clear hSw;go_simp;try with_reducible rfl
      dsimp only [Act.put,f4,b6,b7]
      simp only [a8,g4,g3]
      refine wpAnyH_ready (rs:=[8]) (by kernel_rfl) (by simp) ?_
      refine AllReadyH.cons rfl (fun K hK=>?_) AllReadyH.nil
      have k7:w6.cell? ⟨bs,8,none⟩=some (.slice qv j cv):=aA C7.out (i:=8) rfl
      have fz:=aG C7.out 8
      go_simp
      have S8:Hid (Fr (Wr2 bb bs) W0 (w6.setCell ⟨bs,8,none⟩ (.slice (some ⟨g6,0,none⟩) (j+1) cap6))/\BoxN (w6.setCell ⟨bs,8,none⟩ (.slice (some ⟨g6,0,none⟩) (j+1) cap6)) wr.heap.size u.f):=⟨S7.out.1.setCell (p:=⟨bs,8,none⟩) (.inr rfl) _,(Below.heap_setCell _ _ _ _ (fun e=>NE3.out e)).trans S7.out.2⟩
      refine hK.out _ _ S8.out (fun hHeld5=>?_)
      clear hK K
      refine wpAnyH_done (by kernel_rfl) ?_ _
      have LQ:Hid (LpO ρ W0 (w6.setCell ⟨bs,8,none⟩ (.slice (some ⟨g6,0,none⟩) (j+1) cap6)) bb bs n t c o g (j+1) (.slice (some ⟨g6,0,none⟩) (j+1) cap6) (.func (.func 87) #[] #[bx bp])):=by
       obtain⟨ea,eb⟩:=dJ (ρ:=ρ) HU.out g
       refine⟨aO C7.out 8 _,?_,?_,S8.out.1⟩
       ·rw [ea,wY,HX5.out]
        exact aM O7.out ((Fr.refl (fun k=>k=bs) w6).setCell (p:=⟨bs,8,none⟩) rfl _) (fun k e z=>aP O7.out C7.out (by decide) (z ▸ e))
       ·rw [eb,cC HU.out,<- aAI]
        exact M7.out.fr ((Fr.refl (fun k=>k=bs) w6).setCell (p:=⟨bs,8,none⟩) rfl _) (fun e=>by
         obtain⟨es,cl,hb⟩:=M7.out.block
         rw [e,C7.out] at hb
         cases hb)
      clear k7 fz
      go_wp2
      go_roundw
      case rel=>exact⟨j+1,_,by omega,by go_num,LQ.out⟩
      case measure=>simp only [intOf];omega
   ·have e0:¬ (j:Int) < (t.f.kl:Int):=by rw [HKL.out];omega
    obtain rfl:j=t.ks.length:=by omega
    have hk:t.ks.take t.ks.length=t.ks:=aAQ
    have XO:=aD (hk ▸ LP.out.own)
    have XM:=aD (hk ▸ LP.out.mp)
    have r0:wr.cell? ⟨br,0,none⟩=some (.func (.func 47) #[] #[]):=aA (HTW.out.ck CW.out).r (i:=0) rfl
    have s0:wr.cell? ⟨bs,0,none⟩=some (.int .i64 t.f.k):=aA LP.out.sc (i:=0) rfl
    have s1:wr.cell? ⟨bs,1,none⟩=some (.int .i64 t.f.n):=aA LP.out.sc (i:=1) rfl
    have s2:wr.cell? ⟨bs,2,none⟩=some (.int .i64 t.f.mn):=aA LP.out.sc (i:=2) rfl
    have s3:wr.cell? ⟨bs,3,none⟩=some (.int .i64 t.f.mx):=aA LP.out.sc (i:=3) rfl
    have s4:wr.cell? ⟨bs,4,none⟩=some (.slice t.f.rq t.f.rs.length t.f.rc):=aA LP.out.sc (i:=4) rfl
    have s5:wr.cell? ⟨bs,5,none⟩=some (.slice t.f.kq t.f.kl t.f.kc):=aA LP.out.sc (i:=5) rfl
    have s6:wr.cell? ⟨bs,6,none⟩=some (.bool c):=aA LP.out.sc (i:=6) rfl
    have s7:wr.cell? ⟨bs,7,none⟩=some (.bool o):=aA LP.out.sc (i:=7) rfl
    have s8:wr.cell? ⟨bs,8,none⟩=some (.slice qv t.ks.length cv):=aA LP.out.sc (i:=8) rfl
    have s9:wr.cell? ⟨bs,9,none⟩=some (.func (.func 87) #[] #[bx bp]):=aA LP.out.sc (i:=9) rfl
    clear hk
    obtain⟨gx,gy⟩:=eY HG.out t.ks g (fun u hu=>bI HNP.out hu) HGD.out
    have hC:=HR.out t (evs ρ g t.ks).1 (evs ρ g t.ks).2 wr (.slice qv t.ks.length cv) bp bb (n+szs t.ks) W0.heap.size (hglo CW.out HGW.out) ((bE t).1 HNP.out).1 (by have:=eM t.ks;have:=hkz.out;have:=HN.out;omega) ((HTA.out.ck CW.out).node) (gJ _ _) gx gy (by rw [gJ];exact XO.out) (HTW.out.ck CW.out).p XM.out
    simp only [dE,enO] at hC
    have HC:=aD hC
    clear hC gx gy
    have BN:Hid (BoxN wr w.heap.size t.f):=(LP.out.fr.block _ (aB N0.out) (fun z=>by
     rcases z with e | e
     ·obtain⟨es,cl,hb⟩:=MB.out
      rw [<- e,show W0.heap[w.heap.size]?=_ from N0.out] at hb
      cases hb
     ·have:=HBS.out.2.2;omega)).trans N0.out
    have BR:Hid (wr.heap[w.heap.size+1]?=some (.cells #[.string ⟨#[]⟩,.bool false] 80 (0,0))):=(LP.out.fr.block _ (aB R0.out) (fun z=>by
     rcases z with e | e
     ·obtain⟨es,cl,hb⟩:=MB.out
      rw [<- e,R0.out] at hb
      cases hb
     ·have:=HBS.out.2.2;omega)).trans R0.out
    have hx:(ev ρ g t).1=ρ t.f t.ks (evs ρ g t.ks).1 (evs ρ g t.ks).2:=iV g t
    rw [<- hx] at HC
    have HS:=aD (jN (ρ:=ρ) g t)
    obtain⟨x,hxx⟩:∃ x,(ev ρ g t).1=x:=⟨_,rfl⟩
    rw [hxx] at HC HS
    have HX:=aD hxx
    clear hx hxx
    have FW:Hid (Fr (fun k=>k=bb) w wr):=sT HBS.out.1 B0.out LP.out.fr
    by_cases h7:t.f.k=7
    ·have h7b:(t.f.k==7)=true:=by simp [h7]
     have WF:Hid ((Lit.int .i64 t.f.n).wf=true):=HWF.out t ((bE t).1 HNP.out).1 h7
     rw [if_pos h7] at HS
     clear h7
     go_wp2_with first
      |(go_at_call 47;refine HC.out.mono ?_;rintro e w5 ⟨rfl,h5⟩;have B5:=aD h5;clear h5 s0 s1 s2 s3 s4 s5 s6 s7 s8 s9 r0;have N5:Hid (BoxN w5 w.heap.size t.f):=(B5.out.block _ (aB BN.out)).trans BN.out;have A5:Hid (Below w5.heap.size w5 (w5.alloc (.cells #[.string x.1,.bool x.2] 80))):=bz9;have N6:Hid (BoxN (w5.alloc (.cells #[.string x.1,.bool x.2] 80)) w.heap.size t.f):=(A5.out.block _ (aB N5.out)).trans N5.out;have R5:Hid ((w5.alloc (.cells #[.string x.1,.bool x.2] 80)).heap[w.heap.size+1]?=some (.cells #[.string ⟨#[]⟩,.bool false] 80 (0,0))):=(A5.out.block _ (aB ((B5.out.block _ (aB BR.out)).trans BR.out))).trans ((B5.out.block _ (aB BR.out)).trans BR.out);have k0:(w5.alloc (.cells #[.string x.1,.bool x.2] 80)).cell? ⟨w.heap.size,0,none⟩=some (.int .i64 t.f.k):=N6.out.six.1;have k1:(w5.alloc (.cells #[.string x.1,.bool x.2] 80)).cell? ⟨w.heap.size,1,none⟩=some (.int .i64 t.f.n):=N6.out.six.2.1;have p0:(w5.alloc (.cells #[.string x.1,.bool x.2] 80)).cell? ⟨bp,0,none⟩=some (.map (some bb)):=aA (((HTW.out.ck CW.out).ck (CK.of_below B5.out)).ck (CK.of_below A5.out)).p (i:=0) rfl;have z0:=aA R5.out (i:=0) rfl;have z1:=aA R5.out (i:=1) rfl;have fz:=fun z=>aG R5.out z)
      |(at_mapUpdate;refine eU _ rfl _ _ _ 142 rfl 80 bI6 (.agg #[.string ⟨#[]⟩,.bool false]) bb (n+szs t.ks) (fun i=>enO ((evs ρ g t.ks).2 i)) rfl ((XM.out.kept B5.out).kept (bz9)) (by have:=HN.out;have:=hkz.out;unfold maxLen;omega) t.f.n rfl WF.out (enO x) rfl ?_;intro w6 hm6 hg6;have M6:=aD hm6;have G6:=aD hg6;clear hm6 hg6;have C6:Hid (CK (w5.alloc (.cells #[.string x.1,.bool x.2] 80)) w6):=wV ((XM.out.kept B5.out).kept A5.out).block ((Fr.refl _ _).grown G6.out (fun k e=>by injection e with e;exact e.symm));have R6:Hid (w6.heap[w.heap.size+1]?=some (.cells #[.string ⟨#[]⟩,.bool false] 80 (0,0))):=C6.out.same _ _ _ _ (aB R5.out) R5.out;have X6:Hid (w6.heap[w5.heap.size]?=some (.cells #[.string x.1,.bool x.2] 80 (0,0))):=C6.out.same _ _ _ _ (aB (aE w5 _)) (aE w5 _);clear fz z0 z1;have z0:=aA R6.out (i:=0) rfl;have x0:=aA X6.out (i:=0) rfl;have z1:=aA R6.out (i:=1) rfl;have x1:=aA X6.out (i:=1) rfl;have fz:=fun z=>aG R6.out z)
     refine aI1 (b:=w.heap.size+1) (x:=x) (bA R6.out [.string x.1,.bool x.2] rfl) rfl rfl ?_
     have F7:=aV (w.heap.size+1) [.string x.1,.bool x.2] 0 w6
     refine⟨by rw [HX.out],?_,?_⟩
     ·rw [HS.out,<- rS,show n+t.sz=n+szs t.ks+1 by have:=hkz.out;omega]
      exact M6.out.fr F7 (fun e=>by
       obtain⟨es,cl,hb⟩:=M6.out.block
       rw [e,R6.out] at hb
       cases hb)
     ·exact lY (((FW.out.then B5.out).then (bz9)).grown G6.out (fun k e=>by injection e with e;exact e.symm)) F7 (by omega)
    ·have h7b:(t.f.k==7)=false:=by simp [h7]
     rw [if_neg h7] at HS
     clear h7
     go_wp2_with first
      |(go_at_call 47;refine HC.out.mono ?_;rintro e w5 ⟨rfl,h5⟩;have B5:=aD h5;clear h5 s0 s1 s2 s3 s4 s5 s6 s7 s8 s9 r0;have N5:Hid (BoxN w5 w.heap.size t.f):=(B5.out.block _ (aB BN.out)).trans BN.out;have A5:Hid (Below w5.heap.size w5 (w5.alloc (.cells #[.string x.1,.bool x.2] 80))):=bz9;have N6:Hid (BoxN (w5.alloc (.cells #[.string x.1,.bool x.2] 80)) w.heap.size t.f):=(A5.out.block _ (aB N5.out)).trans N5.out;have R5:Hid ((w5.alloc (.cells #[.string x.1,.bool x.2] 80)).heap[w.heap.size+1]?=some (.cells #[.string ⟨#[]⟩,.bool false] 80 (0,0))):=(A5.out.block _ (aB ((B5.out.block _ (aB BR.out)).trans BR.out))).trans ((B5.out.block _ (aB BR.out)).trans BR.out);have k0:(w5.alloc (.cells #[.string x.1,.bool x.2] 80)).cell? ⟨w.heap.size,0,none⟩=some (.int .i64 t.f.k):=N6.out.six.1;have k1:(w5.alloc (.cells #[.string x.1,.bool x.2] 80)).cell? ⟨w.heap.size,1,none⟩=some (.int .i64 t.f.n):=N6.out.six.2.1;have p0:(w5.alloc (.cells #[.string x.1,.bool x.2] 80)).cell? ⟨bp,0,none⟩=some (.map (some bb)):=aA (((HTW.out.ck CW.out).ck (CK.of_below B5.out)).ck (CK.of_below A5.out)).p (i:=0) rfl;have z0:=aA R5.out (i:=0) rfl;have z1:=aA R5.out (i:=1) rfl;have fz:=fun z=>aG R5.out z)
     refine aI1 (b:=w.heap.size+1) (x:=x) (bA R5.out [.string x.1,.bool x.2] rfl) rfl rfl ?_
     have F7:=aV (w.heap.size+1) [.string x.1,.bool x.2] 0 (w5.alloc (.cells #[.string x.1,.bool x.2] 80))
     refine⟨by rw [HX.out],?_,?_⟩
     ·rw [HS.out]
      have M6:=((XM.out.kept B5.out).kept ((Below.refl _ _).alloc lz9 (.cells #[.string x.1,.bool x.2] 80)))
      exact(M6.fr F7 (fun e=>by
       obtain⟨es,cl,hb⟩:=M6.block
       rw [e,R5.out] at hb
       cases hb)).mono (by have:=hkz.out;omega)
     ·exact lY ((FW.out.then B5.out).then (bz9)) F7 (by omega)
end
end Go.Proofs.YtlaimbkenbijeaaGreatDoor
