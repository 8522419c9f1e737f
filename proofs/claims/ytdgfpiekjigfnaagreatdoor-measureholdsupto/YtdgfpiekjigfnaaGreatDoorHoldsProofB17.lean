/-
  Parts of the proof.
-/
import Derived.Test.YtdgfpiekjigfnaaGreatDoorHoldsProofA0
import Derived.Test.YtdgfpiekjigfnaaGreatDoorHoldsProofA1
import Derived.Test.YtdgfpiekjigfnaaGreatDoorHoldsProofB16
import Derived.Test.YtdgfpiekjigfnaaGreatDoorHoldsProofB2
import Derived.Deep.RegionHeld
import Derived.Laws.EntriesVeiled
import Derived.Test.YtdgfpiekjigfnaaGreatDoorHoldsProofB4
import Derived.Test.YtdgfpiekjigfnaaGreatDoorHoldsProofB15
set_option maxRecDepth 100000
set_option maxHeartbeats 8000000
namespace Go.Proofs.YtdgfpiekjigfnaaGreatDoor
open Go Go.RowKit
section
attribute [local go_sem] Oper.semAt_some aS
def cR(x:Int×Int):Prop:=(0<=x.1/\x.1<=1000000)/\-1<=x.2/\x.2<=1000000
def pK(w x:Int×Int):Int×Int:=(lst (w.1+x.1),uE w.2 x.2)
def kS(w x:Int×Int):Int×Int:=(min w.1 x.1,xB w.2 x.2)
def bV(c:Bool):dJ (Int×Int):=fun f _ xs g=>
 if f.k=2 then uF c f.rs else if f.k=5 then xs.foldl pK (0,0) else if f.k=6 then xs.foldl kS (xs.headD (0,0)) else if f.k=7 then xs.headD (0,0)
 else if f.k=8 then g f.n else if f.k=9 then (lst (f.mn*(xs.headD (0,0)).1),gW f.mx (xs.headD (0,0)).2) else (0,0)
theorem zR{w x:Int×Int}(h:cR w)(k:cR x):cR (pK w x):=by
 unfold cR at *;unfold pK lst uE mst;refine⟨by simp only;omega,?_⟩;simp only
 split
 ·omega
 ·split <;> omega
theorem zS{w x:Int×Int}(h:cR w)(k:cR x):cR (kS w x):=by
 unfold cR at *;unfold kS xB;refine⟨by simp only;omega,?_⟩;simp only
 split <;> omega
theorem jU{f:Int×Int->Int×Int->Int×Int}(hf:∀ w x,cR w->cR x->cR (f w x)):∀ (l:lIi) (w:Int×Int),cR w->(∀ x∈l,cR x)->cR (l.foldl f w)
 | [],_,h,_=>h
 | x :: l,w,h,hl=>jU hf l (f w x) (hf w x h (hl x (r9 ..))) (fun y hy=>hl y (r8 _ hy))
theorem aM3(c:Bool)(x:Int):(gA c x).length<=4:=by
 unfold gA
 split
 ·have:=(Lib.runeCells_le x).2;rwa [Lib.runeCells_length] at this
 ·simp
theorem jS:cR (0,0):=⟨by simp,by simp⟩
theorem bB7(c:Bool)(l:lIi):cR (uF c l):=by
 unfold uF
 split
 ·exact jS
 ·rename_i r s
  have h1:=aM3 c r.1;have h2:=aM3 c ((r :: s).getLast (by simp)).2;unfold cR;simp only;omega
theorem qF{xs:lIi}(h:∀ x∈xs,cR x):cR (xs.headD (0,0)):=by
 cases xs with
 | nil=>exact jS
 | cons x l=>exact h x (r9 ..)
theorem bB8{f:Fl}{x:Int×Int}(hb:fI f.mn f.mx=true)(h:cR x):cR (lst (f.mn*x.1),gW f.mx x.2):=by
 simp [fI] at hb;unfold cR at *;have h1:0<=f.mn*x.1:=aCL (by omega) h.1.1;refine⟨by simp only [lst];omega,?_⟩;simp only [gW,mst]
 split
 ·omega
 ·split
  ·omega
  ·have h2:0<=f.mx*x.2:=aCL (by omega) (by omega)
   split <;> omega
theorem rV{c o:Bool}(t:Tr)(xs:lIi)(g:Int->Int×Int)(hn:NP c o t)(_:xs.length=t.ks.length)(hx:∀ x∈xs,cR x)(hg:∀ i,cR (g i)):cR (bV c t.f t.ks xs g):=by
 unfold bV
 split
 ·exact bB7 _ _
 split
 ·exact jU (fun _ _=>zR) xs _ jS hx
 split
 ·exact jU (fun _ _=>zS) xs _ (qF hx) hx
 split
 ·exact qF hx
 split
 ·exact hg _
 split
 ·rename_i hk
  exact bB8 (nH hn hk) (qF hx)
 ·exact jS
theorem aE4(c:Bool):tU (bV c):=fun f ks xs g g' h=>by
 unfold bV;by_cases hk:f.k=8
 ·rw [h hk]
 ·simp [hk]
theorem aX6{c o:Bool}{L:lIi}(h:nD c o L){r:Int×Int}(hr:r∈L):bP c r.1/\bP c r.2:=by
 have hs:=h.1.cls.some r hr;exact⟨((h.1.mem r.1).1 ⟨r,hr,aAH _,hs⟩).2,((h.1.mem r.2).1 ⟨r,hr,hs,aAH _⟩).2⟩
theorem eQ{R:Ending->World->Prop}{a:Act}{W:World}{b:Nat}{x:Int×Int}(h:W.heap[b]?=some (.cells #[.I x.1,.I x.2] 65 (0,0)))(ha:a.tmps[2]?.getD undef=.pointer (some (aDr b 0)))(hd:a.defers=[])(hR:R (.returned (enW x)) W):bodyPost Tryz.prog Tryz.f27 R .ret a W:=by
 refine bodyPost_ret (v:=enW x) ?_ hd hR;have z0:=aA h (i:=0) rfl;have z1:=aA h (i:=1) rfl;simp [results,Tryz.results27,go_sem,ha,enW,z0,z1]
def Two(W V:World)(x:Int×Int):Prop:=V.heap[W.heap.size+1]?=some (.cells #[.I 0,.I 0] 65 (0,0))/\V.heap[W.heap.size+1+1]?=some (.cells #[.I x.1,.I x.2] 65 (0,0))/\wBl W V
theorem Two.put{W V:World}{x:Int×Int}(h:Two W V x)(y:Int×Int):Two W (bF V (W.heap.size+1+1) 0 [.I y.1,.I y.2]) y:=
 ⟨((aY _ _ 0 V).block _ (aB h.1) (by omega)).trans h.1,bA h.2.1 [.I y.1,.I y.2] rfl,bB h.2.2 (aY _ _ 0 V) lz9 (fun k e=>by omega)⟩
theorem Two.kept{W V V':World}{x:Int×Int}(h:Two W V x)(hb:wBl V V'):Two W V' x:=
 ⟨(hb.block _ (aB h.1)).trans h.1,(hb.block _ (aB h.2.1)).trans h.2.1,aJ h.2.2 hb lz9⟩
theorem Two.end{W V:World}{x:Int×Int}(h:Two W V x):(bF V (W.heap.size+1) 0 [.I x.1,.I x.2]).heap[W.heap.size+1]?=some (.cells #[.I x.1,.I x.2] 65 (0,0))/\wBl W (bF V (W.heap.size+1) 0 [.I x.1,.I x.2]):=
 ⟨bA h.1 [.I x.1,.I x.2] rfl,bB h.2.2 (aY _ _ 0 V) lz9 (fun k e=>by omega)⟩
theorem bH4(c o:Bool):RuW (fun _=>True) (NP c o) cR (bV c) c o:=by
 intro t xs g W v bp bb n base _ hnp hsz hnb hlen hgx hgg hown hp hm;obtain⟨qv,cv,rfl⟩:=aR hown;have HO:=aC hown;have HLEN:=aC hlen;have HNB:=aC hnb;have HGX:=aC hgx;have HGG:=aC hgg;have HP:=aC hp;have HM:=aC hm;have HNP:=aC hnp;have hxl:xs.length<=1000000:=by rw [hlen];exact hsz
 have hc:∀ (i:Nat) (x:Int×Int),xs[i]?=some x->∃ gb,qv=some (aDr gb 0)/\gb<W.heap.size/\W.cell? ⟨gb,i*2,none⟩=some (.I x.1)/\W.cell? ⟨gb,i*2+1,none⟩=some (.I x.2):=fun i x hx=>by
  have hi:=(m7.1 hx).1;obtain⟨gb,cb,e⟩:=aL hown (by omega);injection e with e1 e2 e3;subst e1 e3;have p1:=kK (fun x:Int×Int=>[Value.I x.1,.I x.2]) 2 (fun _=>rfl) xs i x hx 0 (by decide);have p2:=kK (fun x:Int×Int=>[Value.I x.1,.I x.2]) 2 (fun _=>rfl) xs i x hx 1 (by decide);exact⟨gb,rfl,(aF hown rfl).2.1,aM hown p1,aM hown p2⟩
 have HC:=aC hc;clear hown hnb hgx hgg hp hm hlen hc hsz;unfold cX;go_enter Tryz.func27,Tryz.ntmps27;go_upto_region 3 with fail
 have S0:Hid ((((W.alloc (.cells #[.I t.f.k,.I t.f.n,.I t.f.mn,.I t.f.mx,.slice t.f.rq t.f.rs.length t.f.rc,.slice t.f.kq t.f.kl t.f.kc,.bool c,.bool o,.slice qv xs.length cv,.func (.func 50) #[] #[bx bp]] 110)).alloc (.cells #[.I 0,.I 0] 65)).alloc (.cells #[.I 0,.I 0] 65)).heap[W.heap.size]?=some (.cells #[.I t.f.k,.I t.f.n,.I t.f.mn,.I t.f.mx,.slice t.f.rq t.f.rs.length t.f.rc,.slice t.f.kq t.f.kl t.f.kc,.bool c,.bool o,.slice qv xs.length cv,.func (.func 50) #[] #[bx bp]] 110 (0,0))):=(by(repeat (first | exact aK _ (by first | rfl | simp only [f4]) | rw [Below.heap_alloc _ _ _ (by first | omega |(simp only [f4];omega))])));have T0:Hid (Two W (((W.alloc (.cells #[.I t.f.k,.I t.f.n,.I t.f.mn,.I t.f.mx,.slice t.f.rq t.f.rs.length t.f.rc,.slice t.f.kq t.f.kl t.f.kc,.bool c,.bool o,.slice qv xs.length cv,.func (.func 50) #[] #[bx bp]] 110)).alloc (.cells #[.I 0,.I 0] 65)).alloc (.cells #[.I 0,.I 0] 65)) (0,0)):=⟨(Below.heap_alloc _ _ _ (by simp only [f4];omega)).trans (aK _ (by simp only [f4])),aK _ (by simp only [f4]),((bz9).alloc (by simp only [f4];omega) _).alloc (by simp only [f4];omega) _⟩;have l0:W.heap.size<(((W.alloc (.cells #[.I t.f.k,.I t.f.n,.I t.f.mn,.I t.f.mx,.slice t.f.rq t.f.rs.length t.f.rc,.slice t.f.kq t.f.kl t.f.kc,.bool c,.bool o,.slice qv xs.length cv,.func (.func 50) #[] #[bx bp]] 110)).alloc (.cells #[.I 0,.I 0] 65)).alloc (.cells #[.I 0,.I 0] 65)).heap.size:=by simp only [f4];omega
 have l1:W.heap.size+1<(((W.alloc (.cells #[.I t.f.k,.I t.f.n,.I t.f.mn,.I t.f.mx,.slice t.f.rq t.f.rs.length t.f.rc,.slice t.f.kq t.f.kl t.f.kc,.bool c,.bool o,.slice qv xs.length cv,.func (.func 50) #[] #[bx bp]] 110)).alloc (.cells #[.I 0,.I 0] 65)).alloc (.cells #[.I 0,.I 0] 65)).heap.size:=by simp only [f4];omega
 have l2:W.heap.size+1+1<(((W.alloc (.cells #[.I t.f.k,.I t.f.n,.I t.f.mn,.I t.f.mx,.slice t.f.rq t.f.rs.length t.f.rc,.slice t.f.kq t.f.kl t.f.kc,.bool c,.bool o,.slice qv xs.length cv,.func (.func 50) #[] #[bx bp]] 110)).alloc (.cells #[.I 0,.I 0] 65)).alloc (.cells #[.I 0,.I 0] 65)).heap.size:=by simp only [f4];omega
 generalize hW0:(((W.alloc (.cells #[.I t.f.k,.I t.f.n,.I t.f.mn,.I t.f.mx,.slice t.f.rq t.f.rs.length t.f.rc,.slice t.f.kq t.f.kl t.f.kc,.bool c,.bool o,.slice qv xs.length cv,.func (.func 50) #[] #[bx bp]] 110)).alloc (.cells #[.I 0,.I 0] 65)).alloc (.cells #[.I 0,.I 0] 65))=W0 at S0 T0 l0 l1 l2 ⊢;clear hW0;have s0:W0.cell? (aDr W.heap.size 0)=some (.I t.f.k):=aA S0.o (i:=0) rfl;have s1:W0.cell? (aDr W.heap.size 1)=some (.I t.f.n):=aA S0.o (i:=1) rfl;have s2:W0.cell? (aDr W.heap.size 2)=some (.I t.f.mn):=aA S0.o (i:=2) rfl;have s3:W0.cell? (aDr W.heap.size 3)=some (.I t.f.mx):=aA S0.o (i:=3) rfl;have s4:W0.cell? (aDr W.heap.size 4)=some (.slice t.f.rq t.f.rs.length t.f.rc):=aA S0.o (i:=4) rfl;have s5:W0.cell? (aDr W.heap.size 5)=some (.slice t.f.kq t.f.kl t.f.kc):=aA S0.o (i:=5) rfl;have s6:W0.cell? (aDr W.heap.size 6)=some (.bool c):=aA S0.o (i:=6) rfl;have s7:W0.cell? (aDr W.heap.size 7)=some (.bool o):=aA S0.o (i:=7) rfl;have s8:W0.cell? (aDr W.heap.size 8)=some (.slice qv xs.length cv):=aA S0.o (i:=8) rfl;have s9:W0.cell? (aDr W.heap.size 9)=some (.func (.func 50) #[] #[bx bp]):=aA S0.o (i:=9) rfl;rcases jP hnp with hk | hk | hk | hk | hk | hk | hk | hk | hk
 ·have hv:Hid (bV c t.f t.ks xs g=(0,0)):=(by unfold bV;rw [hk];rfl);have e2:(t.f.k==2)=false:=by rw [hk];rfl
  have e5:(t.f.k==5)=false:=by rw [hk];rfl
  have e6:(t.f.k==6)=false:=by rw [hk];rfl
  have e7:(t.f.k==7)=false:=by rw [hk];rfl
  have e8:(t.f.k==8)=false:=by rw [hk];rfl
  have e9:(t.f.k==9)=false:=by rw [hk];rfl
  clear hk hnp;have z0:=aA T0.o.1 (i:=0) rfl;have z1:=aA T0.o.1 (i:=1) rfl;have y0:=aA T0.o.2.1 (i:=0) rfl;have y1:=aA T0.o.2.1 (i:=1) rfl;have fz:=fun z=>aG T0.o.1 z;have fy:=fun z=>aG T0.o.2.1 z;go_wp2;refine eQ (b:=W.heap.size+1) (x:=(0,0)) T0.o.end.1 rfl rfl ?_;exact⟨by rw [hv.o],T0.o.end.2⟩
 ·have hv:Hid (bV c t.f t.ks xs g=uF c t.f.rs):=(by unfold bV;rw [hk];rfl);have hs:=sW hnp hk;have HD:=aC (yO (w:=W0) (q:=t.f.rq) (k:=t.f.rc) (L:=t.f.rs) c o (HNB.o.r.kept T0.o.2.2) (fun r hr=>aX6 hs hr));have e2:(t.f.k==2)=true:=by rw [hk];rfl
  have e5:(t.f.k==5)=false:=by rw [hk];rfl
  have e6:(t.f.k==6)=false:=by rw [hk];rfl
  have e7:(t.f.k==7)=false:=by rw [hk];rfl
  have e8:(t.f.k==8)=false:=by rw [hk];rfl
  have e9:(t.f.k==9)=false:=by rw [hk];rfl
  clear hk hnp hs;obtain⟨⟨xa,xb⟩,hx⟩:∃ x,uF c t.f.rs=x:=⟨_,rfl⟩;rw [hx] at HD hv;simp only [enW] at HD;clear hx;go_wp2_with (go_at_call 52;refine HD.o.mono ?_;rintro e w5 ⟨rfl,h5⟩;have T5:Hid (Two W w5 (0,0)):=T0.o.kept h5;clear h5;have z0:=aA T5.o.1 (i:=0) rfl;have z1:=aA T5.o.1 (i:=1) rfl;have y0:=aA T5.o.2.1 (i:=0) rfl;have y1:=aA T5.o.2.1 (i:=1) rfl;have fz:=fun z=>aG T5.o.1 z;have fy:=fun z=>aG T5.o.2.1 z)
  have T6:=T5.o.put (xa,xb);refine eQ (b:=W.heap.size+1) (x:=(xa,xb)) T6.end.1 rfl rfl ?_;exact⟨by rw [hv.o],T6.end.2⟩
 ·have hv:Hid (bV c t.f t.ks xs g=(0,0)):=(by unfold bV;rw [hk];rfl);have e2:(t.f.k==2)=false:=by rw [hk];rfl
  have e5:(t.f.k==5)=false:=by rw [hk];rfl
  have e6:(t.f.k==6)=false:=by rw [hk];rfl
  have e7:(t.f.k==7)=false:=by rw [hk];rfl
  have e8:(t.f.k==8)=false:=by rw [hk];rfl
  have e9:(t.f.k==9)=false:=by rw [hk];rfl
  clear hk hnp;have z0:=aA T0.o.1 (i:=0) rfl;have z1:=aA T0.o.1 (i:=1) rfl;have y0:=aA T0.o.2.1 (i:=0) rfl;have y1:=aA T0.o.2.1 (i:=1) rfl;have fz:=fun z=>aG T0.o.1 z;have fy:=fun z=>aG T0.o.2.1 z;go_wp2;refine eQ (b:=W.heap.size+1) (x:=(0,0)) T0.o.end.1 rfl rfl ?_;exact⟨by rw [hv.o],T0.o.end.2⟩
 ·have hv:Hid (bV c t.f t.ks xs g=(0,0)):=(by unfold bV;rw [hk];rfl);have e2:(t.f.k==2)=false:=by rw [hk];rfl
  have e5:(t.f.k==5)=false:=by rw [hk];rfl
  have e6:(t.f.k==6)=false:=by rw [hk];rfl
  have e7:(t.f.k==7)=false:=by rw [hk];rfl
  have e8:(t.f.k==8)=false:=by rw [hk];rfl
  have e9:(t.f.k==9)=false:=by rw [hk];rfl
  clear hk hnp;have z0:=aA T0.o.1 (i:=0) rfl;have z1:=aA T0.o.1 (i:=1) rfl;have y0:=aA T0.o.2.1 (i:=0) rfl;have y1:=aA T0.o.2.1 (i:=1) rfl;have fz:=fun z=>aG T0.o.1 z;have fy:=fun z=>aG T0.o.2.1 z;go_wp2;refine eQ (b:=W.heap.size+1) (x:=(0,0)) T0.o.end.1 rfl rfl ?_;exact⟨by rw [hv.o],T0.o.end.2⟩
 ·have hv:Hid (bV c t.f t.ks xs g=xs.foldl pK (0,0)):=(by unfold bV;rw [hk];rfl);have e2:(t.f.k==2)=false:=by rw [hk];rfl
  have e5:(t.f.k==5)=true:=by rw [hk];rfl
  have e6:(t.f.k==6)=false:=by rw [hk];rfl
  have e7:(t.f.k==7)=false:=by rw [hk];rfl
  have e8:(t.f.k==8)=false:=by rw [hk];rfl
  have e9:(t.f.k==9)=false:=by rw [hk];rfl
  have TI:Hid (Two W W0 ((xs.take 0).foldl pK (0,0))):=T0.o;clear hk;clear hnp;go_upto_region 7 with fail
  go_loopw [25] (fun i wr=>∃ j:Nat,j<=xs.length/\i=.I (j:Int)/\Two W wr ((xs.take j).foldl pK (0,0))) (fun i _=>xs.length-(intOf i).toNat)
  case atStart=>exact⟨0,o9 _,rfl,TI.o⟩
  case round=>
   obtain⟨j,hj,rfl,ht⟩:=hrel;have hgy:=jU (fun _ _=>zR) (xs.take j) (0,0) jS (fun y hy=>HGX.o y (aAJ hy));obtain⟨⟨ya,yb⟩,hy⟩:∃ y,(xs.take j).foldl pK (0,0)=y:=⟨_,rfl⟩;rw [hy] at ht hgy;have TT:=aC ht;have HY:=aC hy;unfold cR at hgy;simp only at hgy;clear ht hy;by_cases hjl:j<xs.length
   ·obtain⟨⟨xa,xb⟩,hx⟩:∃ x,xs[j]?=some x:=⟨_,i9 hjl⟩;have hgd:=HGX.o _ (n7 hx);unfold cR at hgd;simp only at hgd;have FN:=aC (show (xs.take (j+1)).foldl pK (0,0)=(lst (ya+xa),uE yb xb) by rw [t7,hx,aAX,aCF,HY.o];rfl);have e1:(j:Int)<(xs.length:Int):=(by omega);obtain⟨gb,rfl,hg',c1,c2⟩:=HC.o j _ hx;have d1:=(TT.o.2.2.cell (p:=⟨gb,j*2,none⟩) hg').trans c1;have d2:=(TT.o.2.2.cell (p:=⟨gb,j*2+1,none⟩) hg').trans c2;simp only at d1 d2;have P1:Hid (∀ w,Calls Tryz.prog 54 #[.I yb,.I xb] w fun e w'=>e=.returned (.I (uE yb xb))/\w'=w):=fun w=>bI6 _ _ w hgy.2 hgd.2;have T1:Hid (Two W (wr.alloc (.cells #[.I xa,.I xb] 65)) (ya,yb)):=TT.o.kept (bz9);have y0:(wr.alloc (.cells #[.I xa,.I xb] 65)).cell? ⟨W.heap.size+1+1,0,none⟩=some (.I ya):=aA T1.o.2.1 (i:=0) rfl;have y1:(wr.alloc (.cells #[.I xa,.I xb] 65)).cell? ⟨W.heap.size+1+1,1,none⟩=some (.I yb):=aA T1.o.2.1 (i:=1) rfl;have k0:(wr.alloc (.cells #[.I xa,.I xb] 65)).cell? (aDr wr.heap.size 0)=some (.I xa):=aA (aE wr _) (i:=0) rfl;have k1:(wr.alloc (.cells #[.I xa,.I xb] 65)).cell? (aDr wr.heap.size 1)=some (.I xb):=aA (aE wr _) (i:=1) rfl;have l6:W.heap.size+1+1<(wr.alloc (.cells #[.I xa,.I xb] 65)).heap.size:=aB T1.o.2.1;have l7:wr.heap.size<(wr.alloc (.cells #[.I xa,.I xb] 65)).heap.size:=(by rw [f4];omega);clear c1 c2 hx;go_wp2;generalize hW1:wr.alloc (.cells #[.I xa,.I xb] 65)=W1 at T1 l6 l7 y0 y1 k0 k1 ⊢;clear hW1;refine aU (aAY _ _) (by kernel_rfl) (by kernel_rfl) (by kernel_rfl) ?_;dsimp only [List.dropLast,List.getLast]
    repeat (go_big_quiet_step (first | exact rfl |(go_at_call 53;exact eY (vG _ _)) |(go_at_call 54;exact eY (P1.o _))))
    refine wpQuiet_nil ?_;intro w3 hw;have T3:Hid (Two W w3 (ya,yb)):=T1.o.kept (aP hw);clear hw y0 y1 k0 k1 d1 d2;have z0:=aA T3.o.1 (i:=0) rfl;have z1:=aA T3.o.1 (i:=1) rfl;have y0:=aA T3.o.2.1 (i:=0) rfl;have y1:=aA T3.o.2.1 (i:=1) rfl;have fz:=fun z=>aG T3.o.1 z;have fy:=fun z=>aG T3.o.2.1 z;go_wp2;go_roundw
    case rel=>exact⟨j+1,by omega,by go_num,by rw [FN.o];exact T3.o.put (lst (ya+xa),uE yb xb)⟩
    case measure=>simp only [intOf];omega
   ·have e1:¬ (j:Int)<(xs.length:Int):=by omega
    rw [n8 (by omega)] at HY;rw [HY.o] at hv;have z0:=aA TT.o.1 (i:=0) rfl;have z1:=aA TT.o.1 (i:=1) rfl;have y0:=aA TT.o.2.1 (i:=0) rfl;have y1:=aA TT.o.2.1 (i:=1) rfl;have fz:=fun z=>aG TT.o.1 z;have fy:=fun z=>aG TT.o.2.1 z;go_wp2;refine eQ (b:=W.heap.size+1) (x:=(ya,yb)) TT.o.end.1 rfl rfl ?_;exact⟨by rw [hv.o],TT.o.end.2⟩
 ·have hv:Hid (bV c t.f t.ks xs g=xs.foldl kS (xs.headD (0,0))):=(by unfold bV;rw [hk];rfl);have e2:(t.f.k==2)=false:=by rw [hk];rfl
  have e5:(t.f.k==5)=false:=by rw [hk];rfl
  have e6:(t.f.k==6)=true:=by rw [hk];rfl
  have e7:(t.f.k==7)=false:=by rw [hk];rfl
  have e8:(t.f.k==8)=false:=by rw [hk];rfl
  have e9:(t.f.k==9)=false:=by rw [hk];rfl
  have hmany:=aK4 hnp (.inr hk);clear hk;obtain⟨x0,hx0⟩:∃ x,xs[0]?=some x:=⟨_,i9 (by rw [HLEN.o];omega)⟩;have hh:xs.headD (0,0)=x0:=by
   match xs,hx0 with
   | y :: ys,h=>simp at h;simp [h]
  rw [hh] at hv;have e10:(0:Int)<(xs.length:Int):=by have:=(m7.1 hx0).1;omega
  obtain⟨gb,rfl,hg,c1,c2⟩:=HC.o 0 x0 hx0;simp only [aBJ,m9] at c1 c2;have d1:=(T0.o.2.2.cell (p:=(aDr gb 0)) hg).trans c1;have d2:=(T0.o.2.2.cell (p:=(aDr gb 1)) hg).trans c2;have hg0:gb<W0.heap.size:=n9 hg T0.o.2.2.size;have ng1:gb≠W.heap.size+1:=by omega
  have ng2:gb≠W.heap.size+1+1:=by omega
  have GX:=aC (HGX.o x0 (n7 hx0));obtain⟨ua,ub⟩:=x0;simp only at d1 d2;have TI:Hid (Two W (bF W0 (W.heap.size+1+1) 0 [.I ua,.I ub]) ((xs.take 0).foldl kS (ua,ub))):=T0.o.put (ua,ub);have SI:Hid ((bF W0 (W.heap.size+1+1) 0 [.I ua,.I ub]).heap[W.heap.size]?=some (.cells #[.I t.f.k,.I t.f.n,.I t.f.mn,.I t.f.mx,.slice t.f.rq t.f.rs.length t.f.rc,.slice t.f.kq t.f.kl t.f.kc,.bool c,.bool o,.slice (some (aDr gb 0)) xs.length cv,.func (.func 50) #[] #[bx bp]] 110 (0,0))):=((aY _ _ 0 W0).block _ l0 (by omega)).trans S0.o;clear c1 c2 hg hx0 hh hmany hnp;have z0:=aA T0.o.1 (i:=0) rfl;have z1:=aA T0.o.1 (i:=1) rfl;have y0:=aA T0.o.2.1 (i:=0) rfl;have y1:=aA T0.o.2.1 (i:=1) rfl;have fz:=fun z=>aG T0.o.1 z;have fy:=fun z=>aG T0.o.2.1 z;go_upto_region 14 with fail
  clear z0 z1 y0 y1 fz fy d1 d2;change Code.wp _ _ _ _ (bF W0 (W.heap.size+1+1) 0 [.I ua,.I ub]);generalize bF W0 (W.heap.size+1+1) 0 [.I ua,.I ub]=WI at TI SI ⊢;go_loopw [51] (fun i wr=>∃ j:Nat,j<=xs.length/\i=.I (j:Int)/\Two W wr ((xs.take j).foldl kS (ua,ub))) (fun i _=>xs.length-(intOf i).toNat)
  case atStart=>exact⟨0,o9 _,rfl,TI.o⟩
  case round=>
   obtain⟨j,hj,rfl,ht⟩:=hrel;have hgy:=jU (fun _ _=>zS) (xs.take j) (ua,ub) GX.o (fun y hy=>HGX.o y (aAJ hy));obtain⟨⟨ya,yb⟩,hy⟩:∃ y,(xs.take j).foldl kS (ua,ub)=y:=⟨_,rfl⟩;rw [hy] at ht hgy;have TT:=aC ht;have HY:=aC hy;unfold cR at hgy;simp only at hgy;clear ht hy;by_cases hjl:j<xs.length
   ·obtain⟨⟨xa,xb⟩,hx⟩:∃ x,xs[j]?=some x:=⟨_,i9 hjl⟩;have hgd:=HGX.o _ (n7 hx);unfold cR at hgd;simp only at hgd;have FN:=aC (show (xs.take (j+1)).foldl kS (ua,ub)=(min ya xa,xB yb xb) by rw [t7,hx,aAX,aCF,HY.o];rfl);have e1:(j:Int)<(xs.length:Int):=(by omega);obtain⟨gb',egb,hg',c1,c2⟩:=HC.o j _ hx;injection egb with egb;injection egb with egb;subst egb;have d1:=(TT.o.2.2.cell (p:=⟨gb,j*2,none⟩) hg').trans c1;have d2:=(TT.o.2.2.cell (p:=⟨gb,j*2+1,none⟩) hg').trans c2;simp only at d1 d2;have hmn:∀ t' ty w,(Builtin.min_ t' ty #[.I ya,.I xa]).run Tryz.prog w=.ok (.I (min ya xa)) w:=fun t' ty w=>oN _ t' ty w _ _;have T1:Hid (Two W (wr.alloc (.cells #[.I xa,.I xb] 65)) (ya,yb)):=TT.o.kept (bz9);have y0:(wr.alloc (.cells #[.I xa,.I xb] 65)).cell? ⟨W.heap.size+1+1,0,none⟩=some (.I ya):=aA T1.o.2.1 (i:=0) rfl;have y1:(wr.alloc (.cells #[.I xa,.I xb] 65)).cell? ⟨W.heap.size+1+1,1,none⟩=some (.I yb):=aA T1.o.2.1 (i:=1) rfl;have k0:(wr.alloc (.cells #[.I xa,.I xb] 65)).cell? (aDr wr.heap.size 0)=some (.I xa):=aA (aE wr _) (i:=0) rfl;have k1:(wr.alloc (.cells #[.I xa,.I xb] 65)).cell? (aDr wr.heap.size 1)=some (.I xb):=aA (aE wr _) (i:=1) rfl;have l6:W.heap.size+1+1<(wr.alloc (.cells #[.I xa,.I xb] 65)).heap.size:=aB T1.o.2.1;have l7:wr.heap.size<(wr.alloc (.cells #[.I xa,.I xb] 65)).heap.size:=(by rw [f4];omega);clear c1 c2 hx;go_wp2;generalize hW1:wr.alloc (.cells #[.I xa,.I xb] 65)=W1 at T1 l6 l7 y0 y1 k0 k1 ⊢;clear hW1;refine aU (aAY _ _) (by kernel_rfl) (by kernel_rfl) (by kernel_rfl) ?_;dsimp only [List.dropLast,List.getLast]
    repeat (go_big_quiet_step (first | exact rfl |(go_at_call 55;exact eY (aS2 _ _ _))))
    refine wpQuiet_nil ?_;intro w3 hw;have T3:Hid (Two W w3 (ya,yb)):=T1.o.kept (aP hw);clear hw y0 y1 k0 k1 d1 d2;have z0:=aA T3.o.1 (i:=0) rfl;have z1:=aA T3.o.1 (i:=1) rfl;have y0:=aA T3.o.2.1 (i:=0) rfl;have y1:=aA T3.o.2.1 (i:=1) rfl;have fz:=fun z=>aG T3.o.1 z;have fy:=fun z=>aG T3.o.2.1 z;go_wp2;go_roundw
    case rel=>exact⟨j+1,by omega,by go_num,by rw [FN.o];exact T3.o.put (min ya xa,xB yb xb)⟩
    case measure=>simp only [intOf];omega
   ·have e1:¬ (j:Int)<(xs.length:Int):=by omega
    rw [n8 (by omega)] at HY;rw [HY.o] at hv;have z0:=aA TT.o.1 (i:=0) rfl;have z1:=aA TT.o.1 (i:=1) rfl;have y0:=aA TT.o.2.1 (i:=0) rfl;have y1:=aA TT.o.2.1 (i:=1) rfl;have fz:=fun z=>aG TT.o.1 z;have fy:=fun z=>aG TT.o.2.1 z;go_wp2;refine eQ (b:=W.heap.size+1) (x:=(ya,yb)) TT.o.end.1 rfl rfl ?_;exact⟨by rw [hv.o],TT.o.end.2⟩
 ·obtain⟨x,rfl⟩:∃ x,xs=[x]:=by
   have:=gR hnp (.inl hk)
   match xs,HLEN.o with
   | [x],_=>exact⟨x,rfl⟩
   | [],e=>rw [this] at e;simp at e
   | _ :: _ :: _,e=>rw [this] at e;simp at e
  obtain⟨gb,rfl,hg,c1,c2⟩:=HC.o 0 x rfl;simp only [aBJ,m9] at c1 c2;have d1:=(T0.o.2.2.cell (p:=(aDr gb 0)) hg).trans c1;have d2:=(T0.o.2.2.cell (p:=(aDr gb 1)) hg).trans c2;have hg0:gb<W0.heap.size:=n9 hg T0.o.2.2.size;have ng1:gb≠W.heap.size+1:=by omega
  have ng2:gb≠W.heap.size+1+1:=by omega
  simp only [o5,List.length_nil,m9] at s8 ⊢;obtain⟨xa,xb⟩:=x;simp only at d1 d2;have hv:Hid (bV c t.f t.ks [(xa,xb)] g=(xa,xb)):=(by unfold bV;rw [hk];rfl);have e2:(t.f.k==2)=false:=by rw [hk];rfl
  have e5:(t.f.k==5)=false:=by rw [hk];rfl
  have e6:(t.f.k==6)=false:=by rw [hk];rfl
  have e7:(t.f.k==7)=true:=by rw [hk];rfl
  have e8:(t.f.k==8)=false:=by rw [hk];rfl
  have e9:(t.f.k==9)=false:=by rw [hk];rfl
  clear hk hnp;have z0:=aA T0.o.1 (i:=0) rfl;have z1:=aA T0.o.1 (i:=1) rfl;have y0:=aA T0.o.2.1 (i:=0) rfl;have y1:=aA T0.o.2.1 (i:=1) rfl;have fz:=fun z=>aG T0.o.1 z;have fy:=fun z=>aG T0.o.2.1 z;go_wp2;have T6:=T0.o.put (xa,xb);refine eQ (b:=W.heap.size+1) (x:=(xa,xb)) T6.end.1 rfl rfl ?_;exact⟨by rw [hv.o],T6.end.2⟩
 ·have hv:Hid (bV c t.f t.ks xs g=g t.f.n):=(by unfold bV;rw [hk];rfl);have hb:=aK5 hnp hk;have hwf:(Lit.int .i64 t.f.n).wf=true:=by simp [Lit.wf,IntKind.min,IntKind.max,IntKind.signed,IntKind.bits];omega
  have HD:=aC (bX6 (g:=g) ((T0.o.2.2.block _ (aB HP.o)).trans HP.o) (HM.o.kept T0.o.2.2) t.f.n hwf);have e2:(t.f.k==2)=false:=by rw [hk];rfl
  have e5:(t.f.k==5)=false:=by rw [hk];rfl
  have e6:(t.f.k==6)=false:=by rw [hk];rfl
  have e7:(t.f.k==7)=false:=by rw [hk];rfl
  have e8:(t.f.k==8)=true:=by rw [hk];rfl
  have e9:(t.f.k==9)=false:=by rw [hk];rfl
  clear hk hnp hwf hb;obtain⟨⟨xa,xb⟩,hx⟩:∃ x,g t.f.n=x:=⟨_,rfl⟩;rw [hx] at HD hv;simp only [enW] at HD;clear hx;go_wp2_with (go_at_call 50;refine HD.o.mono ?_;rintro e w5 ⟨rfl,h5⟩;have T5:Hid (Two W w5 (0,0)):=T0.o.kept h5;clear h5;have z0:=aA T5.o.1 (i:=0) rfl;have z1:=aA T5.o.1 (i:=1) rfl;have y0:=aA T5.o.2.1 (i:=0) rfl;have y1:=aA T5.o.2.1 (i:=1) rfl;have fz:=fun z=>aG T5.o.1 z;have fy:=fun z=>aG T5.o.2.1 z)
  have T6:=T5.o.put (xa,xb);refine eQ (b:=W.heap.size+1) (x:=(xa,xb)) T6.end.1 rfl rfl ?_;exact⟨by rw [hv.o],T6.end.2⟩
 ·obtain⟨x,rfl⟩:∃ x,xs=[x]:=by
   have:=gR hnp (.inr hk)
   match xs,HLEN.o with
   | [x],_=>exact⟨x,rfl⟩
   | [],e=>rw [this] at e;simp at e
   | _ :: _ :: _,e=>rw [this] at e;simp at e
  obtain⟨gb,rfl,hg,c1,c2⟩:=HC.o 0 x rfl;simp only [aBJ,m9] at c1 c2;have d1:=(T0.o.2.2.cell (p:=(aDr gb 0)) hg).trans c1;have d2:=(T0.o.2.2.cell (p:=(aDr gb 1)) hg).trans c2;have hg0:gb<W0.heap.size:=n9 hg T0.o.2.2.size;have ng1:gb≠W.heap.size+1:=by omega
  have ng2:gb≠W.heap.size+1+1:=by omega
  simp only [o5,List.length_nil,m9] at s8 ⊢;obtain⟨xa,xb⟩:=x;simp only at d1 d2;have hv:Hid (bV c t.f t.ks [(xa,xb)] g=(lst (t.f.mn*xa),gW t.f.mx xb)):=(by unfold bV;rw [hk];rfl);have hgd:=HGX.o (xa,xb) (r9 ..);have hbd:=nH hnp hk;have hm1:0<=t.f.mn/\t.f.mn<=255/\-1<=t.f.mx/\t.f.mx<=255:=by simp [fI] at hbd;omega
  unfold cR at hgd;have hmul:0<=t.f.mn*xa/\t.f.mn*xa<=255*1000000:=⟨aCL hm1.1 hgd.1.1,Int.mul_le_mul hm1.2.1 hgd.1.2 hgd.1.1 (by omega)⟩;have P1:Hid (∀ w,Calls Tryz.prog 56 #[.I t.f.mx,.I xb] w fun e w'=>e=.returned (.I (gW t.f.mx xb))/\w'=w):=fun w=>yW _ _ w ⟨hm1.2.2.1,hm1.2.2.2⟩ ⟨hgd.2.1,hgd.2.2⟩;have e2:(t.f.k==2)=false:=by rw [hk];rfl
  have e5:(t.f.k==5)=false:=by rw [hk];rfl
  have e6:(t.f.k==6)=false:=by rw [hk];rfl
  have e7:(t.f.k==7)=false:=by rw [hk];rfl
  have e8:(t.f.k==8)=false:=by rw [hk];rfl
  have e9:(t.f.k==9)=true:=by rw [hk];rfl
  have T1:Hid (Two W (W0.alloc (.cells #[.I xa,.I xb] 65)) (0,0)):=T0.o.kept (bz9);have l3:W.heap.size<(W0.alloc (.cells #[.I xa,.I xb] 65)).heap.size:=by rw [f4];omega
  have l4:W.heap.size+1+1<(W0.alloc (.cells #[.I xa,.I xb] 65)).heap.size:=by rw [f4];omega
  have l5:W0.heap.size<(W0.alloc (.cells #[.I xa,.I xb] 65)).heap.size:=by rw [f4];omega
  have q2:(W0.alloc (.cells #[.I xa,.I xb] 65)).cell? (aDr W.heap.size 2)=some (.I t.f.mn):=aA ((Below.heap_alloc _ _ _ l0).trans S0.o) (i:=2) rfl;have q3:(W0.alloc (.cells #[.I xa,.I xb] 65)).cell? (aDr W.heap.size 3)=some (.I t.f.mx):=aA ((Below.heap_alloc _ _ _ l0).trans S0.o) (i:=3) rfl;have k0:(W0.alloc (.cells #[.I xa,.I xb] 65)).cell? (aDr W0.heap.size 0)=some (.I xa):=aA (aE W0 _) (i:=0) rfl;have k1:(W0.alloc (.cells #[.I xa,.I xb] 65)).cell? (aDr W0.heap.size 1)=some (.I xb):=aA (aE W0 _) (i:=1) rfl;clear hk hnp hbd;go_wp2;generalize hW1:W0.alloc (.cells #[.I xa,.I xb] 65)=W1 at T1 l3 l4 l5 q2 q3 k0 k1 ⊢;clear hW1;refine aU (aAY _ _) (by kernel_rfl) (by kernel_rfl) (by kernel_rfl) ?_;dsimp only [List.dropLast,List.getLast]
  repeat (go_big_quiet_step (first | exact rfl |(go_at_call 53;exact eY (vG _ _)) |(go_at_call 56;exact eY (P1.o _))))
  refine wpQuiet_nil ?_;intro w3 hw;have T3:Hid (Two W w3 (0,0)):=T1.o.kept (aP hw);clear hw q2 q3 k0 k1 s0 s1 s2 s3 s4 s5 s6 s7 s8 s9;have z0:=aA T3.o.1 (i:=0) rfl;have z1:=aA T3.o.1 (i:=1) rfl;have y0:=aA T3.o.2.1 (i:=0) rfl;have y1:=aA T3.o.2.1 (i:=1) rfl;have fz:=fun z=>aG T3.o.1 z;have fy:=fun z=>aG T3.o.2.1 z;go_wp2;have T6:=T3.o.put (lst (t.f.mn*xa),gW t.f.mx xb);refine eQ (b:=W.heap.size+1) (x:=(lst (t.f.mn*xa),gW t.f.mx xb)) T6.end.1 rfl rfl ?_;exact⟨by rw [hv.o],T6.end.2⟩
end
section
attribute [local go_sem] Oper.semAt_some
abbrev TWA:=TW 57 58 29 115 116 71 114
def enA(x:Bool×Bool):Value:=.agg #[.bool x.1,.bool x.2]
def ceA(xs:List (Bool×Bool)):List Value:=xs.flatMap fun x=>[.bool x.1,.bool x.2]
theorem xP(xs:List (Bool×Bool))(x:Bool×Bool):ceA (xs++[x])=ceA xs++[.bool x.1,.bool x.2]:=by simp [ceA]
theorem aD1:Tryz.prog.underlying 117=some (.slice 69):=by kernel_rfl
theorem bQ8:Tryz.prog.underlying 114=some (.map 3 69):=by kernel_rfl
theorem bS5:(Tryz.prog.info? 69).map (fun i=>(i.zero,i.size,i.bytes))=some (some (.agg #[.bool false,.bool false]),2,2):=by kernel_rfl
def RuA(Glo:World->Prop)(NP:Tr->Prop)(Good:Bool×Bool->Prop)(ρ:dJ (Bool×Bool))(c o:Bool):Prop:=
 ∀ (t:Tr) (xs:List (Bool×Bool)) (g:Int->Bool×Bool) (W:World) (v:Value) (bp bb n base:Nat),Glo W->NP t->t.ks.length<=1000000->NB W t->xs.length=t.ks.length->(∀ x∈xs,Good x)->(∀ i,Good (g i))->W.ownsRow base 69 2 v xs.length (ceA xs) ->
  W.heap[bp]?=some (.cells #[.map (some bb)] 114 (0,0))->MapV W (.agg #[.bool false,.bool false]) bb n (fun i=>enA (g i)) ->
  Calls Tryz.prog 29 #[.agg (cX t.f c o v (.func (.func 57) #[] #[bx bp]))] W fun e w'=>e=.returned (enA (ρ t.f t.ks xs g))/\wBl W w'
def OfA(ρ:dJ (Bool×Bool))(w:World)(bb n:Nat)(t:Tr)(g:Int->Bool×Bool)(e:Ending)(w':World):Prop:=
 e=.returned (enA (ev ρ g t).1)/\MapV w' (.agg #[.bool false,.bool false]) bb (n+t.sz) (fun i=>enA ((ev ρ g t).2 i))/\Fr (fun k=>k=bb) w w'
theorem aJ7{R:Ending->World->Prop}{a:Act}{W:World}{b:Nat}{x:Bool×Bool}(h:W.heap[b]?=some (.cells #[.bool x.1,.bool x.2] 69 (0,0)))(ha:a.tmps[7]?.getD undef=.pointer (some (aDr b 0)))(hd:a.defers=[])(hR:R (.returned (enA x)) W):bodyPost Tryz.prog Tryz.f58 R .ret a W:=by
 refine bodyPost_ret (v:=enA x) ?_ hd hR;have z0:=aA h (i:=0) rfl;have z1:=aA h (i:=1) rfl;simp [results,Tryz.results58,go_sem,ha,enA,z0,z1]
structure LpA(ρ:dJ (Bool×Bool))(W0 wr:World)(b s n:Nat)(t:Tr)(c o:Bool)(g:Int->Bool×Bool)(j:Nat)(v gv:Value):Prop where
 sc:wr.heap[s]?=some (.cells (cX t.f c o v gv) 119 (0,0))
 own:wr.ownsRow W0.heap.size 69 2 v j (ceA (evs ρ g (t.ks.take j)).1)
 mp:MapV wr (.agg #[.bool false,.bool false]) b (n+szs (t.ks.take j)) (fun i=>enA ((evs ρ g (t.ks.take j)).2 i))
 fr:Fr (Wr2 b s) W0 wr
theorem bZ4{Glo:World->Prop}(hglo:∀ {A B:World},CK A B->Glo A->Glo B){NP:Tr->Prop}{Good:Bool×Bool->Prop}{ρ:dJ (Bool×Bool)}{c o:Bool}(hr:RuA Glo NP Good ρ c o)(hwf:∀ t,NP t->t.f.k=7->(Lit.int .i64 t.f.n).wf=true)(hg:∀ t xs g,NP t->xs.length=t.ks.length->(∀ x∈xs,Good x)->(∀ i,Good (g i))->Good (ρ t.f t.ks xs g))(bm bg bo br bp bb:Nat) :
  ∀ (m:Nat) (t:Tr) (w:World) (n:Nat) (g:Int->Bool×Bool),t.sz<=m->n+t.sz<=1000000->Glo w->TB w t->bK NP t->(∀ i,Good (g i))->TWA w bm bg bo br bp bb c o->MapV w (.agg #[.bool false,.bool false]) bb n (fun i=>enA (g i)) ->
   Calls Tryz.prog 58 #[.agg (nDf t.f),bx bm,bx bg,bx bo,bx br,bx bp] w (OfA ρ w bb n t g):=by
 intro m
 induction m with
 | zero=>intro t w n g hm;exact absurd (dQ t) (by omega)
 | succ m ih=>
  intro t w n g hm hn hgw hta hnp hgd htw hmp;have HGW:=aC hgw;clear hgw;obtain⟨t0,ti,hz0,hz1,hz2⟩:=aV bS5;have TI:Hid (Tryz.prog.info? 69=some t0/\t0.zero=some (.agg #[.bool false,.bool false])/\t0.size=2/\t0.bytes=2):=⟨ti,hz0,hz1,hz2⟩;clear ti hz0 hz1 hz2;have HTA:=aC hta;have HTW:=aC htw;obtain⟨q,cap,hkv,hk1,hk2,hk3⟩:=hta.node.k.slice;injection hkv with hkq hkl hkc;subst hkq;have HKL:=aC hkl;have HK3:=aC hk3;have hkm:t.ks.length<=9223372036854775807:=hk1;have hkz:=aC (show szs t.ks+1=t.sz from (fE t).symm);clear hkl hkc hk3 hk1;have m0:w.cell? (aDr bm 0)=some (.bool c):=aA htw.m (i:=0) rfl;have m1:w.cell? (aDr bm 1)=some (.bool o):=aA htw.m (i:=1) rfl;obtain⟨gv,hgv⟩:∃ gv,Value.func (.func 57) #[] #[bx bp]=gv:=⟨_,rfl⟩;have g0:w.cell? (aDr bg 0)=some (.func (.func 57) #[] #[bx bp]):=aA htw.g (i:=0) rfl;have l1:=aB htw.m;have l2:=aB htw.g;have IH:=aC ih;have HR:=aC hr;have HWF:=aC hwf;have HG:=aC hg;have HNP:=aC hnp;have HGD:=aC hgd;have HMP:=aC hmp;have HM:=aC hm;have HN:=aC hn;have HGV:=aC hgv;clear ih hr hwf hg hnp hgd hmp hm hn hta htw hgv;go_enter Tryz.func58,Tryz.ntmps58;go_upto_region 5 with fail
  have B0:Hid (wBl w (((w.alloc (.cells (nDf t.f) 25)).alloc (.cells #[.bool false,.bool false] 69)).alloc (.cells #[.I t.f.k,.I t.f.n,.I t.f.mn,.I t.f.mx,.slice t.f.rq t.f.rs.length t.f.rc,.slice t.f.kq t.f.kl t.f.kc,.bool c,.bool o,.slice none 0 0,.func (.func 57) #[] #[bx bp]] 119))):=((bz9).alloc (by simp only [f4];omega) _).alloc (by simp only [f4];omega) _;have N0:Hid (BoxN (((w.alloc (.cells (nDf t.f) 25)).alloc (.cells #[.bool false,.bool false] 69)).alloc (.cells #[.I t.f.k,.I t.f.n,.I t.f.mn,.I t.f.mx,.slice t.f.rq t.f.rs.length t.f.rc,.slice t.f.kq t.f.kl t.f.kc,.bool c,.bool o,.slice none 0 0,.func (.func 57) #[] #[bx bp]] 119)) w.heap.size t.f):=(Below.heap_alloc _ _ _ (by simp only [f4];omega)).trans ((Below.heap_alloc _ _ _ (by simp only [f4];omega)).trans (aE w _));have R0:Hid ((((w.alloc (.cells (nDf t.f) 25)).alloc (.cells #[.bool false,.bool false] 69)).alloc (.cells #[.I t.f.k,.I t.f.n,.I t.f.mn,.I t.f.mx,.slice t.f.rq t.f.rs.length t.f.rc,.slice t.f.kq t.f.kl t.f.kc,.bool c,.bool o,.slice none 0 0,.func (.func 57) #[] #[bx bp]] 119)).heap[w.heap.size+1]?=some (.cells #[.bool false,.bool false] 69 (0,0))):=(by have:=aE (w.alloc (.cells (nDf t.f) 25)) (.cells #[.bool false,.bool false] 69);rw [f4] at this;exact(Below.heap_alloc _ _ _ (by simp)).trans this);have S0:Hid ((((w.alloc (.cells (nDf t.f) 25)).alloc (.cells #[.bool false,.bool false] 69)).alloc (.cells #[.I t.f.k,.I t.f.n,.I t.f.mn,.I t.f.mx,.slice t.f.rq t.f.rs.length t.f.rc,.slice t.f.kq t.f.kl t.f.kc,.bool c,.bool o,.slice none 0 0,.func (.func 57) #[] #[bx bp]] 119)).heap[w.heap.size+1+1]?=some (.cells (cX t.f c o (.slice none 0 0) (.func (.func 57) #[] #[bx bp])) 119 (0,0))):=(by have:=aE ((w.alloc (.cells (nDf t.f) 25)).alloc (.cells #[.bool false,.bool false] 69)) (.cells #[.I t.f.k,.I t.f.n,.I t.f.mn,.I t.f.mx,.slice t.f.rq t.f.rs.length t.f.rc,.slice t.f.kq t.f.kl t.f.kc,.bool c,.bool o,.slice none 0 0,.func (.func 57) #[] #[bx bp]] 119);simp only [f4] at this;exact this);generalize hW0:(((w.alloc (.cells (nDf t.f) 25)).alloc (.cells #[.bool false,.bool false] 69)).alloc (.cells #[.I t.f.k,.I t.f.n,.I t.f.mn,.I t.f.mx,.slice t.f.rq t.f.rs.length t.f.rc,.slice t.f.kq t.f.kl t.f.kc,.bool c,.bool o,.slice none 0 0,.func (.func 57) #[] #[bx bp]] 119))=W0 at B0 N0 R0 S0 ⊢;clear hW0;obtain⟨bs,hbs⟩:∃ bs,w.heap.size+1+1=bs:=⟨_,rfl⟩;have HBS:Hid (w.heap.size<=bs/\bs<W0.heap.size/\bs=w.heap.size+1+1):=⟨by omega,by rw [<- hbs];exact aB S0.o,hbs.symm⟩;rw [hbs] at S0 ⊢;clear hbs;have MB:Hid (∃ es clock,W0.heap[bb]?=some (.map es clock)):=aC (by obtain⟨es,cl,hb⟩:=HMP.o.block;exact⟨es,cl,(B0.o.block _ (aB hb)).trans hb⟩);go_loopw [19] (fun i wr=>∃ (j:Nat) (v:Value),j<=t.ks.length/\i=.I (j:Int)/\LpA ρ W0 wr bb bs n t c o g j v (.func (.func 57) #[] #[bx bp])) (fun i _=>t.ks.length-(intOf i).toNat)
  case atStart=>exact⟨0,_,o9 _,rfl,S0.o,(by rw [v9,cQ];exact⟨rfl,.inl ⟨rfl,rfl⟩⟩),(by rw [v9,cQ,eP];exact HMP.o.kept B0.o),Fr.refl _ _⟩
  case round=>
   clear S0;obtain⟨j,v,hj,rfl,hlp⟩:=hrel;obtain⟨qv,cv,rfl⟩:=aR hlp.own;have LP:=aC hlp;have CW:Hid (CK w wr):=fD MB.o HBS.o.1 B0.o hlp.fr;clear hlp;by_cases hjl:j<t.ks.length
   ·have e0:(j:Int)<(t.f.kl:Int):=by rw [HKL.o];omega
    obtain⟨u,hu⟩:∃ u,t.ks[j]?=some u:=⟨_,i9 hjl⟩;obtain⟨gq,off,hq,hgl,hsix⟩:=HK3.o j u hu;rw [hq];obtain⟨c0,c1,c2,c3,c4,c5⟩:=hsix.ck CW.o hgl;have HU:=aC hu;have hin:u∈t.ks:=n7 hu;clear hsix hu;have SK:Hid (Fr (Wr2 bb bs) W0 (wr.alloc (.cells (nDf u.f) 25)).drew/\BoxN (wr.alloc (.cells (nDf u.f) 25)).drew wr.heap.size u.f):=⟨(LP.o.fr.alloc _).drew,aE wr _⟩;have NE:Hid (¬ wr.heap.size=bb/\¬ bb=bs):=⟨fun e=>by have:=LP.o.mp.lt;omega,fun e=>by
     obtain⟨es,cl,hb⟩:=LP.o.mp.block;rw [e,LP.o.sc] at hb;cases hb⟩
    have NE3:Hid (wr.heap.size≠bs):=fun e=>by have:=aB LP.o.sc;omega
    have CB:Hid ((wr.alloc (.cells (nDf u.f) 25)).drew.heap[bs]?=some (.cells (cX t.f c o (.slice qv j cv) (.func (.func 57) #[] #[bx bp])) 119 (0,0))):=(Below.heap_alloc wr _ _ (aB LP.o.sc)).trans LP.o.sc;have k8:(wr.alloc (.cells (nDf u.f) 25)).drew.cell? (aDr bs 8)=some (.slice qv j cv):=aA CB.o (i:=8) rfl;have QC:Hid (∀ w',(Fr (Wr2 bb bs) W0 w'/\BoxN w' wr.heap.size u.f)->w'.cell? (aDr bo 0)=some (.func (.func 58) #[] #[bx bm,bx bg,bx bo,bx br,bx bp])/\w'.cell? (aDr wr.heap.size 0)=some (.I u.f.k)/\w'.cell? (aDr wr.heap.size 1)=some (.I u.f.n)/\w'.cell? (aDr wr.heap.size 2)=some (.I u.f.mn)/\w'.cell? (aDr wr.heap.size 3)=some (.I u.f.mx)/\w'.cell? (aDr wr.heap.size 4)=some (.slice u.f.rq u.f.rs.length u.f.rc)/\w'.cell? (aDr wr.heap.size 5)=some (.slice u.f.kq u.f.kl u.f.kc)):=fun w' hS=>by
     have six:=hS.2.six;simp only [Six,m9] at six;exact⟨aA (HTW.o.ck (fD MB.o HBS.o.1 B0.o hS.1)).o (i:=0) rfl,six⟩
    have MK:Hid (MapV (wr.alloc (.cells (nDf u.f) 25)).drew (.agg #[.bool false,.bool false]) bb (n+szs (t.ks.take j)) (fun i=>enA ((evs ρ g (t.ks.take j)).2 i))):=LP.o.mp.kept ((bz9).drew);have OK:Hid ((wr.alloc (.cells (nDf u.f) 25)).drew.ownsRow W0.heap.size 69 2 (.slice qv j cv) j (ceA (evs ρ g (t.ks.take j)).1)):=aBY (o8 LP.o.own _);have CK2:Hid (CK w (wr.alloc (.cells (nDf u.f) 25)).drew):=fD MB.o HBS.o.1 B0.o SK.o.1;have LJ:=aC (show j<=1000000 by have:=cO t.ks;have:=hkz.o;have:=HN.o;omega);have IH0:=IH.o u (wr.alloc (.cells (nDf u.f) 25)).drew (n+szs (t.ks.take j)) (evs ρ g (t.ks.take j)).2 (by have:=cK hin;have:=HM.o;omega)
     (by have:=lB t.ks (j+1);rw [bL HU.o] at this;have:=hkz.o;have:=HN.o;omega) (hglo CK2.o HGW.o) ((HTA.o.ck CK2.o).kid hin) (bC HNP.o hin)
     (eM HG.o (t.ks.take j) g (fun u hu=>bC HNP.o (aAJ hu)) HGD.o).2 (HTW.o.ck CK2.o) MK.o
    obtain⟨x5,hx5⟩:∃ x,(ev ρ (evs ρ g (t.ks.take j)).2 u).1=x:=⟨_,rfl⟩;have IHU:Hid (Calls Tryz.prog 58 #[.agg (nDf u.f),bx bm,bx bg,bx bo,bx br,bx bp] (wr.alloc (.cells (nDf u.f) 25)).drew (fun e w'=>e=.returned (.agg #[.bool x5.1,.bool x5.2])/\MapV w' (.agg #[.bool false,.bool false]) bb (n+szs (t.ks.take j)+u.sz) (fun i=>enA ((ev ρ (evs ρ g (t.ks.take j)).2 u).2 i))/\Fr (fun k=>k=bb) (wr.alloc (.cells (nDf u.f) 25)).drew w')):=aC (by subst hx5;exact IH0);have HX5:=aC hx5;clear hin IH0 hx5;go_wp2;refine wp_region_held_drew (S:=fun w'=>Fr (Wr2 bb bs) W0 w'/\BoxN w' wr.heap.size u.f) (by kernel_rfl) SK.o (fun hHeld=>?_);refine aCO (v:=?_) 0 ?_ ?_;rotate_left
    ·intro wz hSw;obtain⟨q0,q1,q2,q3,q4,q5,q6⟩:=QC.o wz hSw;clear hSw;go_simp;try with_reducible rfl
    dsimp only [Act.put,g9,g4,g8];simp only [f8,i8,i7];refine aCO (v:=?_) 2 ?_ ?_;rotate_left
    ·intro wz hSw;obtain⟨q0,q1,q2,q3,q4,q5,q6⟩:=QC.o wz hSw;clear hSw;go_simp;try with_reducible rfl
    dsimp only [Act.put,g9,g4,g8];simp only [f8,i8,i7];refine aCO (v:=?_) 3 ?_ ?_;rotate_left
    ·intro wz hSw;obtain⟨q0,q1,q2,q3,q4,q5,q6⟩:=QC.o wz hSw;clear hSw;go_simp;try with_reducible rfl
    dsimp only [Act.put,g9,g4,g8];simp only [f8,i8,i7];refine wpAnyH_ready (rs:=[1,4]) (by kernel_rfl) (by simp) ?_;refine AllReadyH.cons rfl (fun K hK=>?_) (AllReadyH.cons rfl (fun K hK=>?_) AllReadyH.nil)
    ·go_simp;refine hK.out _ _ SK.o (fun hHeld1=>?_);clear hK K;refine wpAnyH_ready (rs:=[4]) (by kernel_rfl) (by simp) ?_;refine AllReadyH.cons rfl (fun K hK=>?_) AllReadyH.nil;go_simp
     go_at_call 58
     refine IHU.o.mono ?_;rintro e w5 ⟨rfl,hm5,hf5⟩;have M5:=aC hm5;have F5:=aC hf5;clear hm5 hf5;have S5:Hid (Fr (Wr2 bb bs) W0 w5/\BoxN w5 wr.heap.size u.f):=⟨SK.o.1.trans (F5.o.mono (fun k e=>.inl e)),(F5.o.block _ (aB SK.o.2) (fun e=>NE.o.1 e)).trans SK.o.2⟩;refine hK.out _ _ S5.o (fun hHeld2=>?_);clear hK K;refine wpAnyH_ready (rs:=[5]) (by kernel_rfl) (by simp) ?_;refine AllReadyH.cons rfl (fun K hK=>?_) AllReadyH.nil;go_simp;have S6:Hid (Fr (Wr2 bb bs) W0 (w5.alloc (.cells #[.bool x5.1,.bool x5.2] 69))/\BoxN (w5.alloc (.cells #[.bool x5.1,.bool x5.2] 69)) wr.heap.size u.f):=⟨S5.o.1.alloc _,(Below.heap_alloc _ _ _ (aB S5.o.2)).trans S5.o.2⟩;refine hK.out _ _ S6.o (fun hHeld3=>?_);clear hK K;refine wpAnyH_ready (rs:=[6]) (by kernel_rfl) (by simp) ?_;refine AllReadyH.cons rfl (fun K hK=>?_) AllReadyH.nil;have O6:Hid ((w5.alloc (.cells #[.bool x5.1,.bool x5.2] 69)).ownsRow W0.heap.size 69 2 (.slice qv j cv) j (ceA (evs ρ g (t.ks.take j)).1)):=o8 (aH OK.o F5.o (fun k e z=>bJ OK.o MK.o.block (z ▸ e))) _;refine aZ rfl _ _ 117 rfl W0.heap.size 69 t0 (.agg #[.bool false,.bool false]) 2 2 aD1 TI.o.1 TI.o.2.1 TI.o.2.2.1 TI.o.2.2.2 rfl (by decide) (.slice qv j cv) j (ceA (evs ρ g (t.ks.take j)).1) (by simp [Act.eval]) O6.o (aDr w5.heap.size 0) 1 1 [.bool x5.1,.bool x5.2] (by simp [Act.eval]) rfl (bI w5 [.bool x5.1,.bool x5.2] _) (by simp [Value.oneCell']) (by have:=LJ.o;unfold maxLen;omega) (by have:=LJ.o;omega) (m8 S5.o.1.size (by simp only [f4];omega)) ?_;intro v' w6 hown' hgrow hblk;obtain⟨g6,cap6,rfl⟩:=aL hown' (aAL _);have O7:=aC hown';have G6:=aC hgrow;clear hown' hgrow hblk;have S7:Hid (Fr (Wr2 bb bs) W0 w6/\BoxN w6 wr.heap.size u.f):=⟨S6.o.1.grownNew G6.o (fun k e=>(aF O6.o e).1),(G6.o.block _ (aB S6.o.2) (fun e=>by
      have:=(aF LP.o.own e.symm).2.1;omega)).trans S6.o.2⟩
     have C7:Hid (w6.heap[bs]?=some (.cells (cX t.f c o (.slice qv j cv) (.func (.func 57) #[] #[bx bp])) 119 (0,0))):=(by
      have e5:=(F5.o.block _ (aB CB.o) (fun e=>NE.o.2 e.symm)).trans CB.o;have e6:=(Below.heap_alloc w5 (.cells #[.bool x5.1,.bool x5.2] 69) _ (aB e5)).trans e5;exact(G6.o.block _ (aB e6) (fun e=>aO O6.o e6 (by decide) e.symm)).trans e6)
     have M7:Hid (MapV w6 (.agg #[.bool false,.bool false]) bb (n+szs (t.ks.take j)+u.sz) (fun i=>enA ((ev ρ (evs ρ g (t.ks.take j)).2 u).2 i))):=(by
      have m6:=M5.o.kept ((Below.refl _ _).alloc lz9 (.cells #[.bool x5.1,.bool x5.2] 69));exact m6.same (G6.o.block _ m6.lt (fun e=>bJ O6.o m6.block e.symm)))
     refine hK.out _ _ S7.o (fun hHeld4=>?_);clear hK K;refine aCO (v:=?_) 7 ?_ ?_;rotate_left
     ·intro wz hSw;obtain⟨q0,q1,q2,q3,q4,q5,q6⟩:=QC.o wz hSw;clear hSw;go_simp;try with_reducible rfl
     dsimp only [Act.put,g9,g4,g8];simp only [f8,i8,i7];refine wpAnyH_ready (rs:=[8]) (by kernel_rfl) (by simp) ?_;refine AllReadyH.cons rfl (fun K hK=>?_) AllReadyH.nil;have k7:w6.cell? (aDr bs 8)=some (.slice qv j cv):=aA C7.o (i:=8) rfl;have fz:=aG C7.o 8;go_simp;have S8:Hid (Fr (Wr2 bb bs) W0 (w6.setCell (aDr bs 8) (.slice (some (aDr g6 0)) (j+1) cap6))/\BoxN (w6.setCell (aDr bs 8) (.slice (some (aDr g6 0)) (j+1) cap6)) wr.heap.size u.f):=⟨S7.o.1.setCell (p:=(aDr bs 8)) (.inr rfl) _,(Below.heap_setCell _ _ _ _ (fun e=>NE3.o e)).trans S7.o.2⟩;refine hK.out _ _ S8.o (fun hHeld5=>?_);clear hK K;refine wpAnyH_done (by kernel_rfl) ?_ _;have LQ:Hid (LpA ρ W0 (w6.setCell (aDr bs 8) (.slice (some (aDr g6 0)) (j+1) cap6)) bb bs n t c o g (j+1) (.slice (some (aDr g6 0)) (j+1) cap6) (.func (.func 57) #[] #[bx bp])):=by
      obtain⟨ea,eb⟩:=dD (ρ:=ρ) HU.o g;refine⟨aN C7.o 8 _,?_,?_,S8.o.1⟩
      ·rw [ea,xP,HX5.o];exact aH O7.o ((Fr.refl (fun k=>k=bs) w6).setCell (p:=(aDr bs 8)) rfl _) (fun k e z=>aO O7.o C7.o (by decide) (z ▸ e))
      ·rw [eb,bL HU.o,<- aAN];exact M7.o.fr ((Fr.refl (fun k=>k=bs) w6).setCell (p:=(aDr bs 8)) rfl _) (fun e=>by
        obtain⟨es,cl,hb⟩:=M7.o.block;rw [e,C7.o] at hb;cases hb)
     clear k7 fz;go_wp2;go_roundw
     case rel=>exact⟨j+1,_,by omega,by go_num,LQ.o⟩
     case measure=>simp only [intOf];omega
    ·go_simp
     go_at_call 58
     refine IHU.o.mono ?_;rintro e w5 ⟨rfl,hm5,hf5⟩;have M5:=aC hm5;have F5:=aC hf5;clear hm5 hf5;have S5:Hid (Fr (Wr2 bb bs) W0 w5/\BoxN w5 wr.heap.size u.f):=⟨SK.o.1.trans (F5.o.mono (fun k e=>.inl e)),(F5.o.block _ (aB SK.o.2) (fun e=>NE.o.1 e)).trans SK.o.2⟩;refine hK.out _ _ S5.o (fun hHeld1=>?_);clear hK K;refine wpAnyH_ready (rs:=[1,5]) (by kernel_rfl) (by simp) ?_;refine AllReadyH.cons rfl (fun K hK=>?_) (AllReadyH.cons rfl (fun K hK=>?_) AllReadyH.nil)
     ·have k9:w5.cell? (aDr bs 8)=some (.slice qv j cv):=aA ((F5.o.block _ (aB CB.o) (fun e=>NE.o.2 e.symm)).trans CB.o) (i:=8) rfl;go_simp;refine hK.out _ _ S5.o (fun hHeld2=>?_);clear hK K;refine wpAnyH_ready (rs:=[5]) (by kernel_rfl) (by simp) ?_;refine AllReadyH.cons rfl (fun K hK=>?_) AllReadyH.nil;go_simp;have S6:Hid (Fr (Wr2 bb bs) W0 (w5.alloc (.cells #[.bool x5.1,.bool x5.2] 69))/\BoxN (w5.alloc (.cells #[.bool x5.1,.bool x5.2] 69)) wr.heap.size u.f):=⟨S5.o.1.alloc _,(Below.heap_alloc _ _ _ (aB S5.o.2)).trans S5.o.2⟩;refine hK.out _ _ S6.o (fun hHeld3=>?_);clear hK K;refine wpAnyH_ready (rs:=[6]) (by kernel_rfl) (by simp) ?_;refine AllReadyH.cons rfl (fun K hK=>?_) AllReadyH.nil;have O6:Hid ((w5.alloc (.cells #[.bool x5.1,.bool x5.2] 69)).ownsRow W0.heap.size 69 2 (.slice qv j cv) j (ceA (evs ρ g (t.ks.take j)).1)):=o8 (aH OK.o F5.o (fun k e z=>bJ OK.o MK.o.block (z ▸ e))) _;refine aZ rfl _ _ 117 rfl W0.heap.size 69 t0 (.agg #[.bool false,.bool false]) 2 2 aD1 TI.o.1 TI.o.2.1 TI.o.2.2.1 TI.o.2.2.2 rfl (by decide) (.slice qv j cv) j (ceA (evs ρ g (t.ks.take j)).1) (by simp [Act.eval]) O6.o (aDr w5.heap.size 0) 1 1 [.bool x5.1,.bool x5.2] (by simp [Act.eval]) rfl (bI w5 [.bool x5.1,.bool x5.2] _) (by simp [Value.oneCell']) (by have:=LJ.o;unfold maxLen;omega) (by have:=LJ.o;omega) (m8 S5.o.1.size (by simp only [f4];omega)) ?_;intro v' w6 hown' hgrow hblk;obtain⟨g6,cap6,rfl⟩:=aL hown' (aAL _);have O7:=aC hown';have G6:=aC hgrow;clear hown' hgrow hblk;have S7:Hid (Fr (Wr2 bb bs) W0 w6/\BoxN w6 wr.heap.size u.f):=⟨S6.o.1.grownNew G6.o (fun k e=>(aF O6.o e).1),(G6.o.block _ (aB S6.o.2) (fun e=>by
       have:=(aF LP.o.own e.symm).2.1;omega)).trans S6.o.2⟩
      have C7:Hid (w6.heap[bs]?=some (.cells (cX t.f c o (.slice qv j cv) (.func (.func 57) #[] #[bx bp])) 119 (0,0))):=(by
       have e5:=(F5.o.block _ (aB CB.o) (fun e=>NE.o.2 e.symm)).trans CB.o;have e6:=(Below.heap_alloc w5 (.cells #[.bool x5.1,.bool x5.2] 69) _ (aB e5)).trans e5;exact(G6.o.block _ (aB e6) (fun e=>aO O6.o e6 (by decide) e.symm)).trans e6)
      have M7:Hid (MapV w6 (.agg #[.bool false,.bool false]) bb (n+szs (t.ks.take j)+u.sz) (fun i=>enA ((ev ρ (evs ρ g (t.ks.take j)).2 u).2 i))):=(by
       have m6:=M5.o.kept ((Below.refl _ _).alloc lz9 (.cells #[.bool x5.1,.bool x5.2] 69));exact m6.same (G6.o.block _ m6.lt (fun e=>bJ O6.o m6.block e.symm)))
      refine hK.out _ _ S7.o (fun hHeld4=>?_);clear hK K;refine aCO (v:=?_) 7 ?_ ?_;rotate_left
      ·intro wz hSw;obtain⟨q0,q1,q2,q3,q4,q5,q6⟩:=QC.o wz hSw;clear hSw;go_simp;try with_reducible rfl
      dsimp only [Act.put,g9,g4,g8];simp only [f8,i8,i7];refine wpAnyH_ready (rs:=[8]) (by kernel_rfl) (by simp) ?_;refine AllReadyH.cons rfl (fun K hK=>?_) AllReadyH.nil;have k7:w6.cell? (aDr bs 8)=some (.slice qv j cv):=aA C7.o (i:=8) rfl;have fz:=aG C7.o 8;go_simp;have S8:Hid (Fr (Wr2 bb bs) W0 (w6.setCell (aDr bs 8) (.slice (some (aDr g6 0)) (j+1) cap6))/\BoxN (w6.setCell (aDr bs 8) (.slice (some (aDr g6 0)) (j+1) cap6)) wr.heap.size u.f):=⟨S7.o.1.setCell (p:=(aDr bs 8)) (.inr rfl) _,(Below.heap_setCell _ _ _ _ (fun e=>NE3.o e)).trans S7.o.2⟩;refine hK.out _ _ S8.o (fun hHeld5=>?_);clear hK K;refine wpAnyH_done (by kernel_rfl) ?_ _;have LQ:Hid (LpA ρ W0 (w6.setCell (aDr bs 8) (.slice (some (aDr g6 0)) (j+1) cap6)) bb bs n t c o g (j+1) (.slice (some (aDr g6 0)) (j+1) cap6) (.func (.func 57) #[] #[bx bp])):=by
       obtain⟨ea,eb⟩:=dD (ρ:=ρ) HU.o g;refine⟨aN C7.o 8 _,?_,?_,S8.o.1⟩
       ·rw [ea,xP,HX5.o];exact aH O7.o ((Fr.refl (fun k=>k=bs) w6).setCell (p:=(aDr bs 8)) rfl _) (fun k e z=>aO O7.o C7.o (by decide) (z ▸ e))
       ·rw [eb,bL HU.o,<- aAN];exact M7.o.fr ((Fr.refl (fun k=>k=bs) w6).setCell (p:=(aDr bs 8)) rfl _) (fun e=>by
         obtain⟨es,cl,hb⟩:=M7.o.block;rw [e,C7.o] at hb;cases hb)
      clear k7 fz;go_wp2;go_roundw
      case rel=>exact⟨j+1,_,by omega,by go_num,LQ.o⟩
      case measure=>simp only [intOf];omega
     ·go_simp;have S6:Hid (Fr (Wr2 bb bs) W0 (w5.alloc (.cells #[.bool x5.1,.bool x5.2] 69))/\BoxN (w5.alloc (.cells #[.bool x5.1,.bool x5.2] 69)) wr.heap.size u.f):=⟨S5.o.1.alloc _,(Below.heap_alloc _ _ _ (aB S5.o.2)).trans S5.o.2⟩;refine hK.out _ _ S6.o (fun hHeld2=>?_);clear hK K;refine wpAnyH_ready (rs:=[1]) (by kernel_rfl) (by simp) ?_;refine AllReadyH.cons rfl (fun K hK=>?_) AllReadyH.nil;have k9:(w5.alloc (.cells #[.bool x5.1,.bool x5.2] 69)).cell? (aDr bs 8)=some (.slice qv j cv):=(by have e5:=(F5.o.block _ (aB CB.o) (fun e=>NE.o.2 e.symm)).trans CB.o;exact aA ((Below.heap_alloc w5 (.cells #[.bool x5.1,.bool x5.2] 69) _ (aB e5)).trans e5) (i:=8) rfl);go_simp;refine hK.out _ _ S6.o (fun hHeld3=>?_);clear hK K;refine wpAnyH_ready (rs:=[6]) (by kernel_rfl) (by simp) ?_;refine AllReadyH.cons rfl (fun K hK=>?_) AllReadyH.nil;have O6:Hid ((w5.alloc (.cells #[.bool x5.1,.bool x5.2] 69)).ownsRow W0.heap.size 69 2 (.slice qv j cv) j (ceA (evs ρ g (t.ks.take j)).1)):=o8 (aH OK.o F5.o (fun k e z=>bJ OK.o MK.o.block (z ▸ e))) _;refine aZ rfl _ _ 117 rfl W0.heap.size 69 t0 (.agg #[.bool false,.bool false]) 2 2 aD1 TI.o.1 TI.o.2.1 TI.o.2.2.1 TI.o.2.2.2 rfl (by decide) (.slice qv j cv) j (ceA (evs ρ g (t.ks.take j)).1) (by simp [Act.eval]) O6.o (aDr w5.heap.size 0) 1 1 [.bool x5.1,.bool x5.2] (by simp [Act.eval]) rfl (bI w5 [.bool x5.1,.bool x5.2] _) (by simp [Value.oneCell']) (by have:=LJ.o;unfold maxLen;omega) (by have:=LJ.o;omega) (m8 S5.o.1.size (by simp only [f4];omega)) ?_;intro v' w6 hown' hgrow hblk;obtain⟨g6,cap6,rfl⟩:=aL hown' (aAL _);have O7:=aC hown';have G6:=aC hgrow;clear hown' hgrow hblk;have S7:Hid (Fr (Wr2 bb bs) W0 w6/\BoxN w6 wr.heap.size u.f):=⟨S6.o.1.grownNew G6.o (fun k e=>(aF O6.o e).1),(G6.o.block _ (aB S6.o.2) (fun e=>by
       have:=(aF LP.o.own e.symm).2.1;omega)).trans S6.o.2⟩
      have C7:Hid (w6.heap[bs]?=some (.cells (cX t.f c o (.slice qv j cv) (.func (.func 57) #[] #[bx bp])) 119 (0,0))):=(by
       have e5:=(F5.o.block _ (aB CB.o) (fun e=>NE.o.2 e.symm)).trans CB.o;have e6:=(Below.heap_alloc w5 (.cells #[.bool x5.1,.bool x5.2] 69) _ (aB e5)).trans e5;exact(G6.o.block _ (aB e6) (fun e=>aO O6.o e6 (by decide) e.symm)).trans e6)
      have M7:Hid (MapV w6 (.agg #[.bool false,.bool false]) bb (n+szs (t.ks.take j)+u.sz) (fun i=>enA ((ev ρ (evs ρ g (t.ks.take j)).2 u).2 i))):=(by
       have m6:=M5.o.kept ((Below.refl _ _).alloc lz9 (.cells #[.bool x5.1,.bool x5.2] 69));exact m6.same (G6.o.block _ m6.lt (fun e=>bJ O6.o m6.block e.symm)))
      refine hK.out _ _ S7.o (fun hHeld4=>?_);clear hK K;refine aCO (v:=?_) 7 ?_ ?_;rotate_left
      ·intro wz hSw;obtain⟨q0,q1,q2,q3,q4,q5,q6⟩:=QC.o wz hSw;clear hSw;go_simp;try with_reducible rfl
      dsimp only [Act.put,g9,g4,g8];simp only [f8,i8,i7];refine wpAnyH_ready (rs:=[8]) (by kernel_rfl) (by simp) ?_;refine AllReadyH.cons rfl (fun K hK=>?_) AllReadyH.nil;have k7:w6.cell? (aDr bs 8)=some (.slice qv j cv):=aA C7.o (i:=8) rfl;have fz:=aG C7.o 8;go_simp;have S8:Hid (Fr (Wr2 bb bs) W0 (w6.setCell (aDr bs 8) (.slice (some (aDr g6 0)) (j+1) cap6))/\BoxN (w6.setCell (aDr bs 8) (.slice (some (aDr g6 0)) (j+1) cap6)) wr.heap.size u.f):=⟨S7.o.1.setCell (p:=(aDr bs 8)) (.inr rfl) _,(Below.heap_setCell _ _ _ _ (fun e=>NE3.o e)).trans S7.o.2⟩;refine hK.out _ _ S8.o (fun hHeld5=>?_);clear hK K;refine wpAnyH_done (by kernel_rfl) ?_ _;have LQ:Hid (LpA ρ W0 (w6.setCell (aDr bs 8) (.slice (some (aDr g6 0)) (j+1) cap6)) bb bs n t c o g (j+1) (.slice (some (aDr g6 0)) (j+1) cap6) (.func (.func 57) #[] #[bx bp])):=by
       obtain⟨ea,eb⟩:=dD (ρ:=ρ) HU.o g;refine⟨aN C7.o 8 _,?_,?_,S8.o.1⟩
       ·rw [ea,xP,HX5.o];exact aH O7.o ((Fr.refl (fun k=>k=bs) w6).setCell (p:=(aDr bs 8)) rfl _) (fun k e z=>aO O7.o C7.o (by decide) (z ▸ e))
       ·rw [eb,bL HU.o,<- aAN];exact M7.o.fr ((Fr.refl (fun k=>k=bs) w6).setCell (p:=(aDr bs 8)) rfl _) (fun e=>by
         obtain⟨es,cl,hb⟩:=M7.o.block;rw [e,C7.o] at hb;cases hb)
      clear k7 fz;go_wp2;go_roundw
      case rel=>exact⟨j+1,_,by omega,by go_num,LQ.o⟩
      case measure=>simp only [intOf];omega
   ·have e0:¬ (j:Int)<(t.f.kl:Int):=by rw [HKL.o];omega
    obtain rfl:j=t.ks.length:=by omega
    have hk:t.ks.take t.ks.length=t.ks:=aBF;have XO:=aC (hk ▸ LP.o.own);have XM:=aC (hk ▸ LP.o.mp);have r0:wr.cell? (aDr br 0)=some (.func (.func 29) #[] #[]):=aA (HTW.o.ck CW.o).r (i:=0) rfl;have s0:wr.cell? (aDr bs 0)=some (.I t.f.k):=aA LP.o.sc (i:=0) rfl;have s1:wr.cell? (aDr bs 1)=some (.I t.f.n):=aA LP.o.sc (i:=1) rfl;have s2:wr.cell? (aDr bs 2)=some (.I t.f.mn):=aA LP.o.sc (i:=2) rfl;have s3:wr.cell? (aDr bs 3)=some (.I t.f.mx):=aA LP.o.sc (i:=3) rfl;have s4:wr.cell? (aDr bs 4)=some (.slice t.f.rq t.f.rs.length t.f.rc):=aA LP.o.sc (i:=4) rfl;have s5:wr.cell? (aDr bs 5)=some (.slice t.f.kq t.f.kl t.f.kc):=aA LP.o.sc (i:=5) rfl;have s6:wr.cell? (aDr bs 6)=some (.bool c):=aA LP.o.sc (i:=6) rfl;have s7:wr.cell? (aDr bs 7)=some (.bool o):=aA LP.o.sc (i:=7) rfl;have s8:wr.cell? (aDr bs 8)=some (.slice qv t.ks.length cv):=aA LP.o.sc (i:=8) rfl;have s9:wr.cell? (aDr bs 9)=some (.func (.func 57) #[] #[bx bp]):=aA LP.o.sc (i:=9) rfl;clear hk;obtain⟨gx,gy⟩:=eM HG.o t.ks g (fun u hu=>bC HNP.o hu) HGD.o;have hC:=HR.o t (evs ρ g t.ks).1 (evs ρ g t.ks).2 wr (.slice qv t.ks.length cv) bp bb (n+szs t.ks) W0.heap.size (hglo CW.o HGW.o) ((aQ t).1 HNP.o).1 (by have:=cO t.ks;have:=hkz.o;have:=HN.o;omega) ((HTA.o.ck CW.o).node) (fT _ _) gx gy (by rw [fT];exact XO.o) (HTW.o.ck CW.o).p XM.o;simp only [cX,enA] at hC;have HC:=aC hC;clear hC gx gy;have BN:Hid (BoxN wr w.heap.size t.f):=(LP.o.fr.block _ (aB N0.o) (fun z=>by
     rcases z with e | e
     ·obtain⟨es,cl,hb⟩:=MB.o;rw [<- e,show W0.heap[w.heap.size]?=_ from N0.o] at hb;cases hb
     ·have:=HBS.o.2.2;omega)).trans N0.o
    have BR:Hid (wr.heap[w.heap.size+1]?=some (.cells #[.bool false,.bool false] 69 (0,0))):=(LP.o.fr.block _ (aB R0.o) (fun z=>by
     rcases z with e | e
     ·obtain⟨es,cl,hb⟩:=MB.o;rw [<- e,R0.o] at hb;cases hb
     ·have:=HBS.o.2.2;omega)).trans R0.o
    have hx:(ev ρ g t).1=ρ t.f t.ks (evs ρ g t.ks).1 (evs ρ g t.ks).2:=kN g t;rw [<- hx] at HC;have HS:=aC (lP (ρ:=ρ) g t);obtain⟨x,hxx⟩:∃ x,(ev ρ g t).1=x:=⟨_,rfl⟩;rw [hxx] at HC HS;have HX:=aC hxx;clear hx hxx;have FW:Hid (Fr (fun k=>k=bb) w wr):=tD HBS.o.1 B0.o LP.o.fr;by_cases h7:t.f.k=7
    ·have h7b:(t.f.k==7)=true:=by simp [h7]
     have WF:Hid ((Lit.int .i64 t.f.n).wf=true):=HWF.o t ((aQ t).1 HNP.o).1 h7;rw [if_pos h7] at HS;clear h7;go_wp2_with first
      |(go_at_call 29;refine HC.o.mono ?_;rintro e w5 ⟨rfl,h5⟩;have B5:=aC h5;clear h5 s0 s1 s2 s3 s4 s5 s6 s7 s8 s9 r0;have N5:Hid (BoxN w5 w.heap.size t.f):=(B5.o.block _ (aB BN.o)).trans BN.o;have A5:Hid (wBl w5 (w5.alloc (.cells #[.bool x.1,.bool x.2] 69))):=bz9;have N6:Hid (BoxN (w5.alloc (.cells #[.bool x.1,.bool x.2] 69)) w.heap.size t.f):=(A5.o.block _ (aB N5.o)).trans N5.o;have R5:Hid ((w5.alloc (.cells #[.bool x.1,.bool x.2] 69)).heap[w.heap.size+1]?=some (.cells #[.bool false,.bool false] 69 (0,0))):=(A5.o.block _ (aB ((B5.o.block _ (aB BR.o)).trans BR.o))).trans ((B5.o.block _ (aB BR.o)).trans BR.o);have k0:(w5.alloc (.cells #[.bool x.1,.bool x.2] 69)).cell? (aDr w.heap.size 0)=some (.int .i64 t.f.k):=N6.o.six.1;have k1:(w5.alloc (.cells #[.bool x.1,.bool x.2] 69)).cell? (aDr w.heap.size 1)=some (.int .i64 t.f.n):=N6.o.six.2.1;have p0:(w5.alloc (.cells #[.bool x.1,.bool x.2] 69)).cell? (aDr bp 0)=some (.map (some bb)):=aA (((HTW.o.ck CW.o).ck (CK.of_below B5.o)).ck (CK.of_below A5.o)).p (i:=0) rfl;have z0:=aA R5.o (i:=0) rfl;have z1:=aA R5.o (i:=1) rfl;have fz:=fun z=>aG R5.o z)
      |(at_mapUpdate;refine eI _ rfl _ _ _ 114 rfl 69 bQ8 (.agg #[.bool false,.bool false]) bb (n+szs t.ks) (fun i=>enA ((evs ρ g t.ks).2 i)) rfl ((XM.o.kept B5.o).kept (bz9)) (by have:=HN.o;have:=hkz.o;unfold maxLen;omega) t.f.n rfl WF.o (enA x) rfl ?_;intro w6 hm6 hg6;have M6:=aC hm6;have G6:=aC hg6;clear hm6 hg6;have C6:Hid (CK (w5.alloc (.cells #[.bool x.1,.bool x.2] 69)) w6):=xJ ((XM.o.kept B5.o).kept A5.o).block ((Fr.refl _ _).grown G6.o (fun k e=>by injection e with e;exact e.symm));have R6:Hid (w6.heap[w.heap.size+1]?=some (.cells #[.bool false,.bool false] 69 (0,0))):=C6.o.same _ _ _ _ (aB R5.o) R5.o;have X6:Hid (w6.heap[w5.heap.size]?=some (.cells #[.bool x.1,.bool x.2] 69 (0,0))):=C6.o.same _ _ _ _ (aB (aE w5 _)) (aE w5 _);clear fz z0 z1;have z0:=aA R6.o (i:=0) rfl;have x0:=aA X6.o (i:=0) rfl;have z1:=aA R6.o (i:=1) rfl;have x1:=aA X6.o (i:=1) rfl;have fz:=fun z=>aG R6.o z)
     refine aJ7 (b:=w.heap.size+1) (x:=x) (bA R6.o [.bool x.1,.bool x.2] rfl) rfl rfl ?_;have F7:=aY (w.heap.size+1) [.bool x.1,.bool x.2] 0 w6;refine⟨by rw [HX.o],?_,?_⟩
     ·rw [HS.o,<- rW,show n+t.sz=n+szs t.ks+1 by have:=hkz.o;omega];exact M6.o.fr F7 (fun e=>by
       obtain⟨es,cl,hb⟩:=M6.o.block;rw [e,R6.o] at hb;cases hb)
     ·exact lO (((FW.o.then B5.o).then (bz9)).grown G6.o (fun k e=>by injection e with e;exact e.symm)) F7 (by omega)
    ·have h7b:(t.f.k==7)=false:=by simp [h7]
     rw [if_neg h7] at HS;clear h7;go_wp2_with first
      |(go_at_call 29;refine HC.o.mono ?_;rintro e w5 ⟨rfl,h5⟩;have B5:=aC h5;clear h5 s0 s1 s2 s3 s4 s5 s6 s7 s8 s9 r0;have N5:Hid (BoxN w5 w.heap.size t.f):=(B5.o.block _ (aB BN.o)).trans BN.o;have A5:Hid (wBl w5 (w5.alloc (.cells #[.bool x.1,.bool x.2] 69))):=bz9;have N6:Hid (BoxN (w5.alloc (.cells #[.bool x.1,.bool x.2] 69)) w.heap.size t.f):=(A5.o.block _ (aB N5.o)).trans N5.o;have R5:Hid ((w5.alloc (.cells #[.bool x.1,.bool x.2] 69)).heap[w.heap.size+1]?=some (.cells #[.bool false,.bool false] 69 (0,0))):=(A5.o.block _ (aB ((B5.o.block _ (aB BR.o)).trans BR.o))).trans ((B5.o.block _ (aB BR.o)).trans BR.o);have k0:(w5.alloc (.cells #[.bool x.1,.bool x.2] 69)).cell? (aDr w.heap.size 0)=some (.int .i64 t.f.k):=N6.o.six.1;have k1:(w5.alloc (.cells #[.bool x.1,.bool x.2] 69)).cell? (aDr w.heap.size 1)=some (.int .i64 t.f.n):=N6.o.six.2.1;have p0:(w5.alloc (.cells #[.bool x.1,.bool x.2] 69)).cell? (aDr bp 0)=some (.map (some bb)):=aA (((HTW.o.ck CW.o).ck (CK.of_below B5.o)).ck (CK.of_below A5.o)).p (i:=0) rfl;have z0:=aA R5.o (i:=0) rfl;have z1:=aA R5.o (i:=1) rfl;have fz:=fun z=>aG R5.o z)
     refine aJ7 (b:=w.heap.size+1) (x:=x) (bA R5.o [.bool x.1,.bool x.2] rfl) rfl rfl ?_;have F7:=aY (w.heap.size+1) [.bool x.1,.bool x.2] 0 (w5.alloc (.cells #[.bool x.1,.bool x.2] 69));refine⟨by rw [HX.o],?_,?_⟩
     ·rw [HS.o];have M6:=((XM.o.kept B5.o).kept ((Below.refl _ _).alloc lz9 (.cells #[.bool x.1,.bool x.2] 69)));exact(M6.fr F7 (fun e=>by
       obtain⟨es,cl,hb⟩:=M6.block;rw [e,R5.o] at hb;cases hb)).mono (by have:=hkz.o;omega)
     ·exact lO ((FW.o.then B5.o).then (bz9)) F7 (by omega)
end
section
attribute [local go_sem] Oper.semAt_some
theorem aJ2{R:Ending->World->Prop}{a:Act}{W:World}{b:Nat}{x:Bool×Bool}(h:W.heap[b]?=some (.cells #[.bool x.1,.bool x.2] 69 (0,0)))(ha:a.tmps[6]?.getD undef=.pointer (some (aDr b 0)))(hd:a.defers=[])(hR:R (.returned (enA x)) W):bodyPost Tryz.prog Tryz.f28 R .ret a W:=by
 refine bodyPost_ret (v:=enA x) ?_ hd hR;have z0:=aA h (i:=0) rfl;have z1:=aA h (i:=1) rfl;simp [results,Tryz.results28,go_sem,ha,enA,z0,z1]
noncomputable def tvA (ρ:dJ (Bool×Bool)) (c o:Bool) (t:Tr):Bool×Bool:=if aW c o 0 0 (pp [] t)=0 then (ev ρ (fun _=>(false,false)) t).1 else (false,false)
theorem bR6{Glo:World->Prop}(hglo:∀ {A B:World},CK A B->Glo A->Glo B){w:World}(hgw:Glo w){t:Tr}{Good:Bool×Bool->Prop}{ρ:dJ (Bool×Bool)}{c o:Bool}(hta:TB w t)(hr:RuA Glo (NP c o) Good ρ c o)(hg:∀ t xs g,NP c o t->xs.length=t.ks.length->(∀ x∈xs,Good x)->(∀ i,Good (g i))->Good (ρ t.f t.ks xs g))(h0:Good (false,false)) :
  Calls Tryz.prog 28 #[.agg (nDf t.f),.agg #[.bool c,.bool o],.func (.func 29) #[] #[]] w fun e w'=>e=.returned (enA (tvA ρ c o t))/\wBl w w':=by
 have HTA:=aC hta;have HGW:=aC hgw;have HR:=aC hr;clear hgw;have HG:=aC hg;have H0:=aC h0;clear hta hr hg h0;by_cases hz:aW c o 0 0 (pp [] t)=0
 ·have HV:Hid (tvA ρ c o t=(ev ρ (fun _=>(false,false)) t).1):=if_pos hz;have HZ:=aC hz;clear hz;have hmm:=@run_makeMap Tryz.prog;go_enter Tryz.func28,Tryz.ntmps28;go_upto_region 8 with (go_at_call 39;refine(dW c o (HTA.o.kept ((((bz9).alloc (by simp only [f4];omega) _).alloc (by simp only [f4];omega) _).alloc (by simp only [f4];omega) _))).mono ?_;rintro e w1 ⟨rfl,h1⟩;have B1:=aC h1;clear h1;have rz:=HZ.o)
  have l1:((((w.alloc (.cells (nDf t.f) 25)).alloc (.cells #[.bool c,.bool o] 27)).alloc (.cells #[.func (.func 29) #[] #[]] 71)).alloc (.cells #[.bool false,.bool false] 69)).heap.size<=w1.heap.size:=B1.o.size;simp only [f4] at l1;have b1:w1.heap[w.heap.size]?=some (.cells (nDf t.f) 25 (0,0)):=(B1.o.block _ (by simp only [f4];omega)).trans (by(repeat (first | exact aK _ (by first | rfl | simp only [f4]) | rw [Below.heap_alloc _ _ _ (by first | omega |(simp only [f4];omega))])));have b2:w1.heap[w.heap.size+1]?=some (.cells #[.bool c,.bool o] 27 (0,0)):=(B1.o.block _ (by simp only [f4];omega)).trans (by(repeat (first | exact aK _ (by first | rfl | simp only [f4]) | rw [Below.heap_alloc _ _ _ (by first | omega |(simp only [f4];omega))])));have b3:w1.heap[w.heap.size+1+1]?=some (.cells #[.func (.func 29) #[] #[]] 71 (0,0)):=(B1.o.block _ (by simp only [f4];omega)).trans (by(repeat (first | exact aK _ (by first | rfl | simp only [f4]) | rw [Below.heap_alloc _ _ _ (by first | omega |(simp only [f4];omega))])));have b4:w1.heap[w.heap.size+1+1+1]?=some (.cells #[.bool false,.bool false] 69 (0,0)):=(B1.o.block _ (by simp only [f4];omega)).trans (by(repeat (first | exact aK _ (by first | rfl | simp only [f4]) | rw [Below.heap_alloc _ _ _ (by first | omega |(simp only [f4];omega))])));have TT:Hid (TWA ((((w1.alloc (.map #[] 0)).alloc (.cells #[.map (some w1.heap.size)] 114)).alloc (.cells #[.func (.func 57) #[] #[.pointer (some ⟨w1.heap.size+1,0,none⟩)]] 115)).alloc (.cells #[.func (.func 58) #[] #[.pointer (some ⟨w.heap.size+1,0,none⟩),.pointer (some ⟨w1.heap.size+1+1,0,none⟩),.pointer (some ⟨w1.heap.size+1+1+1,0,none⟩),.pointer (some ⟨w.heap.size+1+1,0,none⟩),.pointer (some ⟨w1.heap.size+1,0,none⟩)]] 116)) (w.heap.size+1) (w1.heap.size+1+1) (w1.heap.size+1+1+1) (w.heap.size+1+1) (w1.heap.size+1) w1.heap.size c o):=⟨by rw [<- b2];(repeat (first | exact aK _ (by first | rfl | simp only [f4]) | rw [Below.heap_alloc _ _ _ (by first | omega |(simp only [f4];omega))])),by(repeat (first | exact aK _ (by first | rfl | simp only [f4]) | rw [Below.heap_alloc _ _ _ (by first | omega |(simp only [f4];omega))])),by(repeat (first | exact aK _ (by first | rfl | simp only [f4]) | rw [Below.heap_alloc _ _ _ (by first | omega |(simp only [f4];omega))])),by rw [<- b3];(repeat (first | exact aK _ (by first | rfl | simp only [f4]) | rw [Below.heap_alloc _ _ _ (by first | omega |(simp only [f4];omega))])),by(repeat (first | exact aK _ (by first | rfl | simp only [f4]) | rw [Below.heap_alloc _ _ _ (by first | omega |(simp only [f4];omega))]))⟩;have BX:Hid (wBl w1 ((((w1.alloc (.map #[] 0)).alloc (.cells #[.map (some w1.heap.size)] 114)).alloc (.cells #[.func (.func 57) #[] #[.pointer (some ⟨w1.heap.size+1,0,none⟩)]] 115)).alloc (.cells #[.func (.func 58) #[] #[.pointer (some ⟨w.heap.size+1,0,none⟩),.pointer (some ⟨w1.heap.size+1+1,0,none⟩),.pointer (some ⟨w1.heap.size+1+1+1,0,none⟩),.pointer (some ⟨w.heap.size+1+1,0,none⟩),.pointer (some ⟨w1.heap.size+1,0,none⟩)]] 116))):=(((bz9).alloc (by simp only [f4];omega) _).alloc (by simp only [f4];omega) _).alloc (by simp only [f4];omega) _;have MM:Hid (MapV ((((w1.alloc (.map #[] 0)).alloc (.cells #[.map (some w1.heap.size)] 114)).alloc (.cells #[.func (.func 57) #[] #[.pointer (some ⟨w1.heap.size+1,0,none⟩)]] 115)).alloc (.cells #[.func (.func 58) #[] #[.pointer (some ⟨w.heap.size+1,0,none⟩),.pointer (some ⟨w1.heap.size+1+1,0,none⟩),.pointer (some ⟨w1.heap.size+1+1+1,0,none⟩),.pointer (some ⟨w.heap.size+1+1,0,none⟩),.pointer (some ⟨w1.heap.size+1,0,none⟩)]] 116)) (.agg #[.bool false,.bool false]) w1.heap.size 0 (fun _=>enA (false,false))):=(((MapV.made w1 (.agg #[.bool false,.bool false])).kept (bz9)).kept (bz9)).kept (bz9);have BN:=aC ((BX.o.block _ (aB b1)).trans b1);have BR:=aC ((BX.o.block _ (aB b4)).trans b4);generalize hWX:((((w1.alloc (.map #[] 0)).alloc (.cells #[.map (some w1.heap.size)] 114)).alloc (.cells #[.func (.func 57) #[] #[.pointer (some ⟨w1.heap.size+1,0,none⟩)]] 115)).alloc (.cells #[.func (.func 58) #[] #[.pointer (some ⟨w.heap.size+1,0,none⟩),.pointer (some ⟨w1.heap.size+1+1,0,none⟩),.pointer (some ⟨w1.heap.size+1+1+1,0,none⟩),.pointer (some ⟨w.heap.size+1+1,0,none⟩),.pointer (some ⟨w1.heap.size+1,0,none⟩)]] 116))=WX at TT BX MM BN BR ⊢;clear hWX b1 b2 b3 b4;have B9:Hid (wBl w WX):=aJ (aJ ((((bz9).alloc (by simp only [f4];omega) _).alloc (by simp only [f4];omega) _).alloc (by simp only [f4];omega) _) B1.o lz9) BX.o lz9;have hO:=bZ4 hglo HR.o (fun t h k=>h.wf k) HG.o (w.heap.size+1) (w1.heap.size+1+1) (w1.heap.size+1+1+1) (w.heap.size+1+1) (w1.heap.size+1) w1.heap.size t.sz t WX 0 (fun _=>(false,false)) lz9 (by have:=jM HZ.o;omega) (hglo (CK.of_below B9.o) HGW.o) (HTA.o.kept B9.o) (eW HZ.o) (fun _=>H0.o) TT.o MM.o;obtain⟨x,hx⟩:∃ x,tvA ρ c o t=x:=⟨_,rfl⟩;have HC:Hid (Calls Tryz.prog 58 #[.agg (nDf t.f),.pointer (some ⟨w.heap.size+1,0,none⟩),.pointer (some ⟨w1.heap.size+1+1,0,none⟩),.pointer (some ⟨w1.heap.size+1+1+1,0,none⟩),.pointer (some ⟨w.heap.size+1+1,0,none⟩),.pointer (some ⟨w1.heap.size+1,0,none⟩)] WX (fun e w'=>e=.returned (.agg #[.bool x.1,.bool x.2])/\Fr (fun k=>k=w1.heap.size) WX w')):=aC (hO.mono fun e w' h=>⟨by rw [h.1,<- HV.o,hx];rfl,h.2.2⟩);have HX:=aC hx;clear hO hx;have o0:WX.cell? ⟨w1.heap.size+1+1+1,0,none⟩=some (.func (.func 58) #[] #[.pointer (some ⟨w.heap.size+1,0,none⟩),.pointer (some ⟨w1.heap.size+1+1,0,none⟩),.pointer (some ⟨w1.heap.size+1+1+1,0,none⟩),.pointer (some ⟨w.heap.size+1+1,0,none⟩),.pointer (some ⟨w1.heap.size+1,0,none⟩)]):=aA TT.o.o (i:=0) rfl;have n0:WX.cell? (aDr w.heap.size 0)=some (.I t.f.k):=aA BN.o (i:=0) rfl;have n1:WX.cell? (aDr w.heap.size 1)=some (.I t.f.n):=aA BN.o (i:=1) rfl;have n2:WX.cell? (aDr w.heap.size 2)=some (.I t.f.mn):=aA BN.o (i:=2) rfl;have n3:WX.cell? (aDr w.heap.size 3)=some (.I t.f.mx):=aA BN.o (i:=3) rfl;have n4:WX.cell? (aDr w.heap.size 4)=some (.slice t.f.rq t.f.rs.length t.f.rc):=aA BN.o (i:=4) rfl;have n5:WX.cell? (aDr w.heap.size 5)=some (.slice t.f.kq t.f.kl t.f.kc):=aA BN.o (i:=5) rfl;go_wp2_with (go_at_call 58;refine HC.o.mono ?_;rintro e w5 ⟨rfl,h5⟩;have F5:=aC h5;clear h5;have R5:Hid (w5.heap[w.heap.size+1+1+1]?=some (.cells #[.bool false,.bool false] 69 (0,0))):=(F5.o.block _ (aB BR.o) (fun e=>by omega)).trans BR.o;have z0:=aA R5.o (i:=0) rfl;have z1:=aA R5.o (i:=1) rfl;have fz:=fun z=>aG R5.o z)
  refine aJ2 (b:=w.heap.size+1+1+1) (x:=x) (bA R5.o [.bool x.1,.bool x.2] rfl) rfl rfl ?_;exact⟨by rw [HX.o],bB (bB B9.o F5.o lz9 (fun k e=>by rw [e];exact m8 (by omega) l1)) (aY (w.heap.size+1+1+1) [.bool x.1,.bool x.2] 0 w5) lz9 (fun k e=>by omega)⟩
 ·have HV:Hid (tvA ρ c o t=(false,false)):=if_neg hz;have HZ:=aC hz;obtain⟨r,hrr⟩:∃ r,aW c o 0 0 (pp [] t)=r:=⟨_,rfl⟩;have rz:(r==0)=false:=by rw [<- hrr];simpa using hz
  have rz2:(r != 0)=true:=by rw [bne,rz];rfl
  have HQ:=aC hrr;clear hz hrr;go_enter Tryz.func28,Tryz.ntmps28;go_wp2_with (go_at_call 39;refine(dW c o (HTA.o.kept ((((bz9).alloc (by simp only [f4];omega) _).alloc (by simp only [f4];omega) _).alloc (by simp only [f4];omega) _))).mono ?_;rw [HQ.o];rintro e w1 ⟨rfl,h1⟩;have B1:=aC h1;clear h1;have l1:((((w.alloc (.cells (nDf t.f) 25)).alloc (.cells #[.bool c,.bool o] 27)).alloc (.cells #[.func (.func 29) #[] #[]] 71)).alloc (.cells #[.bool false,.bool false] 69)).heap.size<=w1.heap.size:=B1.o.size;simp only [f4] at l1;have RA:Hid ((w1.alloc (.cells #[.bool false,.bool false] 69)).heap[w.heap.size+1+1+1]?=some (.cells #[.bool false,.bool false] 69 (0,0))):=(Below.heap_alloc _ _ _ (by omega)).trans ((B1.o.block _ (by simp only [f4];omega)).trans (by(repeat (first | exact aK _ (by first | rfl | simp only [f4]) | rw [Below.heap_alloc _ _ _ (by first | omega |(simp only [f4];omega))]))));have z0:=aA RA.o (i:=0) rfl;have z1:=aA RA.o (i:=1) rfl;have fz:=fun z=>aG RA.o z)
  refine aJ2 (b:=w.heap.size+1+1+1) (x:=(false,false)) (bA RA.o [.bool false,.bool false] rfl) rfl rfl ?_;exact⟨by rw [HV.o],bB ((aJ ((((bz9).alloc (by simp only [f4];omega) _).alloc (by simp only [f4];omega) _).alloc (by simp only [f4];omega) _) B1.o lz9).alloc (by have:=(aJ ((((bz9).alloc (by simp only [f4];omega) _).alloc (by simp only [f4];omega) _).alloc (by simp only [f4];omega) _) B1.o lz9).size;omega) _) (aY (w.heap.size+1+1+1) [.bool false,.bool false] 0 _) lz9 (fun k e=>by omega)⟩
end
section
attribute [local go_sem] Oper.semAt_some aS
def bY9(_:Bool×Bool):Prop:=True
def cS:dJ (Bool×Bool):=fun f _ xs _=>
 if f.k=3 then (true,false) else if f.k=4 then (false,true) else if f.k=5 then ((xs.headD (false,false)).1,(xs.getLastD (false,false)).2) else if f.k=6 then (xs.all (·.1),xs.all (·.2))
 else if f.k=7 then xs.headD (false,false) else if f.k=9 then (if 0<f.mn then xs.headD (false,false) else (false,false)) else (false,false)
theorem aE7:tU cS:=fun _ _ _ _ _ _=>rfl
theorem gD{R:Ending->World->Prop}{a:Act}{W:World}{b:Nat}{x:Bool×Bool}(h:W.heap[b]?=some (.cells #[.bool x.1,.bool x.2] 69 (0,0)))(ha:a.tmps[2]?.getD undef=.pointer (some (aDr b 0)))(hd:a.defers=[])(hR:R (.returned (enA x)) W):bodyPost Tryz.prog Tryz.f29 R .ret a W:=by
 refine bodyPost_ret (v:=enA x) ?_ hd hR;have z0:=aA h (i:=0) rfl;have z1:=aA h (i:=1) rfl;simp [results,Tryz.results29,go_sem,ha,enA,z0,z1]
def TwoA(W V:World)(x:Bool×Bool):Prop:=V.heap[W.heap.size+1]?=some (.cells #[.bool false,.bool false] 69 (0,0))/\V.heap[W.heap.size+1+1]?=some (.cells #[.bool x.1,.bool x.2] 69 (0,0))/\wBl W V
theorem TwoA.put{W V:World}{x:Bool×Bool}(h:TwoA W V x)(y:Bool×Bool):TwoA W (bF V (W.heap.size+1+1) 0 [.bool y.1,.bool y.2]) y:=
 ⟨((aY _ _ 0 V).block _ (aB h.1) (by omega)).trans h.1,bA h.2.1 [.bool y.1,.bool y.2] rfl,bB h.2.2 (aY _ _ 0 V) lz9 (fun k e=>by omega)⟩
theorem TwoA.kept{W V V':World}{x:Bool×Bool}(h:TwoA W V x)(hb:wBl V V'):TwoA W V' x:=
 ⟨(hb.block _ (aB h.1)).trans h.1,(hb.block _ (aB h.2.1)).trans h.2.1,aJ h.2.2 hb lz9⟩
theorem TwoA.set0{W V:World}{x:Bool×Bool}(h:TwoA W V x)(b:Bool):TwoA W (V.setCell ⟨W.heap.size+1+1,0,none⟩ (.bool b)) (b,x.2):=
 ⟨(((Fr.refl (fun k=>k=W.heap.size+1+1) V).setCell (p:=⟨W.heap.size+1+1,0,none⟩) rfl _).block _ (aB h.1) (by omega)).trans h.1,aN h.2.1 0 _,bB h.2.2 ((Fr.refl (fun k=>k=W.heap.size+1+1) V).setCell (p:=⟨W.heap.size+1+1,0,none⟩) rfl _) lz9 (fun k e=>by omega)⟩
theorem TwoA.set1{W V:World}{x:Bool×Bool}(h:TwoA W V x)(b:Bool):TwoA W (V.setCell ⟨W.heap.size+1+1,1,none⟩ (.bool b)) (x.1,b):=
 ⟨(((Fr.refl (fun k=>k=W.heap.size+1+1) V).setCell (p:=⟨W.heap.size+1+1,1,none⟩) rfl _).block _ (aB h.1) (by omega)).trans h.1,aN h.2.1 1 _,bB h.2.2 ((Fr.refl (fun k=>k=W.heap.size+1+1) V).setCell (p:=⟨W.heap.size+1+1,1,none⟩) rfl _) lz9 (fun k e=>by omega)⟩
theorem TwoA.end{W V:World}{x:Bool×Bool}(h:TwoA W V x):(bF V (W.heap.size+1) 0 [.bool x.1,.bool x.2]).heap[W.heap.size+1]?=some (.cells #[.bool x.1,.bool x.2] 69 (0,0))/\wBl W (bF V (W.heap.size+1) 0 [.bool x.1,.bool x.2]):=
 ⟨bA h.1 [.bool x.1,.bool x.2] rfl,bB h.2.2 (aY _ _ 0 V) lz9 (fun k e=>by omega)⟩
theorem aH6(c o:Bool):RuA (fun _=>True) (NP c o) bY9 cS c o:=by
 intro t xs g W v bp bb n base _ hnp hsz hnb hlen hgx hgg hown hp hm;obtain⟨qv,cv,rfl⟩:=aR hown;have HLEN:=aC hlen;have hxl:xs.length<=1000000:=by rw [hlen];exact hsz
 have hc:∀ (i:Nat) (x:Bool×Bool),xs[i]?=some x->∃ gb,qv=some (aDr gb 0)/\gb<W.heap.size/\W.cell? ⟨gb,i*2,none⟩=some (.bool x.1)/\W.cell? ⟨gb,i*2+1,none⟩=some (.bool x.2):=fun i x hx=>by
  have hi:=(m7.1 hx).1;obtain⟨gb,cb,e⟩:=aL hown (by omega);injection e with e1 e2 e3;subst e1 e3;have p1:=kK (fun x:Bool×Bool=>[Value.bool x.1,.bool x.2]) 2 (fun _=>rfl) xs i x hx 0 (by decide);have p2:=kK (fun x:Bool×Bool=>[Value.bool x.1,.bool x.2]) 2 (fun _=>rfl) xs i x hx 1 (by decide);exact⟨gb,rfl,(aF hown rfl).2.1,aM hown p1,aM hown p2⟩
 have HC:=aC hc;clear hown hnb hgx hgg hp hm hlen hc hsz;unfold cX;go_enter Tryz.func29,Tryz.ntmps29;go_upto_region 3 with fail
 have S0:Hid ((((W.alloc (.cells #[.I t.f.k,.I t.f.n,.I t.f.mn,.I t.f.mx,.slice t.f.rq t.f.rs.length t.f.rc,.slice t.f.kq t.f.kl t.f.kc,.bool c,.bool o,.slice qv xs.length cv,.func (.func 57) #[] #[bx bp]] 119)).alloc (.cells #[.bool false,.bool false] 69)).alloc (.cells #[.bool false,.bool false] 69)).heap[W.heap.size]?=some (.cells #[.I t.f.k,.I t.f.n,.I t.f.mn,.I t.f.mx,.slice t.f.rq t.f.rs.length t.f.rc,.slice t.f.kq t.f.kl t.f.kc,.bool c,.bool o,.slice qv xs.length cv,.func (.func 57) #[] #[bx bp]] 119 (0,0))):=(by(repeat (first | exact aK _ (by first | rfl | simp only [f4]) | rw [Below.heap_alloc _ _ _ (by first | omega |(simp only [f4];omega))])));have T0:Hid (TwoA W (((W.alloc (.cells #[.I t.f.k,.I t.f.n,.I t.f.mn,.I t.f.mx,.slice t.f.rq t.f.rs.length t.f.rc,.slice t.f.kq t.f.kl t.f.kc,.bool c,.bool o,.slice qv xs.length cv,.func (.func 57) #[] #[bx bp]] 119)).alloc (.cells #[.bool false,.bool false] 69)).alloc (.cells #[.bool false,.bool false] 69)) (false,false)):=⟨(Below.heap_alloc _ _ _ (by simp only [f4];omega)).trans (aK _ (by simp only [f4])),aK _ (by simp only [f4]),((bz9).alloc (by simp only [f4];omega) _).alloc (by simp only [f4];omega) _⟩;have l0:W.heap.size<(((W.alloc (.cells #[.I t.f.k,.I t.f.n,.I t.f.mn,.I t.f.mx,.slice t.f.rq t.f.rs.length t.f.rc,.slice t.f.kq t.f.kl t.f.kc,.bool c,.bool o,.slice qv xs.length cv,.func (.func 57) #[] #[bx bp]] 119)).alloc (.cells #[.bool false,.bool false] 69)).alloc (.cells #[.bool false,.bool false] 69)).heap.size:=by simp only [f4];omega
 have l1:W.heap.size+1<(((W.alloc (.cells #[.I t.f.k,.I t.f.n,.I t.f.mn,.I t.f.mx,.slice t.f.rq t.f.rs.length t.f.rc,.slice t.f.kq t.f.kl t.f.kc,.bool c,.bool o,.slice qv xs.length cv,.func (.func 57) #[] #[bx bp]] 119)).alloc (.cells #[.bool false,.bool false] 69)).alloc (.cells #[.bool false,.bool false] 69)).heap.size:=by simp only [f4];omega
 have l2:W.heap.size+1+1<(((W.alloc (.cells #[.I t.f.k,.I t.f.n,.I t.f.mn,.I t.f.mx,.slice t.f.rq t.f.rs.length t.f.rc,.slice t.f.kq t.f.kl t.f.kc,.bool c,.bool o,.slice qv xs.length cv,.func (.func 57) #[] #[bx bp]] 119)).alloc (.cells #[.bool false,.bool false] 69)).alloc (.cells #[.bool false,.bool false] 69)).heap.size:=by simp only [f4];omega
 generalize hW0:(((W.alloc (.cells #[.I t.f.k,.I t.f.n,.I t.f.mn,.I t.f.mx,.slice t.f.rq t.f.rs.length t.f.rc,.slice t.f.kq t.f.kl t.f.kc,.bool c,.bool o,.slice qv xs.length cv,.func (.func 57) #[] #[bx bp]] 119)).alloc (.cells #[.bool false,.bool false] 69)).alloc (.cells #[.bool false,.bool false] 69))=W0 at S0 T0 l0 l1 l2 ⊢;clear hW0;have s0:W0.cell? (aDr W.heap.size 0)=some (.I t.f.k):=aA S0.o (i:=0) rfl;have s1:W0.cell? (aDr W.heap.size 1)=some (.I t.f.n):=aA S0.o (i:=1) rfl;have s2:W0.cell? (aDr W.heap.size 2)=some (.I t.f.mn):=aA S0.o (i:=2) rfl;have s3:W0.cell? (aDr W.heap.size 3)=some (.I t.f.mx):=aA S0.o (i:=3) rfl;have s4:W0.cell? (aDr W.heap.size 4)=some (.slice t.f.rq t.f.rs.length t.f.rc):=aA S0.o (i:=4) rfl;have s5:W0.cell? (aDr W.heap.size 5)=some (.slice t.f.kq t.f.kl t.f.kc):=aA S0.o (i:=5) rfl;have s6:W0.cell? (aDr W.heap.size 6)=some (.bool c):=aA S0.o (i:=6) rfl;have s7:W0.cell? (aDr W.heap.size 7)=some (.bool o):=aA S0.o (i:=7) rfl;have s8:W0.cell? (aDr W.heap.size 8)=some (.slice qv xs.length cv):=aA S0.o (i:=8) rfl;have s9:W0.cell? (aDr W.heap.size 9)=some (.func (.func 57) #[] #[bx bp]):=aA S0.o (i:=9) rfl;rcases jP hnp with hk | hk | hk | hk | hk | hk | hk | hk | hk
 ·have hv:Hid (cS t.f t.ks xs g=(false,false)):=(by unfold cS;rw [hk];rfl);have e3:(t.f.k==3)=false:=by rw [hk];rfl
  have e4:(t.f.k==4)=false:=by rw [hk];rfl
  have e5:(t.f.k==5)=false:=by rw [hk];rfl
  have e6:(t.f.k==6)=false:=by rw [hk];rfl
  have e7:(t.f.k==7)=false:=by rw [hk];rfl
  have e9:(t.f.k==9)=false:=by rw [hk];rfl
  clear hk hnp;have z0:=aA T0.o.1 (i:=0) rfl;have z1:=aA T0.o.1 (i:=1) rfl;have y0:=aA T0.o.2.1 (i:=0) rfl;have y1:=aA T0.o.2.1 (i:=1) rfl;have fz:=fun z=>aG T0.o.1 z;have fy:=fun z=>aG T0.o.2.1 z;go_wp2;refine gD (b:=W.heap.size+1) (x:=(false,false)) T0.o.end.1 rfl rfl ?_;exact⟨by rw [hv.o],T0.o.end.2⟩
 ·have hv:Hid (cS t.f t.ks xs g=(false,false)):=(by unfold cS;rw [hk];rfl);have e3:(t.f.k==3)=false:=by rw [hk];rfl
  have e4:(t.f.k==4)=false:=by rw [hk];rfl
  have e5:(t.f.k==5)=false:=by rw [hk];rfl
  have e6:(t.f.k==6)=false:=by rw [hk];rfl
  have e7:(t.f.k==7)=false:=by rw [hk];rfl
  have e9:(t.f.k==9)=false:=by rw [hk];rfl
  clear hk hnp;have z0:=aA T0.o.1 (i:=0) rfl;have z1:=aA T0.o.1 (i:=1) rfl;have y0:=aA T0.o.2.1 (i:=0) rfl;have y1:=aA T0.o.2.1 (i:=1) rfl;have fz:=fun z=>aG T0.o.1 z;have fy:=fun z=>aG T0.o.2.1 z;go_wp2;refine gD (b:=W.heap.size+1) (x:=(false,false)) T0.o.end.1 rfl rfl ?_;exact⟨by rw [hv.o],T0.o.end.2⟩
 ·have hv:Hid (cS t.f t.ks xs g=(true,false)):=(by unfold cS;rw [hk];rfl);have e3:(t.f.k==3)=true:=by rw [hk];rfl
  have e4:(t.f.k==4)=false:=by rw [hk];rfl
  have e5:(t.f.k==5)=false:=by rw [hk];rfl
  have e6:(t.f.k==6)=false:=by rw [hk];rfl
  have e7:(t.f.k==7)=false:=by rw [hk];rfl
  have e9:(t.f.k==9)=false:=by rw [hk];rfl
  clear hk hnp;have z0:=aA T0.o.1 (i:=0) rfl;have z1:=aA T0.o.1 (i:=1) rfl;have y0:=aA T0.o.2.1 (i:=0) rfl;have y1:=aA T0.o.2.1 (i:=1) rfl;have fz:=fun z=>aG T0.o.1 z;have fy:=fun z=>aG T0.o.2.1 z;go_wp2;have T6:=T0.o.set0 true;refine gD (b:=W.heap.size+1) (x:=(true,false)) T6.end.1 rfl rfl ?_;exact⟨by rw [hv.o],T6.end.2⟩
 ·have hv:Hid (cS t.f t.ks xs g=(false,true)):=(by unfold cS;rw [hk];rfl);have e3:(t.f.k==3)=false:=by rw [hk];rfl
  have e4:(t.f.k==4)=true:=by rw [hk];rfl
  have e5:(t.f.k==5)=false:=by rw [hk];rfl
  have e6:(t.f.k==6)=false:=by rw [hk];rfl
  have e7:(t.f.k==7)=false:=by rw [hk];rfl
  have e9:(t.f.k==9)=false:=by rw [hk];rfl
  clear hk hnp;have z0:=aA T0.o.1 (i:=0) rfl;have z1:=aA T0.o.1 (i:=1) rfl;have y0:=aA T0.o.2.1 (i:=0) rfl;have y1:=aA T0.o.2.1 (i:=1) rfl;have fz:=fun z=>aG T0.o.1 z;have fy:=fun z=>aG T0.o.2.1 z;go_wp2;have T6:=T0.o.set1 true;refine gD (b:=W.heap.size+1) (x:=(false,true)) T6.end.1 rfl rfl ?_;exact⟨by rw [hv.o],T6.end.2⟩
 ·have hmany:=aK4 hnp (.inl hk);rw [<- HLEN.o] at hmany;obtain⟨⟨xa,xb⟩,hx⟩:∃ x,xs[0]?=some x:=⟨_,i9 (by omega)⟩;obtain⟨⟨ya,yb⟩,hy⟩:∃ x,xs[xs.length-1]?=some x:=⟨_,i9 (by omega)⟩;have hv:Hid (cS t.f t.ks xs g=(xa,yb)):=(by
   have a1:xs.headD (false,false)=(xa,xb):=by
    match xs,hx with
    | y :: ys,h=>simp at h;simp [h]
   have a2:xs.getLastD (false,false)=(ya,yb):=by
    rw [List.getLastD_eq_getLast?,List.getLast?_eq_getElem?,hy];rfl
   unfold cS;rw [hk,a1,a2]
   rfl)
  obtain⟨m,hml⟩:∃ m,xs.length=m+1:=⟨xs.length-1,by omega⟩;rw [hml] at hy hmany hxl;rw [hml] at s8 ⊢;obtain⟨gb,rfl,hg,c1,-⟩:=HC.o 0 _ hx;obtain⟨gb',egb,-,-,c2⟩:=HC.o m _ (by simpa using hy);injection egb with egb;injection egb with egb;subst egb;simp only [aBJ] at c1;have d1:=(T0.o.2.2.cell (p:=(aDr gb 0)) hg).trans c1;have d2:=(T0.o.2.2.cell (p:=⟨gb,m*2+1,none⟩) hg).trans c2;simp only at d1 d2;have hg0:gb<W0.heap.size:=n9 hg T0.o.2.2.size;have i1:IntKind.wrap .i64 ((m:Int)+1-1)=(m:Int):=by rw [IntKind.wrap_i64];omega
  have e3:(t.f.k==3)=false:=by rw [hk];rfl
  have e4:(t.f.k==4)=false:=by rw [hk];rfl
  have e5:(t.f.k==5)=true:=by rw [hk];rfl
  have e6:(t.f.k==6)=false:=by rw [hk];rfl
  have e7:(t.f.k==7)=false:=by rw [hk];rfl
  have e9:(t.f.k==9)=false:=by rw [hk];rfl
  clear hk hnp hx hy c1 c2 hml;go_wp2;refine aU (aAY _ _) (by kernel_rfl) (by kernel_rfl) (by kernel_rfl) ?_;dsimp only [List.dropLast,List.getLast]
  repeat (go_big_quiet_step (first | exact rfl))
  refine wpQuiet_nil ?_;intro w3 hw;have T3:Hid (TwoA W w3 (false,false)):=T0.o.kept (aP hw);clear hw s0 s1 s2 s3 s4 s5 s6 s7 s8 s9 d1 d2;have z0:=aA T3.o.1 (i:=0) rfl;have z1:=aA T3.o.1 (i:=1) rfl;have y0:=aA T3.o.2.1 (i:=0) rfl;have y1:=aA T3.o.2.1 (i:=1) rfl;have fz:=fun z=>aG T3.o.1 z;have fy:=fun z=>aG T3.o.2.1 z;go_wp2;have T6:=T3.o.put (xa,yb);refine gD (b:=W.heap.size+1) (x:=(xa,yb)) T6.end.1 rfl rfl ?_;exact⟨by rw [hv.o],T6.end.2⟩
 ·have hv:Hid (cS t.f t.ks xs g=(xs.all (·.1),xs.all (·.2))):=(by unfold cS;rw [hk];rfl);have e3:(t.f.k==3)=false:=by rw [hk];rfl
  have e4:(t.f.k==4)=false:=by rw [hk];rfl
  have e5:(t.f.k==5)=false:=by rw [hk];rfl
  have e6:(t.f.k==6)=true:=by rw [hk];rfl
  have e7:(t.f.k==7)=false:=by rw [hk];rfl
  have e9:(t.f.k==9)=false:=by rw [hk];rfl
  clear hk hnp;have TI:Hid (TwoA W (bF W0 (W.heap.size+1+1) 0 [.bool true,.bool true]) ((xs.take 0).all (·.1),(xs.take 0).all (·.2))):=T0.o.put (true,true);have SI:Hid ((bF W0 (W.heap.size+1+1) 0 [.bool true,.bool true]).heap[W.heap.size]?=W0.heap[W.heap.size]?):=(aY _ _ 0 W0).block _ l0 (by omega);have z0:=aA T0.o.1 (i:=0) rfl;have z1:=aA T0.o.1 (i:=1) rfl;have y0:=aA T0.o.2.1 (i:=0) rfl;have y1:=aA T0.o.2.1 (i:=1) rfl;have fz:=fun z=>aG T0.o.1 z;have fy:=fun z=>aG T0.o.2.1 z;go_upto_region 12 with fail
  clear z0 z1 y0 y1 fz fy;change Code.wp _ _ _ _ (bF W0 (W.heap.size+1+1) 0 [.bool true,.bool true]);generalize bF W0 (W.heap.size+1+1) 0 [.bool true,.bool true]=WI at TI SI ⊢;go_loopw [38] (fun i wr=>∃ j:Nat,j<=xs.length/\i=.I (j:Int)/\TwoA W wr ((xs.take j).all (·.1),(xs.take j).all (·.2))) (fun i _=>xs.length-(intOf i).toNat)
  case atStart=>exact⟨0,o9 _,rfl,TI.o⟩
  case round=>
   obtain⟨j,hj,rfl,ht⟩:=hrel;obtain⟨ya,hya⟩:∃ y,(xs.take j).all (·.1)=y:=⟨_,rfl⟩;obtain⟨yb,hyb⟩:∃ y,(xs.take j).all (·.2)=y:=⟨_,rfl⟩;rw [hya,hyb] at ht;have TT:=aC ht;have HY:=aC (And.intro hya hyb);clear ht hya hyb;by_cases hjl:j<xs.length
   ·obtain⟨⟨xa,xb⟩,hx⟩:∃ x,xs[j]?=some x:=⟨_,i9 hjl⟩;have FN:=aC (show ((xs.take (j+1)).all (·.1),(xs.take (j+1)).all (·.2))=(ya&&xa,yb&&xb) by rw [t7,hx,aAX,List.all_append,List.all_append,HY.o.1,HY.o.2];simp);have e1:(j:Int)<(xs.length:Int):=(by omega);obtain⟨gb,rfl,hg',c1,c2⟩:=HC.o j _ hx;have d1:=(TT.o.2.2.cell (p:=⟨gb,j*2,none⟩) hg').trans c1;have d2:=(TT.o.2.2.cell (p:=⟨gb,j*2+1,none⟩) hg').trans c2;simp only at d1 d2;have T1:Hid (TwoA W (wr.alloc (.cells #[.bool xa,.bool xb] 69)) (ya,yb)):=TT.o.kept (bz9);have k0:(wr.alloc (.cells #[.bool xa,.bool xb] 69)).cell? (aDr wr.heap.size 0)=some (.bool xa):=aA (aE wr _) (i:=0) rfl;have k1:(wr.alloc (.cells #[.bool xa,.bool xb] 69)).cell? (aDr wr.heap.size 1)=some (.bool xb):=aA (aE wr _) (i:=1) rfl;clear c1 c2 hx;go_upto_region 14 with fail
    generalize hW1:wr.alloc (.cells #[.bool xa,.bool xb] 69)=W1 at T1 k0 k1 ⊢;clear hW1 d1 d2
    cases ya with
    | true=>
     cases yb with
     | true=>
      have y0:=aA T1.o.2.1 (i:=0) rfl;have y1:=aA T1.o.2.1 (i:=1) rfl;have fy:=fun z=>aG T1.o.2.1 z;go_wp2;go_roundw
      case rel=>exact⟨j+1,by omega,by go_num,by rw [FN.o];exact T1.o.put (xa,xb)⟩
      case measure=>simp only [intOf];omega
     | false=>
      have y0:=aA T1.o.2.1 (i:=0) rfl;have y1:=aA T1.o.2.1 (i:=1) rfl;have fy:=fun z=>aG T1.o.2.1 z;go_wp2;go_roundw
      case rel=>exact⟨j+1,by omega,by go_num,by rw [FN.o];exact T1.o.put (xa,false)⟩
      case measure=>simp only [intOf];omega
    | false=>
     cases yb with
     | true=>
      have y0:=aA T1.o.2.1 (i:=0) rfl;have y1:=aA T1.o.2.1 (i:=1) rfl;have fy:=fun z=>aG T1.o.2.1 z;go_wp2;go_roundw
      case rel=>exact⟨j+1,by omega,by go_num,by rw [FN.o];exact T1.o.put (false,xb)⟩
      case measure=>simp only [intOf];omega
     | false=>
      have y0:=aA T1.o.2.1 (i:=0) rfl;have y1:=aA T1.o.2.1 (i:=1) rfl;have fy:=fun z=>aG T1.o.2.1 z;go_wp2;go_roundw
      case rel=>exact⟨j+1,by omega,by go_num,by rw [FN.o];exact T1.o.put (false,false)⟩
      case measure=>simp only [intOf];omega
   ·have e1:¬ (j:Int)<(xs.length:Int):=by omega
    rw [n8 (by omega)] at HY;rw [HY.o.1,HY.o.2] at hv;have z0:=aA TT.o.1 (i:=0) rfl;have z1:=aA TT.o.1 (i:=1) rfl;have y0:=aA TT.o.2.1 (i:=0) rfl;have y1:=aA TT.o.2.1 (i:=1) rfl;have fz:=fun z=>aG TT.o.1 z;have fy:=fun z=>aG TT.o.2.1 z;go_wp2;refine gD (b:=W.heap.size+1) (x:=(ya,yb)) TT.o.end.1 rfl rfl ?_;exact⟨by rw [hv.o],TT.o.end.2⟩
 ·obtain⟨x,rfl⟩:∃ x,xs=[x]:=by
   have:=gR hnp (.inl hk)
   match xs,HLEN.o with
   | [x],_=>exact⟨x,rfl⟩
   | [],e=>rw [this] at e;simp at e
   | _ :: _ :: _,e=>rw [this] at e;simp at e
  obtain⟨gb,rfl,hg,c1,c2⟩:=HC.o 0 x rfl;simp only [aBJ,m9] at c1 c2;have d1:=(T0.o.2.2.cell (p:=(aDr gb 0)) hg).trans c1;have d2:=(T0.o.2.2.cell (p:=(aDr gb 1)) hg).trans c2;have hg0:gb<W0.heap.size:=n9 hg T0.o.2.2.size;have ng1:gb≠W.heap.size+1:=by omega
  have ng2:gb≠W.heap.size+1+1:=by omega
  simp only [o5,List.length_nil,m9] at s8 ⊢;obtain⟨xa,xb⟩:=x;simp only at d1 d2;have hv:Hid (cS t.f t.ks [(xa,xb)] g=(xa,xb)):=(by unfold cS;rw [hk];rfl);have e3:(t.f.k==3)=false:=by rw [hk];rfl
  have e4:(t.f.k==4)=false:=by rw [hk];rfl
  have e5:(t.f.k==5)=false:=by rw [hk];rfl
  have e6:(t.f.k==6)=false:=by rw [hk];rfl
  have e7:(t.f.k==7)=true:=by rw [hk];rfl
  have e9:(t.f.k==9)=false:=by rw [hk];rfl
  clear hk hnp;have z0:=aA T0.o.1 (i:=0) rfl;have z1:=aA T0.o.1 (i:=1) rfl;have y0:=aA T0.o.2.1 (i:=0) rfl;have y1:=aA T0.o.2.1 (i:=1) rfl;have fz:=fun z=>aG T0.o.1 z;have fy:=fun z=>aG T0.o.2.1 z;go_wp2;have T6:=T0.o.put (xa,xb);refine gD (b:=W.heap.size+1) (x:=(xa,xb)) T6.end.1 rfl rfl ?_;exact⟨by rw [hv.o],T6.end.2⟩
 ·have hv:Hid (cS t.f t.ks xs g=(false,false)):=(by unfold cS;rw [hk];rfl);have e3:(t.f.k==3)=false:=by rw [hk];rfl
  have e4:(t.f.k==4)=false:=by rw [hk];rfl
  have e5:(t.f.k==5)=false:=by rw [hk];rfl
  have e6:(t.f.k==6)=false:=by rw [hk];rfl
  have e7:(t.f.k==7)=false:=by rw [hk];rfl
  have e9:(t.f.k==9)=false:=by rw [hk];rfl
  clear hk hnp;have z0:=aA T0.o.1 (i:=0) rfl;have z1:=aA T0.o.1 (i:=1) rfl;have y0:=aA T0.o.2.1 (i:=0) rfl;have y1:=aA T0.o.2.1 (i:=1) rfl;have fz:=fun z=>aG T0.o.1 z;have fy:=fun z=>aG T0.o.2.1 z;go_wp2;refine gD (b:=W.heap.size+1) (x:=(false,false)) T0.o.end.1 rfl rfl ?_;exact⟨by rw [hv.o],T0.o.end.2⟩
 ·obtain⟨x,rfl⟩:∃ x,xs=[x]:=by
   have:=gR hnp (.inr hk)
   match xs,HLEN.o with
   | [x],_=>exact⟨x,rfl⟩
   | [],e=>rw [this] at e;simp at e
   | _ :: _ :: _,e=>rw [this] at e;simp at e
  obtain⟨gb,rfl,hg,c1,c2⟩:=HC.o 0 x rfl;simp only [aBJ,m9] at c1 c2;have d1:=(T0.o.2.2.cell (p:=(aDr gb 0)) hg).trans c1;have d2:=(T0.o.2.2.cell (p:=(aDr gb 1)) hg).trans c2;have hg0:gb<W0.heap.size:=n9 hg T0.o.2.2.size;have ng1:gb≠W.heap.size+1:=by omega
  have ng2:gb≠W.heap.size+1+1:=by omega
  simp only [o5,List.length_nil,m9] at s8 ⊢;obtain⟨xa,xb⟩:=x;simp only at d1 d2;have e3:(t.f.k==3)=false:=by rw [hk];rfl
  have e4:(t.f.k==4)=false:=by rw [hk];rfl
  have e5:(t.f.k==5)=false:=by rw [hk];rfl
  have e6:(t.f.k==6)=false:=by rw [hk];rfl
  have e7:(t.f.k==7)=false:=by rw [hk];rfl
  have e9:(t.f.k==9)=true:=by rw [hk];rfl
  have z0:=aA T0.o.1 (i:=0) rfl;have z1:=aA T0.o.1 (i:=1) rfl;have y0:=aA T0.o.2.1 (i:=0) rfl;have y1:=aA T0.o.2.1 (i:=1) rfl;have fz:=fun z=>aG T0.o.1 z;have fy:=fun z=>aG T0.o.2.1 z;by_cases hm:0<t.f.mn
  ·have hv:=aC (show cS t.f t.ks [(xa,xb)] g=(xa,xb) by unfold cS;rw [hk];simp [hm]);clear hk hnp;go_wp2;have T6:=T0.o.put (xa,xb);refine gD (b:=W.heap.size+1) (x:=(xa,xb)) T6.end.1 rfl rfl ?_;exact⟨by rw [hv.o],T6.end.2⟩
  ·have hv:=aC (show cS t.f t.ks [(xa,xb)] g=(false,false) by unfold cS;rw [hk];simp [hm]);clear hk hnp;go_wp2;refine gD (b:=W.heap.size+1) (x:=(false,false)) T0.o.end.1 rfl rfl ?_;exact⟨by rw [hv.o],T0.o.end.2⟩
end
section
attribute [local go_sem] Oper.semAt_some
def fb(x:Int):Int:=if x<128 then x else if x<2048 then 192+x/64 else if x<65536 then 224+x/4096 else 240+x/262144
theorem dE(x:Int):isC x=true↔0<=x/\x<=1114111/\(x<55296\/57343<x):=by simp [isC]
theorem pD{x y:Int}(h0:0<=x)(h:x<=y)(h1:y<=1114111):fb x<=fb y:=by
 unfold fb
 split <;> split <;> (try split) <;> (try split) <;> (try split) <;> omega
theorem pC{x:Int}(h:isC x=true):(0<=fb x/\fb x<128)\/(194<=fb x/\fb x<=244):=by
 rw [dE] at h;unfold fb
 split
 ·omega
 ·split
  ·omega
  ·split <;> omega
theorem bV4{lo hi v:Int}(h1:isC lo=true)(h2:isC hi=true)(hl:lo<=hi)(a:fb lo<=v)(b:v<=fb hi)(hv:v<128\/194<=v):∃ x,lo<=x/\x<=hi/\isC x=true/\fb x=v:=by
 by_cases e1:v=fb lo
 ·exact⟨lo,aAH _,hl,h1,e1.symm⟩
 by_cases e2:v=fb hi
 ·exact⟨hi,hl,aAH _,h2,e2.symm⟩
 have r1:=pC h1;have r2:=pC h2;have c1:=(dE lo).1 h1;have c2:=(dE hi).1 h2;have key:∀ x,isC x=true->fb x=v->∃ x,lo<=x/\x<=hi/\isC x=true/\fb x=v:=fun x hx he=>by
  have cx:=(dE x).1 hx;refine⟨x,?_,?_,hx,he⟩
  ·rcases Int.lt_or_le x lo with q | q
   ·have:=pD cx.1 (Int.le_of_lt q) (by omega);omega
   ·exact q
  ·rcases Int.lt_or_le hi x with q | q
   ·have:=pD c2.1 (Int.le_of_lt q) cx.2.1;omega
   ·exact q
 rcases hv with hv | hv
 ·exact key v ((dE v).2 (by omega)) (by unfold fb;rw [if_pos hv])
 ·by_cases k1:v<224
  ·exact key ((v-192)*64) ((dE _).2 (by omega)) (by unfold fb;rw [if_neg (by omega),if_pos (by omega)];omega)
  by_cases k2:v=224
  ·exact key 2048 (by decide) (by rw [k2];decide)
  by_cases k3:v<240
  ·exact key ((v-224)*4096) ((dE _).2 (by omega)) (by unfold fb;rw [if_neg (by omega),if_neg (by omega),if_pos (by omega)];omega)
  by_cases k4:v=240
  ·exact key 65536 (by decide) (by rw [k4];decide)
  ·exact key ((v-240)*262144) ((dE _).2 (by omega)) (by unfold fb;rw [if_neg (by omega),if_neg (by omega),if_neg (by omega)];omega)
theorem xQ{n a b:Nat}(h:z5_InS n a b):(eU n a 0:Int)=fb a/\(eU n b 0:Int)=fb b/\isC (a:Int)=true/\isC (b:Int)=true/\a<=b/\(fb a<128/\fb b<128\/194<=fb a):=by
 obtain⟨x,y,hs,h1,h2,h3⟩:=h;rw [dE,dE];unfold eU fb;rcases hs with⟨rfl,rfl,rfl⟩ | ⟨rfl,rfl,rfl⟩ | ⟨rfl,rfl,rfl⟩ | ⟨rfl,rfl,rfl⟩ | ⟨rfl,rfl,rfl⟩
 ·refine⟨?_,?_,by omega,by omega,h2,?_⟩
  ·rw [if_pos rfl,if_pos (by omega)]
  ·rw [if_pos rfl,if_pos (by omega)]
  ·rw [if_pos (by omega),if_pos (by omega)];omega
 ·refine⟨?_,?_,by omega,by omega,h2,?_⟩
  ·rw [if_neg (by omega),if_pos rfl,if_pos rfl,if_neg (by omega),if_pos (by omega)];omega
  ·rw [if_neg (by omega),if_pos rfl,if_pos rfl,if_neg (by omega),if_pos (by omega)];omega
  ·rw [if_neg (by omega),if_pos (by omega)];omega
 ·refine⟨?_,?_,by omega,by omega,h2,?_⟩
  ·rw [if_neg (by omega),if_neg (by omega),if_pos rfl,if_pos rfl,if_neg (by omega),if_neg (by omega),if_pos (by omega)];omega
  ·rw [if_neg (by omega),if_neg (by omega),if_pos rfl,if_pos rfl,if_neg (by omega),if_neg (by omega),if_pos (by omega)];omega
  ·rw [if_neg (by omega),if_neg (by omega),if_pos (by omega)];omega
 ·refine⟨?_,?_,by omega,by omega,h2,?_⟩
  ·rw [if_neg (by omega),if_neg (by omega),if_pos rfl,if_pos rfl,if_neg (by omega),if_neg (by omega),if_pos (by omega)];omega
  ·rw [if_neg (by omega),if_neg (by omega),if_pos rfl,if_pos rfl,if_neg (by omega),if_neg (by omega),if_pos (by omega)];omega
  ·rw [if_neg (by omega),if_neg (by omega),if_pos (by omega)];omega
 ·refine⟨?_,?_,by omega,by omega,h2,?_⟩
  ·rw [if_neg (by omega),if_neg (by omega),if_neg (by omega),if_pos rfl,if_neg (by omega),if_neg (by omega),if_neg (by omega)];omega
  ·rw [if_neg (by omega),if_neg (by omega),if_neg (by omega),if_pos rfl,if_neg (by omega),if_neg (by omega),if_neg (by omega)];omega
  ·rw [if_neg (by omega),if_neg (by omega),if_neg (by omega)];omega
def kF(r:eG):Int×Int:=((eU r.n r.a 0:Int),(eU r.n r.b 0:Int))
theorem tG{c:Nat}{R:List eG}:eT c R=0 ↔ ∀ r∈R,¬ (r.a<=c/\c<=r.b):=by
 unfold eT;rw [List.countP_eq_zero];simp
theorem aD8{lo hi:Int}{R:List eG}(h:aH8 lo hi R)(h0:isC lo=true)(h1:isC hi=true)(v:Int):In (R.map kF) v ↔ ∃ x,lo<=x/\x<=hi/\isC x=true/\fb x=v:=by
 have c1:=(dE lo).1 h0;have c2:=(dE hi).1 h1;have inn:∀ r∈R,lo<=(r.a:Int)/\(r.b:Int)<=hi:=fun r hr=>by
  obtain⟨-,-,ka,kb,kab,-⟩:=xQ (h.pc r hr).1;have q1:=h.cn r.a ka;have q2:=h.cn r.b kb;have z1:eT r.a R≠0:=fun e=>tG.1 e r hr ⟨t9 _,kab⟩;have z2:eT r.b R≠0:=fun e=>tG.1 e r hr ⟨kab,t9 _⟩;constructor
  ·by_cases e:lo<=(r.a:Int)/\(r.a:Int)<=hi
   ·exact e.1
   ·rw [if_neg e] at q1;exact absurd q1 z1
  ·by_cases e:lo<=(r.b:Int)/\(r.b:Int)<=hi
   ·exact e.2
   ·rw [if_neg e] at q2;exact absurd q2 z2
 constructor
 ·rintro ⟨p,hp,a,b⟩;obtain⟨r,hr,rfl⟩:=aAI.1 hp;obtain⟨e1,e2,ka,kb,kab,kr⟩:=xQ (h.pc r hr).1;simp only [kF] at a b;rw [e1] at a;rw [e2] at b;obtain⟨x,x1,x2,x3,x4⟩:=bV4 ka kb (by omega) a b (by omega);have:=inn r hr;exact⟨x,by omega,by omega,x3,x4⟩
 ·rintro ⟨x,x1,x2,x3,rfl⟩;have cx:=(dE x).1 x3;obtain⟨c,rfl⟩:=Int.eq_ofNat_of_zero_le cx.1;have q:=h.cn c x3;rw [if_pos ⟨x1,x2⟩] at q;have:¬ ∀ r∈R,¬ (r.a<=c/\c<=r.b):=fun e=>by rw [tG.2 e] at q;cases q
  simp only [Classical.not_forall,Classical.not_not] at this;obtain⟨r,hr,k1,k2⟩:=this;obtain⟨e1,e2,ka,kb,kab,kr⟩:=xQ (h.pc r hr).1;have cb:=(dE _).1 kb;exact⟨kF r,aAI.2 ⟨r,hr,rfl⟩,by simp only [kF];rw [e1];exact pD (by omega) (by omega) cx.2.1,by simp only [kF];rw [e2];exact pD cx.1 (by omega) cb.2.1⟩
theorem bJ7{r:eG}(h:dG r.n r.a r.b):0<=(kF r).1/\(kF r).1<=(kF r).2/\(kF r).2<=255:=by
 obtain⟨e1,e2,ka,kb,kab,-⟩:=xQ h.1;have r1:=pC ka;have r2:=pC kb;have ca:=(dE _).1 ka;have cb:=(dE _).1 kb;have:=pD (x:=(r.a:Int)) (y:=(r.b:Int)) ca.1 (by omega) cb.2.1;simp only [kF];omega
structure Fst(L F:lIi):Prop where
 ok:∀ p∈F,0<=p.1/\p.1<=p.2/\p.2<=255
 mem:∀ v,In F v ↔ ∃ x,In L x/\isC x=true/\fb x=v
theorem Fst.nil:Fst [] []:=⟨fun p hp=>(by cases hp),fun v=>⟨fun h=>absurd h (gT v),fun⟨x,h,_⟩=>absurd h (gT x)⟩⟩
theorem Fst.snoc{L F:lIi}{r:Int×Int}{R:List eG}(h:Fst L F)(hq:aH8 r.1 r.2 R)(h0:isC r.1=true)(h1:isC r.2=true):Fst (L++[r]) (F++R.map kF):=by
 refine⟨fun p hp=>?_,fun v=>?_⟩
 ·rcases o3.1 hp with e | e
  ·exact h.ok p e
  ·obtain⟨q,hq',rfl⟩:=aAI.1 e;exact bJ7 (hq.pc q hq')
 ·rw [bZ,h.mem,aD8 hq h0 h1];constructor
  ·rintro (⟨x,a,b,c⟩ | ⟨x,a,b,c,d⟩)
   ·exact⟨x,(bZ ..).2 (.inl a),b,c⟩
   ·exact⟨x,(bZ ..).2 (.inr ((eD ..).2 ⟨a,b⟩)),c,d⟩
  ·rintro ⟨x,a,b,c⟩;rcases (bZ ..).1 a with e | e
   ·exact .inl ⟨x,e,b,c⟩
   ·have:=(eD ..).1 e;exact .inr ⟨x,this.1,this.2,b,c⟩
theorem Fr.grownOr{S:Nat->Prop}{a w w':World}{row:Option Nat}(h:Fr S a w)(hg:w.grownBy w' row)(hr:∀ k,row=some k->S k\/a.heap.size<=k):Fr S a w':=
 ⟨hg.os.trans h.os,hg.tape.trans h.tape,hg.output.trans h.output,m8 h.size hg.size,fun k hk hs=>(hg.block k (n9 hk h.size) (fun e=>by rcases hr k e.symm with q | q;exact hs q;omega)).trans (h.block k hk hs)⟩
theorem aA6(L:lIi)(r:Int×Int):aT (L++[r])=aT L++[.I r.1,.I r.2]:=by simp [aT]
end
section
attribute [local go_sem] Oper.semAt_some
def bW7(w:World)(L:lIi)(e:Ending)(w':World):Prop:=∃ v F,e=.returned v/\RR w.heap.size w' v F/\Fst L F/\F.length<=30*L.length/\wBl w w'
theorem aR4{w:World}{q:Option Addr}{k:Nat}{L:lIi}(h:ArgR w (.slice q L.length k) L)(hc:∀ r∈L,isC r.1=true/\isC r.2=true/\r.1<=r.2)(hS:z5_Spans w)(h0:0<w.heap.size)(hl:L.length<=600000) :
  Calls Tryz.prog 90 #[.slice q L.length k] w (bW7 w L):=by
 obtain⟨t0,ti,hz0,hz1,hz2⟩:=aV dB;have TI:Hid (Tryz.prog.info? 92=some t0/\t0.zero=some (.agg #[.I 0,.I 0])/\t0.size=2/\t0.bytes=16):=⟨ti,hz0,hz1,hz2⟩;obtain⟨q',k',e,h1,h2,h3⟩:=h.slice;injection e with e1 _ e3;subst e1 e3;have H3:=aC h3;have h9:L.length<=9223372036854775807:=h1;have HC:=aC hc;have HS:=aC hS;clear h3 h h1 hc hS ti hz0 hz1 hz2;go_enter Tryz.func90,Tryz.ntmps90;go_wp2;go_loopw [3,12] (fun v i wr=>∃ (j:Nat) (F:lIi),j<=L.length/\i=.I (j:Int)/\RR w.heap.size wr v F/\Fst (L.take j) F/\F.length<=30*j/\wBl w wr) (fun _ i _=>L.length-(intOf i).toNat)
 case atStart=>exact⟨0,[],o9 _,rfl,RR.nil _ _,Fst.nil,t9 _,Below.refl _ _⟩
 case round=>
  obtain⟨j,F,hj,rfl,hrr,hf,hfl,hb⟩:=hrel;obtain⟨qv,cv,rfl⟩:=hrr.shape;have RO:=aC hrr;have HF:=aC hf;have HB:=aC hb;clear hrr hf hb;by_cases hjl:j<L.length
  ·obtain⟨⟨lo,hi⟩,hr⟩:∃ r,L[j]?=some r:=⟨_,i9 hjl⟩;obtain⟨g,off,rfl,hg,c1,c2⟩:=H3.o j _ hr;have e1:(j:Int)<(L.length:Int):=(by omega);have c3:=(HB.o.cell (p:=⟨g,off+2*j,none⟩) hg).trans c1;have c4:=(HB.o.cell (p:=⟨g,off+2*j+1,none⟩) hg).trans c2;rw [aAU] at c3 c4;simp only at c3 c4;obtain⟨k1,k2,k3⟩:=HC.o _ (n7 hr);simp only at k1 k2 k3;have ci1:=(dE lo).1 k1;have ci2:=(dE hi).1 k2;have HT:Hid (L.take (j+1)=L.take j++[(lo,hi)]):=(by rw [t7,hr];rfl);have B1:Hid (wBl w (wr.alloc (.cells #[.I lo,.I hi] 92))):=HB.o.alloc HB.o.size _;have HRW:=aC (aN4 lo hi (wr.alloc (.cells #[.I lo,.I hi] 92)) (HS.o.below B1.o h0) ci1.1 k3 ci2.2.1);have KK:=aC (And.intro k1 k2);clear c1 c2 hr k1 k2 ci1 ci2;go_upto_region 7 with (go_at_call 112;refine HRW.o.mono ?_;rintro e w5 ⟨v5,R,rfl,h51,h52,h53⟩;obtain⟨q5,cv5,e5⟩:=aR h51.own;subst e5;have A5:=aC h51;have Q5:=aC h52;have B5:=aC h53;clear h51 h52 h53)
   have BW:Hid (wBl w w5):=aJ B1.o B5.o lz9;have R5:Hid (RR w.heap.size w5 (.slice qv F.length cv) F):=(RO.o.kept (bz9)).kept B5.o;have SB:Hid (∀ k,(Value.slice qv F.length cv).ownBlock=some k->w.heap.size<=k/\k<wr.heap.size):=fun k e=>⟨(aF RO.o e).1,(aF RO.o e).2.1⟩;have NS:Hid (∀ r∈R,¬ (Value.slice qv F.length cv).ownBlock=some r.g):=fun r hr e=>by
    have h1:=(A5.o.row r hr).lo;have h2:=(SB.o _ e).2;rw [f4] at h1;omega
   have NR:Hid (∀ k,(Value.slice q5 R.length cv5).ownBlock=some k->¬ (Value.slice qv F.length cv).ownBlock=some k):=fun k e z=>by
    obtain⟨-,-,cur,hc⟩:=aF A5.o.own e;exact aO R5.o hc (by decide) z
   have hrl:R.length<=30:=Q5.o.ln;have hfl2:F.length<=18000000:=(by omega);clear RO HB B1 HRW B5 c3 c4;go_loopw [3,26] (fun v i wx=>∃ m:Nat,m<=R.length/\i=.I (m:Int)/\RR w.heap.size wx v (F++(R.take m).map kF)/\Fr (fun k=>(Value.slice qv F.length cv).ownBlock=some k) w5 wx/\∀ k,v.ownBlock=some k->(Value.slice qv F.length cv).ownBlock=some k\/w5.heap.size<=k) (fun _ i _=>R.length-(intOf i).toNat)
   case atStart=>exact⟨0,o9 _,rfl,by simpa using R5.o,Fr.refl _ _,fun k e=>.inl e⟩
   case round=>
    obtain⟨m,hm,rfl,hrr,hfr,hob⟩:=hrel;obtain⟨O,hO⟩:∃ O,F++(R.take m).map kF=O:=⟨_,rfl⟩;have EO:=aC hO;have hol:O.length<=18000030:=(by rw [<- hO,o4,aAE,aAA];omega);rw [hO] at hrr;obtain⟨qx,cx,rfl⟩:=hrr.shape;have RX:=aC hrr;have FX:=aC hfr;have OB:=aC hob;clear hrr hfr hob hO;by_cases hml:m<R.length
    ·obtain⟨r,hr⟩:∃ r,R[m]?=some r:=⟨_,i9 hml⟩;have hin:r∈R:=n7 hr;have e2:(m:Int)<(R.length:Int):=(by omega);obtain⟨g5,cb,e⟩:=aL A5.o.own (by omega);injection e with e1' e2' e3';subst e1' e3';have d1:wr.cell? (aDr g5 m)=some (.slice (some ⟨r.g,0,none⟩) r.n r.n):=aM (aH A5.o.own FX.o (fun k e z=>NR.o k e z)) (by simp [hr,xX]);obtain⟨cs,hcs,hsz,hcell⟩:=(A5.o.row r hin).blk;have hn1:=(Q5.o.pc r hin).1.n;obtain⟨x1,x2⟩:=hcell 0 (by omega);have hcs2:=(FX.o.block _ (aB hcs) (NS.o r hin)).trans hcs;have d2:wr.cell? ⟨r.g,0,none⟩=some (.I (kF r).1):=aA hcs2 x1;have d3:wr.cell? ⟨r.g,1,none⟩=some (.I (kF r).2):=aA hcs2 x2;have TN:=aC (show F++(R.take (m+1)).map kF=O++[kF r] by rw [t7,hr,aAX,aBS,<- aAM,EO.o];rfl);have i3:(0:Int)<(r.n:Int):=(by omega);obtain⟨p1,p2⟩:∃ p,kF r=p:=⟨_,rfl⟩;rw [p2] at d2 d3 TN;obtain⟨pa,pb⟩:=p1;simp only at d2 d3;clear hcs hcs2 hsz hcell x1 x2 hr hin e2' p2;have RA6:Hid ((wr.alloc (.cells #[.I pa,.I pb] 92)).ownsRow w.heap.size 92 2 (.slice qx O.length cx) O.length (aT O)):=o8 RX.o _;have SZ:Hid (w.heap.size<=(wr.alloc (.cells #[.I pa,.I pb] 92)).heap.size):=m8 BW.o.size (m8 FX.o.size (by rw [f4];omega));go_wp2_with (at_builtin;refine wpList_append_own_at _ rfl _ _ 22 rfl w.heap.size 92 t0 (.agg #[.I 0,.I 0]) 2 16 bG TI.o.1 TI.o.2.1 TI.o.2.2.1 TI.o.2.2.2 rfl (by decide) (.slice qx O.length cx) O.length (aT O) rfl RA6.o (aDr wr.heap.size 0) 1 1 [.I pa,.I pb] rfl rfl (bI _ [_,_] _) (by simp [Value.oneCell']) (by unfold maxLen;omega) (by omega) SZ.o ?_;intro v' w6 hown' hgrow _ hblk;obtain⟨g6,cap6,e6⟩:=aL hown' (aAL _);subst e6;have O6:=aC hown';have G6:=aC hgrow;have K6:=aC hblk;clear hown' hgrow hblk)
     go_roundw
     case rel=>
      refine⟨m+1,by omega,by go_num,?_,(FX.o.alloc _).grownOr G6.o (fun k e=>OB.o k e),fun k e=>?_⟩
      ·rw [TN.o];have:=O6.o;rw [<- aA6 O (pa,pb)] at this;unfold RR;rw [o4];exact this
      ·rcases K6.o with q | q
       ·exact OB.o k (q ▸ e)
       ·rw [q] at e;injection e with e;have:=FX.o.size;exact .inr (by rw [<- e,f4];omega)
     case measure=>simp only [intOf];omega
    ·have e2:¬ (m:Int)<(R.length:Int):=by omega
     have EE:=aC (show F++R.map kF=O by rw [<- EO.o,n8 (by omega)]);go_wp2;go_roundw
     case rel=>
      refine⟨j+1,O,by omega,by go_num,RX.o,?_,?_,bB BW.o FX.o lz9 (fun k e=>(SB.o k e).1)⟩
      ·rw [HT.o,<- EE.o];exact HF.o.snoc Q5.o KK.o.1 KK.o.2
      ·rw [<- EE.o,o4,aAE];omega
     case measure=>simp only [intOf];omega
  ·have e1:¬ (j:Int)<(L.length:Int):=by omega
   rw [n8 (by omega)] at HF;go_wp2;go_ret;exact⟨_,F,rfl,RO.o,HF.o,by omega,HB.o⟩
end
end Go.Proofs.YtdgfpiekjigfnaaGreatDoor
