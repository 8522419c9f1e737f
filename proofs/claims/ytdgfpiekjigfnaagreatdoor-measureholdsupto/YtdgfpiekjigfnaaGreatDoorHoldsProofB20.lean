/-
  Parts of the proof.
-/
import Derived.Test.YtdgfpiekjigfnaaGreatDoorHoldsProofA0
import Derived.Test.YtdgfpiekjigfnaaGreatDoorHoldsProofB17
import Derived.Test.YtdgfpiekjigfnaaGreatDoorHoldsProofB19
import Derived.Test.YtdgfpiekjigfnaaGreatDoorHoldsProofB2
import Derived.Test.YtdgfpiekjigfnaaGreatDoorHoldsProofB5
import Derived.Test.YtdgfpiekjigfnaaGreatDoorHoldsProofB16
import Derived.Test.YtdgfpiekjigfnaaGreatDoorHoldsProofB3
set_option maxRecDepth 100000
set_option maxHeartbeats 8000000
namespace Go.Proofs.YtdgfpiekjigfnaaGreatDoor
open Go Go.RowKit
section
attribute [local go_sem] Oper.semAt_some aS
def bY9(_:Bool × Bool):Prop:=True
def cS:dJ (Bool × Bool):=fun f _ xs _=>
 if f.k=3 then (true,false) else if f.k=4 then (false,true) else if f.k=5 then ((xs.headD (false,false)).1,(xs.getLastD (false,false)).2) else if f.k=6 then (xs.all (·.1),xs.all (·.2))
 else if f.k=7 then xs.headD (false,false) else if f.k=9 then (if 0 < f.mn then xs.headD (false,false) else (false,false)) else (false,false)
theorem aE7:tU cS:=fun _ _ _ _ _ _=>rfl
theorem gD{R:Ending->World->Prop}{a:Act}{W:World}{b:Nat}{x:Bool × Bool}(h:W.heap[b]?=some (.cells #[.bool x.1,.bool x.2] 69 (0,0)))(ha:a.tmps[2]?.getD undef=.pointer (some ⟨b,0,none⟩))(hd:a.defers=[])(hR:R (.returned (enA x)) W):bodyPost Tryz.prog Tryz.f29 R .ret a W:=by
 refine bodyPost_ret (v:=enA x) ?_ hd hR;have z0:=aA h (i:=0) rfl;have z1:=aA h (i:=1) rfl;simp [results,Tryz.results29,go_sem,ha,enA,z0,z1]
def TwoA(W V:World)(x:Bool × Bool):Prop:=V.heap[W.heap.size+1]?=some (.cells #[.bool false,.bool false] 69 (0,0))/\V.heap[W.heap.size+1+1]?=some (.cells #[.bool x.1,.bool x.2] 69 (0,0))/\wBl W V
theorem TwoA.put{W V:World}{x:Bool × Bool}(h:TwoA W V x)(y:Bool × Bool):TwoA W (bF V (W.heap.size+1+1) 0 [.bool y.1,.bool y.2]) y:=
 ⟨((aY _ _ 0 V).block _ (aB h.1) (by omega)).trans h.1,bA h.2.1 [.bool y.1,.bool y.2] rfl,bB h.2.2 (aY _ _ 0 V) lz9 (fun k e=>by omega)⟩
theorem TwoA.kept{W V V':World}{x:Bool × Bool}(h:TwoA W V x)(hb:wBl V V'):TwoA W V' x:=
 ⟨(hb.block _ (aB h.1)).trans h.1,(hb.block _ (aB h.2.1)).trans h.2.1,aJ h.2.2 hb lz9⟩
theorem TwoA.set0{W V:World}{x:Bool × Bool}(h:TwoA W V x)(b:Bool):TwoA W (V.setCell ⟨W.heap.size+1+1,0,none⟩ (.bool b)) (b,x.2):=
 ⟨(((Fr.refl (fun k=>k=W.heap.size+1+1) V).setCell (p:=⟨W.heap.size+1+1,0,none⟩) rfl _).block _ (aB h.1) (by omega)).trans h.1,aN h.2.1 0 _,bB h.2.2 ((Fr.refl (fun k=>k=W.heap.size+1+1) V).setCell (p:=⟨W.heap.size+1+1,0,none⟩) rfl _) lz9 (fun k e=>by omega)⟩
theorem TwoA.set1{W V:World}{x:Bool × Bool}(h:TwoA W V x)(b:Bool):TwoA W (V.setCell ⟨W.heap.size+1+1,1,none⟩ (.bool b)) (x.1,b):=
 ⟨(((Fr.refl (fun k=>k=W.heap.size+1+1) V).setCell (p:=⟨W.heap.size+1+1,1,none⟩) rfl _).block _ (aB h.1) (by omega)).trans h.1,aN h.2.1 1 _,bB h.2.2 ((Fr.refl (fun k=>k=W.heap.size+1+1) V).setCell (p:=⟨W.heap.size+1+1,1,none⟩) rfl _) lz9 (fun k e=>by omega)⟩
theorem TwoA.end{W V:World}{x:Bool × Bool}(h:TwoA W V x):(bF V (W.heap.size+1) 0 [.bool x.1,.bool x.2]).heap[W.heap.size+1]?=some (.cells #[.bool x.1,.bool x.2] 69 (0,0))/\wBl W (bF V (W.heap.size+1) 0 [.bool x.1,.bool x.2]):=
 ⟨bA h.1 [.bool x.1,.bool x.2] rfl,bB h.2.2 (aY _ _ 0 V) lz9 (fun k e=>by omega)⟩
theorem aH6(c o:Bool):RuA (fun _=>True) (NP c o) bY9 cS c o:=by
 intro t xs g W v bp bb n base _ hnp hsz hnb hlen hgx hgg hown hp hm;obtain⟨qv,cv,rfl⟩:=aR hown;have HLEN:=aC hlen;have hxl:xs.length<=1000000:=by rw [hlen];exact hsz
 have hc:∀ (i:Nat) (x:Bool × Bool),xs[i]?=some x->∃ gb,qv=some ⟨gb,0,none⟩/\gb < W.heap.size/\W.cell? ⟨gb,i * 2,none⟩=some (.bool x.1)/\W.cell? ⟨gb,i * 2+1,none⟩=some (.bool x.2):=fun i x hx=>by
  have hi:=(m7.1 hx).1;obtain⟨gb,cb,e⟩:=aL hown (by omega);injection e with e1 e2 e3;subst e1 e3;have p1:=kK (fun x:Bool × Bool=>[Value.bool x.1,.bool x.2]) 2 (fun _=>rfl) xs i x hx 0 (by decide);have p2:=kK (fun x:Bool × Bool=>[Value.bool x.1,.bool x.2]) 2 (fun _=>rfl) xs i x hx 1 (by decide);exact⟨gb,rfl,(aF hown rfl).2.1,aM hown p1,aM hown p2⟩
 have HC:=aC hc;clear hown hnb hgx hgg hp hm hlen hc hsz;unfold cX;go_enter Tryz.func29,Tryz.ntmps29;go_upto_region 3 with fail
 have S0:Hid ((((W.alloc (.cells #[.I t.f.k,.I t.f.n,.I t.f.mn,.I t.f.mx,.slice t.f.rq t.f.rs.length t.f.rc,.slice t.f.kq t.f.kl t.f.kc,.bool c,.bool o,.slice qv xs.length cv,.func (.func 57) #[] #[bx bp]] 119)).alloc (.cells #[.bool false,.bool false] 69)).alloc (.cells #[.bool false,.bool false] 69)).heap[W.heap.size]?=some (.cells #[.I t.f.k,.I t.f.n,.I t.f.mn,.I t.f.mx,.slice t.f.rq t.f.rs.length t.f.rc,.slice t.f.kq t.f.kl t.f.kc,.bool c,.bool o,.slice qv xs.length cv,.func (.func 57) #[] #[bx bp]] 119 (0,0))):=(by(repeat (first | exact aK _ (by first | rfl | simp only [f4]) | rw [Below.heap_alloc _ _ _ (by first | omega |(simp only [f4];omega))])));have T0:Hid (TwoA W (((W.alloc (.cells #[.I t.f.k,.I t.f.n,.I t.f.mn,.I t.f.mx,.slice t.f.rq t.f.rs.length t.f.rc,.slice t.f.kq t.f.kl t.f.kc,.bool c,.bool o,.slice qv xs.length cv,.func (.func 57) #[] #[bx bp]] 119)).alloc (.cells #[.bool false,.bool false] 69)).alloc (.cells #[.bool false,.bool false] 69)) (false,false)):=⟨(Below.heap_alloc _ _ _ (by simp only [f4];omega)).trans (aK _ (by simp only [f4])),aK _ (by simp only [f4]),((bz9).alloc (by simp only [f4];omega) _).alloc (by simp only [f4];omega) _⟩;have l0:W.heap.size < (((W.alloc (.cells #[.I t.f.k,.I t.f.n,.I t.f.mn,.I t.f.mx,.slice t.f.rq t.f.rs.length t.f.rc,.slice t.f.kq t.f.kl t.f.kc,.bool c,.bool o,.slice qv xs.length cv,.func (.func 57) #[] #[bx bp]] 119)).alloc (.cells #[.bool false,.bool false] 69)).alloc (.cells #[.bool false,.bool false] 69)).heap.size:=by simp only [f4];omega
 have l1:W.heap.size+1 < (((W.alloc (.cells #[.I t.f.k,.I t.f.n,.I t.f.mn,.I t.f.mx,.slice t.f.rq t.f.rs.length t.f.rc,.slice t.f.kq t.f.kl t.f.kc,.bool c,.bool o,.slice qv xs.length cv,.func (.func 57) #[] #[bx bp]] 119)).alloc (.cells #[.bool false,.bool false] 69)).alloc (.cells #[.bool false,.bool false] 69)).heap.size:=by simp only [f4];omega
 have l2:W.heap.size+1+1 < (((W.alloc (.cells #[.I t.f.k,.I t.f.n,.I t.f.mn,.I t.f.mx,.slice t.f.rq t.f.rs.length t.f.rc,.slice t.f.kq t.f.kl t.f.kc,.bool c,.bool o,.slice qv xs.length cv,.func (.func 57) #[] #[bx bp]] 119)).alloc (.cells #[.bool false,.bool false] 69)).alloc (.cells #[.bool false,.bool false] 69)).heap.size:=by simp only [f4];omega
 generalize hW0:(((W.alloc (.cells #[.I t.f.k,.I t.f.n,.I t.f.mn,.I t.f.mx,.slice t.f.rq t.f.rs.length t.f.rc,.slice t.f.kq t.f.kl t.f.kc,.bool c,.bool o,.slice qv xs.length cv,.func (.func 57) #[] #[bx bp]] 119)).alloc (.cells #[.bool false,.bool false] 69)).alloc (.cells #[.bool false,.bool false] 69))=W0 at S0 T0 l0 l1 l2 ⊢;clear hW0;have s0:W0.cell? ⟨W.heap.size,0,none⟩=some (.I t.f.k):=aA S0.o (i:=0) rfl;have s1:W0.cell? ⟨W.heap.size,1,none⟩=some (.I t.f.n):=aA S0.o (i:=1) rfl;have s2:W0.cell? ⟨W.heap.size,2,none⟩=some (.I t.f.mn):=aA S0.o (i:=2) rfl;have s3:W0.cell? ⟨W.heap.size,3,none⟩=some (.I t.f.mx):=aA S0.o (i:=3) rfl;have s4:W0.cell? ⟨W.heap.size,4,none⟩=some (.slice t.f.rq t.f.rs.length t.f.rc):=aA S0.o (i:=4) rfl;have s5:W0.cell? ⟨W.heap.size,5,none⟩=some (.slice t.f.kq t.f.kl t.f.kc):=aA S0.o (i:=5) rfl;have s6:W0.cell? ⟨W.heap.size,6,none⟩=some (.bool c):=aA S0.o (i:=6) rfl;have s7:W0.cell? ⟨W.heap.size,7,none⟩=some (.bool o):=aA S0.o (i:=7) rfl;have s8:W0.cell? ⟨W.heap.size,8,none⟩=some (.slice qv xs.length cv):=aA S0.o (i:=8) rfl;have s9:W0.cell? ⟨W.heap.size,9,none⟩=some (.func (.func 57) #[] #[bx bp]):=aA S0.o (i:=9) rfl;rcases jP hnp with hk | hk | hk | hk | hk | hk | hk | hk | hk
 ·have hv:Hid (cS t.f t.ks xs g=(false,false)):=(by unfold cS;rw [hk];rfl);have e3:(t.f.k==3)=false:=by rw [hk];rfl
  have e4:(t.f.k==4)=false:=by rw [hk];rfl
  have e5:(t.f.k==5)=false:=by rw [hk];rfl
  have e6:(t.f.k==6)=false:=by rw [hk];rfl
  have e7:(t.f.k==7)=false:=by rw [hk];rfl
  have e9:(t.f.k==9)=false:=by rw [hk];rfl
  clear hk hnp;have z0:=aA T0.o.1 (i:=0) rfl;have z1:=aA T0.o.1 (i:=1) rfl;have y0:=aA T0.o.2.1 (i:=0) rfl;have y1:=aA T0.o.2.1 (i:=1) rfl;have fz:=fun z=>aG T0.o.1 z;have fy:=fun z=>aG T0.o.2.1 z;go_wp2;refine gD (b:=W.heap.size+1) (x:=(false,false)) T0.o.end.1 rfl rfl ?_;exact⟨by rw [hv.o],T0.o.end.2⟩
 ·have hv:Hid (cS t.f t.ks xs g=(false,false)):=(by unfold cS;rw [hk];rfl);have e3:(t.f.k==3)=false:=by rw [hk];rfl
  have e4:(t.f.k==4)=false:=by rw [hk];rfl
  have e5:(t.f.k==5)=false:=by rw [hk];rfl
  have e6:(t.f.k==6)=false:=by rw [hk];rfl
  have e7:(t.f.k==7)=false:=by rw [hk];rfl
  have e9:(t.f.k==9)=false:=by rw [hk];rfl
  clear hk hnp;have z0:=aA T0.o.1 (i:=0) rfl;have z1:=aA T0.o.1 (i:=1) rfl;have y0:=aA T0.o.2.1 (i:=0) rfl;have y1:=aA T0.o.2.1 (i:=1) rfl;have fz:=fun z=>aG T0.o.1 z;have fy:=fun z=>aG T0.o.2.1 z;go_wp2;refine gD (b:=W.heap.size+1) (x:=(false,false)) T0.o.end.1 rfl rfl ?_;exact⟨by rw [hv.o],T0.o.end.2⟩
 ·have hv:Hid (cS t.f t.ks xs g=(true,false)):=(by unfold cS;rw [hk];rfl);have e3:(t.f.k==3)=true:=by rw [hk];rfl
  have e4:(t.f.k==4)=false:=by rw [hk];rfl
  have e5:(t.f.k==5)=false:=by rw [hk];rfl
  have e6:(t.f.k==6)=false:=by rw [hk];rfl
  have e7:(t.f.k==7)=false:=by rw [hk];rfl
  have e9:(t.f.k==9)=false:=by rw [hk];rfl
  clear hk hnp;have z0:=aA T0.o.1 (i:=0) rfl;have z1:=aA T0.o.1 (i:=1) rfl;have y0:=aA T0.o.2.1 (i:=0) rfl;have y1:=aA T0.o.2.1 (i:=1) rfl;have fz:=fun z=>aG T0.o.1 z;have fy:=fun z=>aG T0.o.2.1 z;go_wp2;have T6:=T0.o.set0 true;refine gD (b:=W.heap.size+1) (x:=(true,false)) T6.end.1 rfl rfl ?_;exact⟨by rw [hv.o],T6.end.2⟩
 ·have hv:Hid (cS t.f t.ks xs g=(false,true)):=(by unfold cS;rw [hk];rfl);have e3:(t.f.k==3)=false:=by rw [hk];rfl
  have e4:(t.f.k==4)=true:=by rw [hk];rfl
  have e5:(t.f.k==5)=false:=by rw [hk];rfl
  have e6:(t.f.k==6)=false:=by rw [hk];rfl
  have e7:(t.f.k==7)=false:=by rw [hk];rfl
  have e9:(t.f.k==9)=false:=by rw [hk];rfl
  clear hk hnp;have z0:=aA T0.o.1 (i:=0) rfl;have z1:=aA T0.o.1 (i:=1) rfl;have y0:=aA T0.o.2.1 (i:=0) rfl;have y1:=aA T0.o.2.1 (i:=1) rfl;have fz:=fun z=>aG T0.o.1 z;have fy:=fun z=>aG T0.o.2.1 z;go_wp2;have T6:=T0.o.set1 true;refine gD (b:=W.heap.size+1) (x:=(false,true)) T6.end.1 rfl rfl ?_;exact⟨by rw [hv.o],T6.end.2⟩
 ·have hmany:=aK4 hnp (.inl hk);rw [<- HLEN.o] at hmany;obtain⟨⟨xa,xb⟩,hx⟩:∃ x,xs[0]?=some x:=⟨_,i9 (by omega)⟩;obtain⟨⟨ya,yb⟩,hy⟩:∃ x,xs[xs.length - 1]?=some x:=⟨_,i9 (by omega)⟩;have hv:Hid (cS t.f t.ks xs g=(xa,yb)):=(by
   have a1:xs.headD (false,false)=(xa,xb):=by
    match xs,hx with
    | y :: ys,h=>simp at h;simp [h]
   have a2:xs.getLastD (false,false)=(ya,yb):=by
    rw [List.getLastD_eq_getLast?,List.getLast?_eq_getElem?,hy];rfl
   unfold cS;rw [hk,a1,a2]
   rfl)
  obtain⟨m,hml⟩:∃ m,xs.length=m+1:=⟨xs.length - 1,by omega⟩;rw [hml] at hy hmany hxl;rw [hml] at s8 ⊢;obtain⟨gb,rfl,hg,c1,-⟩:=HC.o 0 _ hx;obtain⟨gb',egb,-,-,c2⟩:=HC.o m _ (by simpa using hy);injection egb with egb;injection egb with egb;subst egb;simp only [aBJ] at c1;have d1:=(T0.o.2.2.cell (p:=⟨gb,0,none⟩) hg).trans c1;have d2:=(T0.o.2.2.cell (p:=⟨gb,m * 2+1,none⟩) hg).trans c2;simp only at d1 d2;have hg0:gb < W0.heap.size:=n9 hg T0.o.2.2.size;have i1:IntKind.wrap .i64 ((m:Int)+1 - 1)=(m:Int):=by rw [IntKind.wrap_i64];omega
  have e3:(t.f.k==3)=false:=by rw [hk];rfl
  have e4:(t.f.k==4)=false:=by rw [hk];rfl
  have e5:(t.f.k==5)=true:=by rw [hk];rfl
  have e6:(t.f.k==6)=false:=by rw [hk];rfl
  have e7:(t.f.k==7)=false:=by rw [hk];rfl
  have e9:(t.f.k==9)=false:=by rw [hk];rfl
  clear hk hnp hx hy c1 c2 hml;go_wp2;refine aU (aAY _ _) (by kernel_rfl) (by kernel_rfl) (by kernel_rfl) ?_;dsimp only [List.dropLast,List.getLast]
  repeat (go_big_quiet_step (first | exact rfl))
  refine wpQuiet_nil ?_;intro w3 hw;have T3:Hid (TwoA W w3 (false,false)):=T0.o.kept (aP hw);clear hw s0 s1 s2 s3 s4 s5 s6 s7 s8 s9 d1 d2;have z0:=aA T3.o.1 (i:=0) rfl;have z1:=aA T3.o.1 (i:=1) rfl;have y0:=aA T3.o.2.1 (i:=0) rfl;have y1:=aA T3.o.2.1 (i:=1) rfl;have fz:=fun z=>aG T3.o.1 z;have fy:=fun z=>aG T3.o.2.1 z;go_wp2;have T6:=T3.o.put (xa,yb);refine gD (b:=W.heap.size+1) (x:=(xa,yb)) T6.end.1 rfl rfl ?_;exact⟨by rw [hv.o],T6.end.2⟩
 ·have hv:Hid (cS t.f t.ks xs g=(xs.all (·.1),xs.all (·.2))):=(by unfold cS;rw [hk];rfl);have e3:(t.f.k==3)=false:=by rw [hk];rfl
  have e4:(t.f.k==4)=false:=by rw [hk];rfl
  have e5:(t.f.k==5)=false:=by rw [hk];rfl
  have e6:(t.f.k==6)=true:=by rw [hk];rfl
  have e7:(t.f.k==7)=false:=by rw [hk];rfl
  have e9:(t.f.k==9)=false:=by rw [hk];rfl
  clear hk hnp;have TI:Hid (TwoA W (bF W0 (W.heap.size+1+1) 0 [.bool true,.bool true]) ((xs.take 0).all (·.1),(xs.take 0).all (·.2))):=T0.o.put (true,true);have SI:Hid ((bF W0 (W.heap.size+1+1) 0 [.bool true,.bool true]).heap[W.heap.size]?=W0.heap[W.heap.size]?):=(aY _ _ 0 W0).block _ l0 (by omega);have z0:=aA T0.o.1 (i:=0) rfl;have z1:=aA T0.o.1 (i:=1) rfl;have y0:=aA T0.o.2.1 (i:=0) rfl;have y1:=aA T0.o.2.1 (i:=1) rfl;have fz:=fun z=>aG T0.o.1 z;have fy:=fun z=>aG T0.o.2.1 z;go_upto_region 12 with fail
  clear z0 z1 y0 y1 fz fy;change Code.wp _ _ _ _ (bF W0 (W.heap.size+1+1) 0 [.bool true,.bool true]);generalize bF W0 (W.heap.size+1+1) 0 [.bool true,.bool true]=WI at TI SI ⊢;go_loopw [38] (fun i wr=>∃ j:Nat,j<=xs.length/\i=.I (j:Int)/\TwoA W wr ((xs.take j).all (·.1),(xs.take j).all (·.2))) (fun i _=>xs.length - (intOf i).toNat)
  case atStart=>exact⟨0,o9 _,rfl,TI.o⟩
  case round=>
   obtain⟨j,hj,rfl,ht⟩:=hrel;obtain⟨ya,hya⟩:∃ y,(xs.take j).all (·.1)=y:=⟨_,rfl⟩;obtain⟨yb,hyb⟩:∃ y,(xs.take j).all (·.2)=y:=⟨_,rfl⟩;rw [hya,hyb] at ht;have TT:=aC ht;have HY:=aC (And.intro hya hyb);clear ht hya hyb;by_cases hjl:j < xs.length
   ·obtain⟨⟨xa,xb⟩,hx⟩:∃ x,xs[j]?=some x:=⟨_,i9 hjl⟩;have FN:=aC (show ((xs.take (j+1)).all (·.1),(xs.take (j+1)).all (·.2))=(ya && xa,yb && xb) by rw [t7,hx,aAX,List.all_append,List.all_append,HY.o.1,HY.o.2];simp);have e1:(j:Int) < (xs.length:Int):=(by omega);obtain⟨gb,rfl,hg',c1,c2⟩:=HC.o j _ hx;have d1:=(TT.o.2.2.cell (p:=⟨gb,j * 2,none⟩) hg').trans c1;have d2:=(TT.o.2.2.cell (p:=⟨gb,j * 2+1,none⟩) hg').trans c2;simp only at d1 d2;have T1:Hid (TwoA W (wr.alloc (.cells #[.bool xa,.bool xb] 69)) (ya,yb)):=TT.o.kept (bz9);have k0:(wr.alloc (.cells #[.bool xa,.bool xb] 69)).cell? ⟨wr.heap.size,0,none⟩=some (.bool xa):=aA (aE wr _) (i:=0) rfl;have k1:(wr.alloc (.cells #[.bool xa,.bool xb] 69)).cell? ⟨wr.heap.size,1,none⟩=some (.bool xb):=aA (aE wr _) (i:=1) rfl;clear c1 c2 hx;go_upto_region 14 with fail
    generalize hW1:wr.alloc (.cells #[.bool xa,.bool xb] 69)=W1 at T1 k0 k1 ⊢;clear hW1 d1 d2
    cases ya with
    | true=>
     cases yb with
     | true=>
      have y0:=aA T1.o.2.1 (i:=0) rfl;have y1:=aA T1.o.2.1 (i:=1) rfl;have fy:=fun z=>aG T1.o.2.1 z;go_wp2;go_roundw
      case rel=>exact⟨j+1,by omega,by go_num,by rw [FN.o];exact T1.o.put (xa,xb)⟩
      case measure=>simp only [intOf];omega
     | false=>
      have y0:=aA T1.o.2.1 (i:=0) rfl;have y1:=aA T1.o.2.1 (i:=1) rfl;have fy:=fun z=>aG T1.o.2.1 z;go_wp2;go_roundw
      case rel=>exact⟨j+1,by omega,by go_num,by rw [FN.o];exact T1.o.put (xa,false)⟩
      case measure=>simp only [intOf];omega
    | false=>
     cases yb with
     | true=>
      have y0:=aA T1.o.2.1 (i:=0) rfl;have y1:=aA T1.o.2.1 (i:=1) rfl;have fy:=fun z=>aG T1.o.2.1 z;go_wp2;go_roundw
      case rel=>exact⟨j+1,by omega,by go_num,by rw [FN.o];exact T1.o.put (false,xb)⟩
      case measure=>simp only [intOf];omega
     | false=>
      have y0:=aA T1.o.2.1 (i:=0) rfl;have y1:=aA T1.o.2.1 (i:=1) rfl;have fy:=fun z=>aG T1.o.2.1 z;go_wp2;go_roundw
      case rel=>exact⟨j+1,by omega,by go_num,by rw [FN.o];exact T1.o.put (false,false)⟩
      case measure=>simp only [intOf];omega
   ·have e1:¬ (j:Int) < (xs.length:Int):=by omega
    rw [n8 (by omega)] at HY;rw [HY.o.1,HY.o.2] at hv;have z0:=aA TT.o.1 (i:=0) rfl;have z1:=aA TT.o.1 (i:=1) rfl;have y0:=aA TT.o.2.1 (i:=0) rfl;have y1:=aA TT.o.2.1 (i:=1) rfl;have fz:=fun z=>aG TT.o.1 z;have fy:=fun z=>aG TT.o.2.1 z;go_wp2;refine gD (b:=W.heap.size+1) (x:=(ya,yb)) TT.o.end.1 rfl rfl ?_;exact⟨by rw [hv.o],TT.o.end.2⟩
 ·obtain⟨x,rfl⟩:∃ x,xs=[x]:=by
   have:=gR hnp (.inl hk)
   match xs,HLEN.o with
   | [x],_=>exact⟨x,rfl⟩
   | [],e=>rw [this] at e;simp at e
   | _ :: _ :: _,e=>rw [this] at e;simp at e
  obtain⟨gb,rfl,hg,c1,c2⟩:=HC.o 0 x rfl;simp only [aBJ,m9] at c1 c2;have d1:=(T0.o.2.2.cell (p:=⟨gb,0,none⟩) hg).trans c1;have d2:=(T0.o.2.2.cell (p:=⟨gb,1,none⟩) hg).trans c2;have hg0:gb < W0.heap.size:=n9 hg T0.o.2.2.size;have ng1:gb≠W.heap.size+1:=by omega
  have ng2:gb≠W.heap.size+1+1:=by omega
  simp only [o5,List.length_nil,m9] at s8 ⊢;obtain⟨xa,xb⟩:=x;simp only at d1 d2;have hv:Hid (cS t.f t.ks [(xa,xb)] g=(xa,xb)):=(by unfold cS;rw [hk];rfl);have e3:(t.f.k==3)=false:=by rw [hk];rfl
  have e4:(t.f.k==4)=false:=by rw [hk];rfl
  have e5:(t.f.k==5)=false:=by rw [hk];rfl
  have e6:(t.f.k==6)=false:=by rw [hk];rfl
  have e7:(t.f.k==7)=true:=by rw [hk];rfl
  have e9:(t.f.k==9)=false:=by rw [hk];rfl
  clear hk hnp;have z0:=aA T0.o.1 (i:=0) rfl;have z1:=aA T0.o.1 (i:=1) rfl;have y0:=aA T0.o.2.1 (i:=0) rfl;have y1:=aA T0.o.2.1 (i:=1) rfl;have fz:=fun z=>aG T0.o.1 z;have fy:=fun z=>aG T0.o.2.1 z;go_wp2;have T6:=T0.o.put (xa,xb);refine gD (b:=W.heap.size+1) (x:=(xa,xb)) T6.end.1 rfl rfl ?_;exact⟨by rw [hv.o],T6.end.2⟩
 ·have hv:Hid (cS t.f t.ks xs g=(false,false)):=(by unfold cS;rw [hk];rfl);have e3:(t.f.k==3)=false:=by rw [hk];rfl
  have e4:(t.f.k==4)=false:=by rw [hk];rfl
  have e5:(t.f.k==5)=false:=by rw [hk];rfl
  have e6:(t.f.k==6)=false:=by rw [hk];rfl
  have e7:(t.f.k==7)=false:=by rw [hk];rfl
  have e9:(t.f.k==9)=false:=by rw [hk];rfl
  clear hk hnp;have z0:=aA T0.o.1 (i:=0) rfl;have z1:=aA T0.o.1 (i:=1) rfl;have y0:=aA T0.o.2.1 (i:=0) rfl;have y1:=aA T0.o.2.1 (i:=1) rfl;have fz:=fun z=>aG T0.o.1 z;have fy:=fun z=>aG T0.o.2.1 z;go_wp2;refine gD (b:=W.heap.size+1) (x:=(false,false)) T0.o.end.1 rfl rfl ?_;exact⟨by rw [hv.o],T0.o.end.2⟩
 ·obtain⟨x,rfl⟩:∃ x,xs=[x]:=by
   have:=gR hnp (.inr hk)
   match xs,HLEN.o with
   | [x],_=>exact⟨x,rfl⟩
   | [],e=>rw [this] at e;simp at e
   | _ :: _ :: _,e=>rw [this] at e;simp at e
  obtain⟨gb,rfl,hg,c1,c2⟩:=HC.o 0 x rfl;simp only [aBJ,m9] at c1 c2;have d1:=(T0.o.2.2.cell (p:=⟨gb,0,none⟩) hg).trans c1;have d2:=(T0.o.2.2.cell (p:=⟨gb,1,none⟩) hg).trans c2;have hg0:gb < W0.heap.size:=n9 hg T0.o.2.2.size;have ng1:gb≠W.heap.size+1:=by omega
  have ng2:gb≠W.heap.size+1+1:=by omega
  simp only [o5,List.length_nil,m9] at s8 ⊢;obtain⟨xa,xb⟩:=x;simp only at d1 d2;have e3:(t.f.k==3)=false:=by rw [hk];rfl
  have e4:(t.f.k==4)=false:=by rw [hk];rfl
  have e5:(t.f.k==5)=false:=by rw [hk];rfl
  have e6:(t.f.k==6)=false:=by rw [hk];rfl
  have e7:(t.f.k==7)=false:=by rw [hk];rfl
  have e9:(t.f.k==9)=true:=by rw [hk];rfl
  have z0:=aA T0.o.1 (i:=0) rfl;have z1:=aA T0.o.1 (i:=1) rfl;have y0:=aA T0.o.2.1 (i:=0) rfl;have y1:=aA T0.o.2.1 (i:=1) rfl;have fz:=fun z=>aG T0.o.1 z;have fy:=fun z=>aG T0.o.2.1 z;by_cases hm:0 < t.f.mn
  ·have hv:=aC (show cS t.f t.ks [(xa,xb)] g=(xa,xb) by unfold cS;rw [hk];simp [hm]);clear hk hnp;go_wp2;have T6:=T0.o.put (xa,xb);refine gD (b:=W.heap.size+1) (x:=(xa,xb)) T6.end.1 rfl rfl ?_;exact⟨by rw [hv.o],T6.end.2⟩
  ·have hv:=aC (show cS t.f t.ks [(xa,xb)] g=(false,false) by unfold cS;rw [hk];simp [hm]);clear hk hnp;go_wp2;refine gD (b:=W.heap.size+1) (x:=(false,false)) T0.o.end.1 rfl rfl ?_;exact⟨by rw [hv.o],T0.o.end.2⟩
end
section
attribute [local go_sem] Oper.semAt_some
def fb(x:Int):Int:=if x < 128 then x else if x < 2048 then 192+x / 64 else if x < 65536 then 224+x / 4096 else 240+x / 262144
theorem dE(x:Int):isC x=true ↔ 0<=x/\x<=1114111/\(x < 55296\/57343 < x):=by simp [isC]
theorem pD{x y:Int}(h0:0<=x)(h:x<=y)(h1:y<=1114111):fb x<=fb y:=by
 unfold fb
 split <;> split <;> (try split) <;> (try split) <;> (try split) <;> omega
theorem pC{x:Int}(h:isC x=true):(0<=fb x/\fb x < 128)\/(194<=fb x/\fb x<=244):=by
 rw [dE] at h;unfold fb
 split
 ·omega
 ·split
  ·omega
  ·split <;> omega
theorem bV4{lo hi v:Int}(h1:isC lo=true)(h2:isC hi=true)(hl:lo<=hi)(a:fb lo<=v)(b:v<=fb hi)(hv:v < 128\/194<=v):∃ x,lo<=x/\x<=hi/\isC x=true/\fb x=v:=by
 by_cases e1:v=fb lo
 ·exact⟨lo,aAH _,hl,h1,e1.symm⟩
 by_cases e2:v=fb hi
 ·exact⟨hi,hl,aAH _,h2,e2.symm⟩
 have r1:=pC h1;have r2:=pC h2;have c1:=(dE lo).1 h1;have c2:=(dE hi).1 h2;have key:∀ x,isC x=true->fb x=v->∃ x,lo<=x/\x<=hi/\isC x=true/\fb x=v:=fun x hx he=>by
  have cx:=(dE x).1 hx;refine⟨x,?_,?_,hx,he⟩
  ·rcases Int.lt_or_le x lo with q | q
   ·have:=pD cx.1 (Int.le_of_lt q) (by omega);omega
   ·exact q
  ·rcases Int.lt_or_le hi x with q | q
   ·have:=pD c2.1 (Int.le_of_lt q) cx.2.1;omega
   ·exact q
 rcases hv with hv | hv
 ·exact key v ((dE v).2 (by omega)) (by unfold fb;rw [if_pos hv])
 ·by_cases k1:v < 224
  ·exact key ((v - 192) * 64) ((dE _).2 (by omega)) (by unfold fb;rw [if_neg (by omega),if_pos (by omega)];omega)
  by_cases k2:v=224
  ·exact key 2048 (by decide) (by rw [k2];decide)
  by_cases k3:v < 240
  ·exact key ((v - 224) * 4096) ((dE _).2 (by omega)) (by unfold fb;rw [if_neg (by omega),if_neg (by omega),if_pos (by omega)];omega)
  by_cases k4:v=240
  ·exact key 65536 (by decide) (by rw [k4];decide)
  ·exact key ((v - 240) * 262144) ((dE _).2 (by omega)) (by unfold fb;rw [if_neg (by omega),if_neg (by omega),if_neg (by omega)];omega)
theorem xQ{n a b:Nat}(h:z5_InS n a b):(eU n a 0:Int)=fb a/\(eU n b 0:Int)=fb b/\isC (a:Int)=true/\isC (b:Int)=true/\a<=b/\(fb a < 128/\fb b < 128\/194<=fb a):=by
 obtain⟨x,y,hs,h1,h2,h3⟩:=h;rw [dE,dE];unfold eU fb;rcases hs with⟨rfl,rfl,rfl⟩ | ⟨rfl,rfl,rfl⟩ | ⟨rfl,rfl,rfl⟩ | ⟨rfl,rfl,rfl⟩ | ⟨rfl,rfl,rfl⟩
 ·refine⟨?_,?_,by omega,by omega,h2,?_⟩
  ·rw [if_pos rfl,if_pos (by omega)]
  ·rw [if_pos rfl,if_pos (by omega)]
  ·rw [if_pos (by omega),if_pos (by omega)];omega
 ·refine⟨?_,?_,by omega,by omega,h2,?_⟩
  ·rw [if_neg (by omega),if_pos rfl,if_pos rfl,if_neg (by omega),if_pos (by omega)];omega
  ·rw [if_neg (by omega),if_pos rfl,if_pos rfl,if_neg (by omega),if_pos (by omega)];omega
  ·rw [if_neg (by omega),if_pos (by omega)];omega
 ·refine⟨?_,?_,by omega,by omega,h2,?_⟩
  ·rw [if_neg (by omega),if_neg (by omega),if_pos rfl,if_pos rfl,if_neg (by omega),if_neg (by omega),if_pos (by omega)];omega
  ·rw [if_neg (by omega),if_neg (by omega),if_pos rfl,if_pos rfl,if_neg (by omega),if_neg (by omega),if_pos (by omega)];omega
  ·rw [if_neg (by omega),if_neg (by omega),if_pos (by omega)];omega
 ·refine⟨?_,?_,by omega,by omega,h2,?_⟩
  ·rw [if_neg (by omega),if_neg (by omega),if_pos rfl,if_pos rfl,if_neg (by omega),if_neg (by omega),if_pos (by omega)];omega
  ·rw [if_neg (by omega),if_neg (by omega),if_pos rfl,if_pos rfl,if_neg (by omega),if_neg (by omega),if_pos (by omega)];omega
  ·rw [if_neg (by omega),if_neg (by omega),if_pos (by omega)];omega
 ·refine⟨?_,?_,by omega,by omega,h2,?_⟩
  ·rw [if_neg (by omega),if_neg (by omega),if_neg (by omega),if_pos rfl,if_neg (by omega),if_neg (by omega),if_neg (by omega)];omega
  ·rw [if_neg (by omega),if_neg (by omega),if_neg (by omega),if_pos rfl,if_neg (by omega),if_neg (by omega),if_neg (by omega)];omega
  ·rw [if_neg (by omega),if_neg (by omega),if_neg (by omega)];omega
def kF(r:eG):Int × Int:=((eU r.n r.a 0:Int),(eU r.n r.b 0:Int))
theorem tG{c:Nat}{R:List eG}:eT c R=0 ↔ ∀ r∈R,¬ (r.a<=c/\c<=r.b):=by
 unfold eT;rw [List.countP_eq_zero];simp
theorem aD8{lo hi:Int}{R:List eG}(h:aH8 lo hi R)(h0:isC lo=true)(h1:isC hi=true)(v:Int):In (R.map kF) v ↔ ∃ x,lo<=x/\x<=hi/\isC x=true/\fb x=v:=by
 have c1:=(dE lo).1 h0;have c2:=(dE hi).1 h1;have inn:∀ r∈R,lo<=(r.a:Int)/\(r.b:Int)<=hi:=fun r hr=>by
  obtain⟨-,-,ka,kb,kab,-⟩:=xQ (h.pc r hr).1;have q1:=h.cn r.a ka;have q2:=h.cn r.b kb;have z1:eT r.a R≠0:=fun e=>tG.1 e r hr ⟨t9 _,kab⟩;have z2:eT r.b R≠0:=fun e=>tG.1 e r hr ⟨kab,t9 _⟩;constructor
  ·by_cases e:lo<=(r.a:Int)/\(r.a:Int)<=hi
   ·exact e.1
   ·rw [if_neg e] at q1;exact absurd q1 z1
  ·by_cases e:lo<=(r.b:Int)/\(r.b:Int)<=hi
   ·exact e.2
   ·rw [if_neg e] at q2;exact absurd q2 z2
 constructor
 ·rintro ⟨p,hp,a,b⟩;obtain⟨r,hr,rfl⟩:=aAI.1 hp;obtain⟨e1,e2,ka,kb,kab,kr⟩:=xQ (h.pc r hr).1;simp only [kF] at a b;rw [e1] at a;rw [e2] at b;obtain⟨x,x1,x2,x3,x4⟩:=bV4 ka kb (by omega) a b (by omega);have:=inn r hr;exact⟨x,by omega,by omega,x3,x4⟩
 ·rintro ⟨x,x1,x2,x3,rfl⟩;have cx:=(dE x).1 x3;obtain⟨c,rfl⟩:=Int.eq_ofNat_of_zero_le cx.1;have q:=h.cn c x3;rw [if_pos ⟨x1,x2⟩] at q;have:¬ ∀ r∈R,¬ (r.a<=c/\c<=r.b):=fun e=>by rw [tG.2 e] at q;cases q
  simp only [Classical.not_forall,Classical.not_not] at this;obtain⟨r,hr,k1,k2⟩:=this;obtain⟨e1,e2,ka,kb,kab,kr⟩:=xQ (h.pc r hr).1;have cb:=(dE _).1 kb;exact⟨kF r,aAI.2 ⟨r,hr,rfl⟩,by simp only [kF];rw [e1];exact pD (by omega) (by omega) cx.2.1,by simp only [kF];rw [e2];exact pD cx.1 (by omega) cb.2.1⟩
theorem bJ7{r:eG}(h:dG r.n r.a r.b):0<=(kF r).1/\(kF r).1<=(kF r).2/\(kF r).2<=255:=by
 obtain⟨e1,e2,ka,kb,kab,-⟩:=xQ h.1;have r1:=pC ka;have r2:=pC kb;have ca:=(dE _).1 ka;have cb:=(dE _).1 kb;have:=pD (x:=(r.a:Int)) (y:=(r.b:Int)) ca.1 (by omega) cb.2.1;simp only [kF];omega
structure Fst(L F:lIi):Prop where
 ok:∀ p∈F,0<=p.1/\p.1<=p.2/\p.2<=255
 mem:∀ v,In F v ↔ ∃ x,In L x/\isC x=true/\fb x=v
theorem Fst.nil:Fst [] []:=⟨fun p hp=>(by cases hp),fun v=>⟨fun h=>absurd h (gT v),fun⟨x,h,_⟩=>absurd h (gT x)⟩⟩
theorem Fst.snoc{L F:lIi}{r:Int × Int}{R:List eG}(h:Fst L F)(hq:aH8 r.1 r.2 R)(h0:isC r.1=true)(h1:isC r.2=true):Fst (L ++ [r]) (F ++ R.map kF):=by
 refine⟨fun p hp=>?_,fun v=>?_⟩
 ·rcases o3.1 hp with e | e
  ·exact h.ok p e
  ·obtain⟨q,hq',rfl⟩:=aAI.1 e;exact bJ7 (hq.pc q hq')
 ·rw [bZ,h.mem,aD8 hq h0 h1];constructor
  ·rintro (⟨x,a,b,c⟩ | ⟨x,a,b,c,d⟩)
   ·exact⟨x,(bZ ..).2 (.inl a),b,c⟩
   ·exact⟨x,(bZ ..).2 (.inr ((eD ..).2 ⟨a,b⟩)),c,d⟩
  ·rintro ⟨x,a,b,c⟩;rcases (bZ ..).1 a with e | e
   ·exact .inl ⟨x,e,b,c⟩
   ·have:=(eD ..).1 e;exact .inr ⟨x,this.1,this.2,b,c⟩
theorem Fr.grownOr{S:Nat->Prop}{a w w':World}{row:Option Nat}(h:Fr S a w)(hg:w.grownBy w' row)(hr:∀ k,row=some k->S k\/a.heap.size<=k):Fr S a w':=
 ⟨hg.os.trans h.os,hg.tape.trans h.tape,hg.output.trans h.output,m8 h.size hg.size,fun k hk hs=>(hg.block k (n9 hk h.size) (fun e=>by rcases hr k e.symm with q | q;exact hs q;omega)).trans (h.block k hk hs)⟩
theorem aA6(L:lIi)(r:Int × Int):aT (L ++ [r])=aT L ++ [.I r.1,.I r.2]:=by simp [aT]
end
section
attribute [local go_sem] Oper.semAt_some
def bW7(w:World)(L:lIi)(e:Ending)(w':World):Prop:=∃ v F,e=.returned v/\RR w.heap.size w' v F/\Fst L F/\F.length<=30 * L.length/\wBl w w'
theorem aR4{w:World}{q:Option Addr}{k:Nat}{L:lIi}(h:ArgR w (.slice q L.length k) L)(hc:∀ r∈L,isC r.1=true/\isC r.2=true/\r.1<=r.2)(hS:z5_Spans w)(h0:0 < w.heap.size)(hl:L.length<=600000) :
  Calls Tryz.prog 90 #[.slice q L.length k] w (bW7 w L):=by
 obtain⟨t0,ti,hz0,hz1,hz2⟩:=aV dB;have TI:Hid (Tryz.prog.info? 92=some t0/\t0.zero=some (.agg #[.I 0,.I 0])/\t0.size=2/\t0.bytes=16):=⟨ti,hz0,hz1,hz2⟩;obtain⟨q',k',e,h1,h2,h3⟩:=h.slice;injection e with e1 _ e3;subst e1 e3;have H3:=aC h3;have h9:L.length<=9223372036854775807:=h1;have HC:=aC hc;have HS:=aC hS;clear h3 h h1 hc hS ti hz0 hz1 hz2;go_enter Tryz.func90,Tryz.ntmps90;go_wp2;go_loopw [3,12] (fun v i wr=>∃ (j:Nat) (F:lIi),j<=L.length/\i=.I (j:Int)/\RR w.heap.size wr v F/\Fst (L.take j) F/\F.length<=30 * j/\wBl w wr) (fun _ i _=>L.length - (intOf i).toNat)
 case atStart=>exact⟨0,[],o9 _,rfl,RR.nil _ _,Fst.nil,t9 _,Below.refl _ _⟩
 case round=>
  obtain⟨j,F,hj,rfl,hrr,hf,hfl,hb⟩:=hrel;obtain⟨qv,cv,rfl⟩:=hrr.shape;have RO:=aC hrr;have HF:=aC hf;have HB:=aC hb;clear hrr hf hb;by_cases hjl:j < L.length
  ·obtain⟨⟨lo,hi⟩,hr⟩:∃ r,L[j]?=some r:=⟨_,i9 hjl⟩;obtain⟨g,off,rfl,hg,c1,c2⟩:=H3.o j _ hr;have e1:(j:Int) < (L.length:Int):=(by omega);have c3:=(HB.o.cell (p:=⟨g,off+2 * j,none⟩) hg).trans c1;have c4:=(HB.o.cell (p:=⟨g,off+2 * j+1,none⟩) hg).trans c2;rw [aAU] at c3 c4;simp only at c3 c4;obtain⟨k1,k2,k3⟩:=HC.o _ (n7 hr);simp only at k1 k2 k3;have ci1:=(dE lo).1 k1;have ci2:=(dE hi).1 k2;have HT:Hid (L.take (j+1)=L.take j ++ [(lo,hi)]):=(by rw [t7,hr];rfl);have B1:Hid (wBl w (wr.alloc (.cells #[.I lo,.I hi] 92))):=HB.o.alloc HB.o.size _;have HRW:=aC (aN4 lo hi (wr.alloc (.cells #[.I lo,.I hi] 92)) (HS.o.below B1.o h0) ci1.1 k3 ci2.2.1);have KK:=aC (And.intro k1 k2);clear c1 c2 hr k1 k2 ci1 ci2;go_upto_region 7 with (go_at_call 112;refine HRW.o.mono ?_;rintro e w5 ⟨v5,R,rfl,h51,h52,h53⟩;obtain⟨q5,cv5,e5⟩:=aR h51.own;subst e5;have A5:=aC h51;have Q5:=aC h52;have B5:=aC h53;clear h51 h52 h53)
   have BW:Hid (wBl w w5):=aJ B1.o B5.o lz9;have R5:Hid (RR w.heap.size w5 (.slice qv F.length cv) F):=(RO.o.kept (bz9)).kept B5.o;have SB:Hid (∀ k,(Value.slice qv F.length cv).ownBlock=some k->w.heap.size<=k/\k < wr.heap.size):=fun k e=>⟨(aF RO.o e).1,(aF RO.o e).2.1⟩;have NS:Hid (∀ r∈R,¬ (Value.slice qv F.length cv).ownBlock=some r.g):=fun r hr e=>by
    have h1:=(A5.o.row r hr).lo;have h2:=(SB.o _ e).2;rw [f4] at h1;omega
   have NR:Hid (∀ k,(Value.slice q5 R.length cv5).ownBlock=some k->¬ (Value.slice qv F.length cv).ownBlock=some k):=fun k e z=>by
    obtain⟨-,-,cur,hc⟩:=aF A5.o.own e;exact aO R5.o hc (by decide) z
   have hrl:R.length<=30:=Q5.o.ln;have hfl2:F.length<=18000000:=(by omega);clear RO HB B1 HRW B5 c3 c4;go_loopw [3,26] (fun v i wx=>∃ m:Nat,m<=R.length/\i=.I (m:Int)/\RR w.heap.size wx v (F ++ (R.take m).map kF)/\Fr (fun k=>(Value.slice qv F.length cv).ownBlock=some k) w5 wx/\∀ k,v.ownBlock=some k->(Value.slice qv F.length cv).ownBlock=some k\/w5.heap.size<=k) (fun _ i _=>R.length - (intOf i).toNat)
   case atStart=>exact⟨0,o9 _,rfl,by simpa using R5.o,Fr.refl _ _,fun k e=>.inl e⟩
   case round=>
    obtain⟨m,hm,rfl,hrr,hfr,hob⟩:=hrel;obtain⟨O,hO⟩:∃ O,F ++ (R.take m).map kF=O:=⟨_,rfl⟩;have EO:=aC hO;have hol:O.length<=18000030:=(by rw [<- hO,o4,aAE,aAA];omega);rw [hO] at hrr;obtain⟨qx,cx,rfl⟩:=hrr.shape;have RX:=aC hrr;have FX:=aC hfr;have OB:=aC hob;clear hrr hfr hob hO;by_cases hml:m < R.length
    ·obtain⟨r,hr⟩:∃ r,R[m]?=some r:=⟨_,i9 hml⟩;have hin:r∈R:=n7 hr;have e2:(m:Int) < (R.length:Int):=(by omega);obtain⟨g5,cb,e⟩:=aL A5.o.own (by omega);injection e with e1' e2' e3';subst e1' e3';have d1:wr.cell? ⟨g5,m,none⟩=some (.slice (some ⟨r.g,0,none⟩) r.n r.n):=aM (aH A5.o.own FX.o (fun k e z=>NR.o k e z)) (by simp [hr,xX]);obtain⟨cs,hcs,hsz,hcell⟩:=(A5.o.row r hin).blk;have hn1:=(Q5.o.pc r hin).1.n;obtain⟨x1,x2⟩:=hcell 0 (by omega);have hcs2:=(FX.o.block _ (aB hcs) (NS.o r hin)).trans hcs;have d2:wr.cell? ⟨r.g,0,none⟩=some (.I (kF r).1):=aA hcs2 x1;have d3:wr.cell? ⟨r.g,1,none⟩=some (.I (kF r).2):=aA hcs2 x2;have TN:=aC (show F ++ (R.take (m+1)).map kF=O ++ [kF r] by rw [t7,hr,aAX,aBS,<- aAM,EO.o];rfl);have i3:(0:Int) < (r.n:Int):=(by omega);obtain⟨p1,p2⟩:∃ p,kF r=p:=⟨_,rfl⟩;rw [p2] at d2 d3 TN;obtain⟨pa,pb⟩:=p1;simp only at d2 d3;clear hcs hcs2 hsz hcell x1 x2 hr hin e2' p2;have RA6:Hid ((wr.alloc (.cells #[.I pa,.I pb] 92)).ownsRow w.heap.size 92 2 (.slice qx O.length cx) O.length (aT O)):=o8 RX.o _;have SZ:Hid (w.heap.size<=(wr.alloc (.cells #[.I pa,.I pb] 92)).heap.size):=m8 BW.o.size (m8 FX.o.size (by rw [f4];omega));go_wp2_with (at_builtin;refine wpList_append_own_at _ rfl _ _ 22 rfl w.heap.size 92 t0 (.agg #[.I 0,.I 0]) 2 16 bG TI.o.1 TI.o.2.1 TI.o.2.2.1 TI.o.2.2.2 rfl (by decide) (.slice qx O.length cx) O.length (aT O) rfl RA6.o ⟨wr.heap.size,0,none⟩ 1 1 [.I pa,.I pb] rfl rfl (bI _ [_,_] _) (by simp [Value.oneCell']) (by unfold maxLen;omega) (by omega) SZ.o ?_;intro v' w6 hown' hgrow _ hblk;obtain⟨g6,cap6,e6⟩:=aL hown' (aAL _);subst e6;have O6:=aC hown';have G6:=aC hgrow;have K6:=aC hblk;clear hown' hgrow hblk)
     go_roundw
     case rel=>
      refine⟨m+1,by omega,by go_num,?_,(FX.o.alloc _).grownOr G6.o (fun k e=>OB.o k e),fun k e=>?_⟩
      ·rw [TN.o];have:=O6.o;rw [<- aA6 O (pa,pb)] at this;unfold RR;rw [o4];exact this
      ·rcases K6.o with q | q
       ·exact OB.o k (q ▸ e)
       ·rw [q] at e;injection e with e;have:=FX.o.size;exact .inr (by rw [<- e,f4];omega)
     case measure=>simp only [intOf];omega
    ·have e2:¬ (m:Int) < (R.length:Int):=by omega
     have EE:=aC (show F ++ R.map kF=O by rw [<- EO.o,n8 (by omega)]);go_wp2;go_roundw
     case rel=>
      refine⟨j+1,O,by omega,by go_num,RX.o,?_,?_,bB BW.o FX.o lz9 (fun k e=>(SB.o k e).1)⟩
      ·rw [HT.o,<- EE.o];exact HF.o.snoc Q5.o KK.o.1 KK.o.2
      ·rw [<- EE.o,o4,aAE];omega
     case measure=>simp only [intOf];omega
  ·have e1:¬ (j:Int) < (L.length:Int):=by omega
   rw [n8 (by omega)] at HF;go_wp2;go_ret;exact⟨_,F,rfl,RO.o,HF.o,by omega,HB.o⟩
end
section
attribute [local go_sem] Oper.semAt_some
def fbU(c:Bool)(x:Int):Int:=if c then fb x else x
open Classical in
noncomputable def fB (c:Bool) (L:lIi):BitVec 256:=nA (fun b=>decide (∃ x,In L x/\bP c x/\fbU c x=(b:Int))) 256
theorem aT9(lo hi:Int)(n:Nat):(cJ lo hi).getLsbD n=decide (n < 256/\lo<=(n:Int)/\(n:Int)<=hi):=by
 unfold cJ;rw [yF,fL,fL,aBL];simp;omega
theorem bF8:∀ (rs:lIi) (n:Nat),(bX rs).getLsbD n=true ↔ n < 256/\In rs (n:Int):=by
 intro rs n;have:∀ (k:Nat) (rs:lIi),rs.length=k->((bX rs).getLsbD n=true ↔ n < 256/\In rs (n:Int)):=by
  intro k
  induction k with
  | zero=>intro rs h;rw [aAK h];simp [bX,gT]
  | succ k ih=>
   intro rs h;obtain⟨a,r,rfl⟩:∃ a r,rs=a ++ [r]:=by
    have hne:rs≠[]:=(by intro e;rw [e] at h;simp at h);exact⟨rs.dropLast,rs.getLast hne,(List.dropLast_concat_getLast hne).symm⟩
   rw [mU,aO0,Bool.or_eq_true,ih a (by simpa using h),aT9,aBH,bZ,eD];constructor
   ·rintro (⟨p,q⟩ | ⟨p,q⟩)
    ·exact⟨p,.inl q⟩
    ·exact⟨p,.inr q⟩
   ·rintro ⟨p,q | q⟩
    ·exact .inl ⟨p,q⟩
    ·exact .inr ⟨p,q⟩
 exact this _ rs rfl
theorem aL7{c:Bool}{L F:lIi}(h:∀ v:Int,In F v ↔ ∃ x,In L x/\bP c x/\fbU c x=v):bX F=fB c L:=by
 refine BitVec.eq_of_getLsbD_eq fun n hn=>?_;unfold fB;rw [kC _ _ _ lz9,aBL,bF8,h];simp [hn]
theorem ArgR.row{W:World}{v:Value}{L:lIi}(h:ArgR W v L):z1_RowAt W v L:=by
 rcases h with⟨p,cap,h1,h2,-⟩ | ⟨g,off,cap,h1,h2,h3,h4,h5⟩
 ·exact .inl ⟨p,cap,h1,h2⟩
 ·refine .inr ⟨g,off,cap,h1,h2,h3,h4,fun i lo hi e=>?_⟩;obtain⟨a,b⟩:=h5 i (lo,hi) e;rw [aAU] at a b;exact⟨a,b⟩
theorem aY5{R:Ending->World->Prop}{a:Act}{W:World}{b:Nat}{x:BitVec 256}(h:W.heap[b]?=some (.cells #[.int .u64 (aD x 0),.int .u64 (aD x 1),.int .u64 (aD x 2),.int .u64 (aD x 3)] 36 (0,0)))(ha:a.tmps[4]?.getD undef=.pointer (some ⟨b,0,none⟩))(hd:a.defers=[])(hR:R (.returned (.agg #[.int .u64 (aD x 0),.int .u64 (aD x 1),.int .u64 (aD x 2),.int .u64 (aD x 3)])) W):bodyPost Tryz.prog Tryz.f61 R .ret a W:=by
 refine bodyPost_ret (v:=.agg #[.int .u64 (aD x 0),.int .u64 (aD x 1),.int .u64 (aD x 2),.int .u64 (aD x 3)]) ?_ hd hR;have z0:=aA h (i:=0) rfl;have z1:=aA h (i:=1) rfl;have z2:=aA h (i:=2) rfl;have z3:=aA h (i:=3) rfl;simp [results,Tryz.results61,go_sem,ha,z0,z1,z2,z3]
theorem xE{w:World}{q:Option Addr}{k:Nat}{L:lIi}(c o:Bool)(h:ArgR w (.slice q L.length k) L)(hs:nD c o L)(hS:z5_Spans w)(h0:0 < w.heap.size){X:BitVec 256}(hX:fB c L=X) :
  Calls Tryz.prog 61 #[.slice q L.length k,.agg #[.bool c,.bool o]] w fun e w'=>e=.returned (.agg #[.int .u64 (aD X 0),.int .u64 (aD X 1),.int .u64 (aD X 2),.int .u64 (aD X 3)])/\wBl w w':=by
 have B1:Hid (wBl w ((w.alloc (.cells #[.bool c,.bool o] 27)).alloc (.cells #[.int .u64 0,.int .u64 0,.int .u64 0,.int .u64 0] 36))):=(bz9).alloc (by simp only [f4];omega) _;have R1:Hid (((w.alloc (.cells #[.bool c,.bool o] 27)).alloc (.cells #[.int .u64 0,.int .u64 0,.int .u64 0,.int .u64 0] 36)).heap[w.heap.size+1]?=some (.cells #[.int .u64 0,.int .u64 0,.int .u64 0,.int .u64 0] 36 (0,0))):=aK _ (by simp only [f4]);have M1:((w.alloc (.cells #[.bool c,.bool o] 27)).alloc (.cells #[.int .u64 0,.int .u64 0,.int .u64 0,.int .u64 0] 36)).cell? ⟨w.heap.size,0,none⟩=some (.bool c):=by simp
 have hl:=oF hs.1;have HX:=aC hX;have HA:=aC h;have HM:=aC hs;have HS:=aC hS;clear h hs hS hX;generalize hWg:(w.alloc (.cells #[.bool c,.bool o] 27)).alloc (.cells #[.int .u64 0,.int .u64 0,.int .u64 0,.int .u64 0] 36)=Wg at B1 R1 M1;have HWg:=aC hWg;clear hWg
 cases c with
 | true=>
  have HL:=aC (aR4 (HA.o.kept B1.o) (fun r hr=>by
   have hsm:=HM.o.1.cls.some r hr;exact⟨oW ((HM.o.1.mem r.1).1 ⟨r,hr,aAH _,hsm⟩).2,oW ((HM.o.1.mem r.2).1 ⟨r,hr,hsm,aAH _⟩).2,hsm⟩) (HS.o.below B1.o h0) (n9 h0 B1.o.size) hl)
  go_enter Tryz.func61,Tryz.ntmps61;go_upto_region 1 with fail
  rw [HWg.o];go_wp2_with first
   |(go_at_call 90;refine HL.o.mono ?_;rintro e w5 ⟨v5,F,rfl,h1,h2,h3,h4⟩;obtain⟨q5,c5,e5⟩:=h1.shape;subst e5;have HF:=aC (rS F _ w5 h1.arg.row (fun r hr=>h2.ok r hr));rw [aL7 (c:=true) (L:=L) (fun v=>by rw [h2.mem];exact⟨fun⟨x,a,b,d⟩=>⟨x,a,((HM.o.1.mem x).1 a).2,d⟩,fun⟨x,a,b,d⟩=>⟨x,a,oW b,d⟩⟩),HX.o] at HF;have B5:=aC h4;clear h1 h2 h3 h4)
   |(go_at_call 91;refine HF.o.mono ?_;rintro e w6 ⟨rfl,h6⟩;have B6:=aC h6;clear h6;have R6:Hid ((w6.alloc (.cells #[.int .u64 (aD X 0),.int .u64 (aD X 1),.int .u64 (aD X 2),.int .u64 (aD X 3)] 36)).heap[w.heap.size+1]?=some (.cells #[.int .u64 0,.int .u64 0,.int .u64 0,.int .u64 0] 36 (0,0))):=((bz9).block _ (aB ((B6.o.block _ (aB ((B5.o.block _ (aB R1.o)).trans R1.o))).trans ((B5.o.block _ (aB R1.o)).trans R1.o)))).trans ((B6.o.block _ (aB ((B5.o.block _ (aB R1.o)).trans R1.o))).trans ((B5.o.block _ (aB R1.o)).trans R1.o));have z0:=aA R6.o (i:=0) rfl;have z1:=aA R6.o (i:=1) rfl;have z2:=aA R6.o (i:=2) rfl;have z3:=aA R6.o (i:=3) rfl;have fz:=fun z=>aG R6.o z)
  refine aY5 (b:=w.heap.size+1) (x:=X) (bA R6.o [.int .u64 (aD X 0),.int .u64 (aD X 1),.int .u64 (aD X 2),.int .u64 (aD X 3)] rfl) rfl rfl ?_;exact⟨rfl,bB ((aJ (aJ B1.o B5.o lz9) B6.o lz9).alloc (aJ (aJ B1.o B5.o lz9) B6.o lz9).size _) (aY (w.heap.size+1) [.int .u64 (aD X 0),.int .u64 (aD X 1),.int .u64 (aD X 2),.int .u64 (aD X 3)] 0 _) lz9 (fun k e=>by omega)⟩
 | false=>
  have HF:=aC (rS L _ Wg (HA.o.kept B1.o).row (fun r hr=>by
   have hsm:=HM.o.1.cls.some r hr;have a:=((HM.o.1.mem r.1).1 ⟨r,hr,aAH _,hsm⟩).2;have b:=((HM.o.1.mem r.2).1 ⟨r,hr,hsm,aAH _⟩).2;simp [bP,top] at a b;exact⟨by omega,hsm,by omega⟩))
  rw [aL7 (c:=false) (L:=L) (fun v=>⟨fun a=>⟨v,a,((HM.o.1.mem v).1 a).2,rfl⟩,fun⟨x,a,b,d⟩=>(show x=v from d) ▸ a⟩),HX.o] at HF;go_enter Tryz.func61,Tryz.ntmps61;go_upto_region 1 with fail
  rw [HWg.o];go_wp2_with first
   |(go_at_call 91;refine HF.o.mono ?_;rintro e w6 ⟨rfl,h6⟩;have B6:=aC h6;clear h6;have R6:Hid ((w6.alloc (.cells #[.int .u64 (aD X 0),.int .u64 (aD X 1),.int .u64 (aD X 2),.int .u64 (aD X 3)] 36)).heap[w.heap.size+1]?=some (.cells #[.int .u64 0,.int .u64 0,.int .u64 0,.int .u64 0] 36 (0,0))):=((bz9).block _ (aB ((B6.o.block _ (aB R1.o)).trans R1.o))).trans ((B6.o.block _ (aB R1.o)).trans R1.o);have z0:=aA R6.o (i:=0) rfl;have z1:=aA R6.o (i:=1) rfl;have z2:=aA R6.o (i:=2) rfl;have z3:=aA R6.o (i:=3) rfl;have fz:=fun z=>aG R6.o z)
  refine aY5 (b:=w.heap.size+1) (x:=X) (bA R6.o [.int .u64 (aD X 0),.int .u64 (aD X 1),.int .u64 (aD X 2),.int .u64 (aD X 3)] rfl) rfl rfl ?_;exact⟨rfl,bB ((aJ B1.o B6.o lz9).alloc (aJ B1.o B6.o lz9).size _) (aY (w.heap.size+1) [.int .u64 (aD X 0),.int .u64 (aD X 1),.int .u64 (aD X 2),.int .u64 (aD X 3)] 0 _) lz9 (fun k e=>by omega)⟩
end
end Go.Proofs.YtdgfpiekjigfnaaGreatDoor
