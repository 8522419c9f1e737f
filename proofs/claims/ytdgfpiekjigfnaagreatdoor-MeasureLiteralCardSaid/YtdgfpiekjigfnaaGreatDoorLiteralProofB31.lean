/-
  Parts of the proof.
-/
import Derived.Test.YtdgfpiekjigfnaaGreatDoorLiteralProofA0
import Derived.Test.YtdgfpiekjigfnaaGreatDoorLiteralProofB30
import Derived.Test.YtdgfpiekjigfnaaGreatDoorLiteralProofB26
import Derived.Test.YtdgfpiekjigfnaaGreatDoorLiteralProofB17
import Derived.Test.YtdgfpiekjigfnaaGreatDoorLiteralProofB22
import Derived.Test.YtdgfpiekjigfnaaGreatDoorLiteralProofB29
import Derived.Test.YtdgfpiekjigfnaaGreatDoorLiteralProofB2
import Derived.Deep.Slices
import Derived.Deep.SlicePairs
import Derived.ChangeSame
import Derived.SizedLaws
set_option maxRecDepth 100000
set_option maxHeartbeats 8000000
namespace Go.Proofs.YtdgfpiekjigfnaaGreatDoor
open Go Go.RowKit
section
theorem bV4(W:World)(a:Value)(t:TypeId):∀ (j:Nat) (u:Value),[a][j]?=some u->(W.alloc (.cells #[a] t)).cell? (((aDr W.heap.size 0):Addr).add j)=some u:=by
 intro j u h
 match j,h with
 | 0,h=>simp at h;subst h;simp [Addr.add]
theorem bN3(most:Nat):∀ (a:List El) (k j:Nat) (z:Zl),(tl most k a)[j]?=some z->z.2=min (k+j+z.1.2.sz) most
 | [],k,j,z,h=>by simp [tl] at h
 | x :: a,k,0,z,h=>by
  rw [tl] at h;simp at h;subst h
  rfl
 | x :: a,k,j+1,z,h=>by
  rw [tl,aAU] at h;have:=bN3 most a (k+1) j z h;omega
theorem bJ9{t:Tr}{j:Nat}{z:Zl}(h:(kW 2001 t)[j]?=some z):z.2=min (j+z.1.2.sz) 2001:=by
 have h':((tl 2001 0 (pp [] t)).take 2001)[j]?=some z:=by
  unfold kW lJ at h;rw [aAP,List.length_nil,Nat.sub_zero] at h;exact h
 have hj:(tl 2001 0 (pp [] t))[j]?=some z:=by
  obtain⟨hl,hv⟩:=m8.1 h';rw [aAC] at hl;rw [List.getElem_take] at hv;exact m8.2 ⟨by omega,hv⟩
 have:=bN3 _ _ _ _ _ hj;omega
theorem aY7{c f:Bool}{p:Way}{t:Tr}{i g:Nat}(h:cB c f p t i g=0)(hk:t.f.k=7):t.f.n=(g:Int)+1:=by
 obtain⟨h1,h2,h3⟩:=kF h;exact(jG.1 ⟨(by rw [hk];rfl),h2,h3⟩).2 hk
def RG(c f:Bool)(pre:List El):Prop:=∀ (j:Nat) (y:El),pre[j]?=some y->cB c f y.1 y.2 j (bZ (pre.take j))=0
theorem RG.nil(c f:Bool):RG c f []:=fun j y h=>by simp at h
theorem RG.step{c f:Bool}{pre:List El}{x:El}(h:RG c f pre)(hx:cB c f x.1 x.2 pre.length (bZ pre)=0):RG c f (pre++[x]):=fun j y hy=>by
 rcases Nat.lt_or_ge j pre.length with hj | hj
 ·rw [aAE hj] at hy;rw [aCK (by omega)];exact h j y hy
 ·rw [aAF hj] at hy;have h0:j-pre.length=0:=by
   rcases Nat.eq_zero_or_pos (j-pre.length) with z | z
   ·exact z
   ·rw [show j-pre.length=(j-pre.length-1)+1 by omega] at hy;simp at hy
  rw [h0] at hy;simp at hy;subst hy;have hj2:j=pre.length:=by omega
  subst hj2;rw [List.take_left];exact hx
theorem nE{c f:Bool}:∀ (a b:List El) (i g:Nat),(∀ (j:Nat) (y:El),a[j]?=some y->cB c f y.1 y.2 (i+j) (g+bZ (a.take j))=0)->aU c f i g (a++b)=aU c f (i+a.length) (g+bZ a) b
 | [],b,i,g,_=>by simp [bZ]
 | x :: a,b,i,g,h=>by
  have h0:=h 0 x rfl;rw [aAA,aAR] at h0;have h0':cB c f x.1 x.2 i g=0:=h0;have ih:=nE a b (i+1) (g+(if x.2.f.k=7 then 1 else 0)) (fun j y hy=>by
   have:=h (j+1) y (by rw [aAU];exact hy);rw [aBS,bZ] at this;rw [show i+1+j=i+(j+1) by omega,aAO];exact this)
  rw [aAI];simp only [aU,h0',ne_eq,not_true,if_false];rw [ih,r8,bZ,show i+1+a.length=i+(a.length+1) by omega,aAO]
theorem RG.stop{c f:Bool}{t:Tr}{j:Nat}{x:El}{m:Int}(h:RG c f ((pp [] t).take j))(hx:(pp [] t)[j]?=some x)(hm:cB c f x.1 x.2 j (bZ ((pp [] t).take j))=m)(h0:m≠0):aU c f 0 0 (pp [] t)=m:=by
 have hj:=(m8.1 hx).1;have e:pp [] t=(pp [] t).take j++x :: (pp [] t).drop (j+1):=by
  have:=aBZ j (pp [] t);rw [aBF hj,(m8.1 hx).2] at this;exact this.symm
 have hl:((pp [] t).take j).length=j:=by rw [aAC];omega
 have hs:=nE ((pp [] t).take j) (x :: (pp [] t).drop (j+1)) 0 0 (fun k y hy=>by rw [n7,n7];exact h k y hy);rw [<- e,n7,n7,hl] at hs;rw [hs];simp only [aU,hm,ne_eq,h0,not_false_eq_true,if_true]
theorem RG.all{c f:Bool}{t:Tr}(h:RG c f (pp [] t)):aU c f 0 0 (pp [] t)=0:=by
 have hs:=nE (pp [] t) [] 0 0 (fun k y hy=>by rw [n7,n7];exact h k y hy);rw [aBT] at hs;rw [hs]
 rfl
theorem rT{t:Tr}{j:Nat}{x:El}(hx:(pp [] t)[j]?=some x):(pp [] t).take j++[x] <+: pp [] t:=by
 have:(pp [] t).take (j+1)=(pp [] t).take j++[x]:=by rw [t9,hx];rfl
 rw [<- this];exact List.take_prefix _ _
theorem vU{t:Tr}{j k:Nat}{y:El}(h:((pp [] t).take j)[k]?=some y):(pp [] t)[k]?=some y:=by
 obtain⟨hl,hv⟩:=m8.1 h;rw [aAC] at hl;rw [List.getElem_take] at hv;exact m8.2 ⟨by omega,hv⟩
open Classical in
theorem aY8{c f:Bool}{p:Way}{t:Tr}{i g:Nat}(hbr:∀ par i r,p=(par,i) :: r->par.f.k=5->brP r=true):cB c f p t i g=if i=2000 then 42 else if 40<p.length+1 then 43 else if ¬ (bQ c f p t/\(t.f.k=7->t.f.n=(g:Int)+1)) then 50 else if t.f.k=7/\30<t.f.n then 42 else if t.f.k=8/\¬ (eZ p t.f.n=false/\t.f.n<=(g:Int)) then 41 else 0:=by
 unfold cB;simp only [aF2 hbr]
structure RS(w5:World)(t:Tr)(c f:Bool)(j gr:Nat)(v:Value)(W:World):Prop where
 le:j<=2000
 cnt:bZ ((pp [] t).take j)=gr
 row:W.ownsRow w5.heap.size 3 1 v gr (iA ((iC 0 ((pp [] t).take j)).map Int.ofNat))
 bel:wBl w5 W
 ok:RG c f ((pp [] t).take j)
theorem RS.next{w5 W W':World}{t:Tr}{c f:Bool}{j gr:Nat}{v:Value}{x:El}(h:RS w5 t c f j gr v W)(hx:(pp [] t)[j]?=some x)(hj:j<2000)(h0:cB c f x.1 x.2 j gr=0)(hk:x.2.f.k≠7)(hb:wBl W W'):RS w5 t c f (j+1) gr v W':=by
 have hl:=(m8.1 hx).1;have hlen:((pp [] t).take j).length=j:=by rw [aAC];omega
 have e:(pp [] t).take (j+1)=(pp [] t).take j++[x]:=by rw [t9,hx];rfl
 refine⟨by omega,?_,?_,aJ h.bel hb lz9,?_⟩
 ·rw [e,jN,if_neg hk,h.cnt];rfl
 ·rw [e,uW,if_neg hk,aBT];exact aH h.row (Fr.of_below (S:=fun _=>False) hb) (fun _ _ z=>z)
 ·rw [e];refine h.ok.step ?_;rw [hlen,h.cnt];exact h0
theorem RS.group{w5 W W':World}{t:Tr}{c f:Bool}{j gr:Nat}{v v':Value}{x:El}(h:RS w5 t c f j gr v W)(hx:(pp [] t)[j]?=some x)(hj:j<2000)(h0:cB c f x.1 x.2 j gr=0)(hk:x.2.f.k=7)(hr:W'.ownsRow w5.heap.size 3 1 v' (gr+1) (iA ((iC 0 ((pp [] t).take j)).map Int.ofNat)++[.I (j:Int)]))(hb:wBl w5 W'):RS w5 t c f (j+1) (gr+1) v' W':=by
 have hl:=(m8.1 hx).1;have hlen:((pp [] t).take j).length=j:=by rw [aAC];omega
 have e:(pp [] t).take (j+1)=(pp [] t).take j++[x]:=by rw [t9,hx];rfl
 refine⟨by omega,?_,?_,hb,?_⟩
 ·rw [e,jN,if_pos hk,h.cnt]
 ·rw [e,uW,if_pos hk,hlen,aBU,zE];exact hr
 ·rw [e];refine h.ok.step ?_;rw [hlen,h.cnt];exact h0
theorem RS.back{w5 W:World}{t:Tr}{c f:Bool}{j gr:Nat}{v:Value}{x:El}(h:RS w5 t c f j gr v W)(hx:(pp [] t)[j]?=some x)(hj:j<2000){N:Nat}(hN:N<gr):∃ jj:Nat,(iC 0 ((pp [] t).take j))[N]?=some jj/\∃ y,(pp [] t)[jj]?=some y/\jj<j/\(eZ x.1 ((N:Int)+1)=false↔min (jj+y.2.sz) 2001<=j):=by
 have hl:=(m8.1 hx).1;have hlen:((pp [] t).take j).length=j:=by rw [aAC];omega
 have hg:N<(iC 0 ((pp [] t).take j)).length:=by rw [oU,h.cnt];exact hN
 obtain⟨jj,hjj⟩:∃ jj,(iC 0 ((pp [] t).take j))[N]?=some jj:=⟨_,m7 hg⟩;obtain⟨y,hy,hiff⟩:=bW1 (rT hx) (fun k z hz hk=>aY7 (h.ok k z hz) hk) (by omega) hjj;rw [hlen] at hiff;have:=(m8.1 hy).1;exact⟨jj,hjj,y,vU hy,by omega,hiff⟩
theorem aH6{w:World}{t:Tr}(c f:Bool)(hta:TB w t)(hsm:∀ x∈pp [] t,x.2.f.rs.length<=1048580):Calls Tryz.prog 6 #[.agg (nDf t.f),.agg #[.bool c,.bool f]] w fun e w'=>e=.returned (.I (aU c f 0 0 (pp [] t)))/\wBl w w':=by
 have B1:Hid (wBl w ((w.alloc (.cells (nDf t.f) 25)).alloc (.cells #[.bool c,.bool f] 27))):=(bz9).alloc (by simp) _;have N1:Hid (BoxN ((w.alloc (.cells (nDf t.f) 25)).alloc (.cells #[.bool c,.bool f] 27)) w.heap.size t.f):=(Below.heap_alloc _ _ _ (by simp)).trans (aE w _);have M1:Hid (((w.alloc (.cells (nDf t.f) 25)).alloc (.cells #[.bool c,.bool f] 27)).heap[w.heap.size+1]?=some (.cells #[.bool c,.bool f] 27 (0,0))):=(by
  have:=aE (w.alloc (.cells (nDf t.f) 25)) (.cells #[.bool c,.bool f] 27);rwa [f8] at this)
 have HTA:=aC hta;have HSM:=aC hsm;obtain⟨R,hR⟩:∃ R,aU c f 0 0 (pp [] t)=R:=⟨_,rfl⟩;rw [hR];have HR:=aC hR;clear hta hsm hR;go_enter Tryz.func6,Tryz.ntmps6;go_upto_region 1 with fail
 generalize ((w.alloc (.cells (nDf t.f) 25)).alloc (.cells #[.bool c,.bool f] 27))=W1 at B1 N1 M1 ⊢;generalize w.heap.size+1=bm at M1 ⊢;obtain⟨c0,c1,c2,c3,c4,c5⟩:=N1.o.six;simp only [n7] at c1 c2 c3 c4 c5;have LA:=aC (aZ7 (w:=W1) 2001 (by omega) (HTA.o.kept B1.o));have HZL:=aC (oN 2001 t);have HZM:=aC (sO 2001 t);have HTO:=aC (fun (j:Nat) (z:Zl) (h:(kW 2001 t)[j]?=some z)=>bJ9 h);have hz:=oN 2001 t;have hzl:(kW 2001 t).length<=2001:=by omega
 clear hz;generalize kW 2001 t=Z at LA HZL HZM HTO hzl;go_upto_region 5 with (go_at_call 22;refine(LA.o).mono ?_;rintro e w5 ⟨q5,k5,rfl,h51,h52⟩;have Z5:=aC h51;have B5:=aC h52;clear h51 h52)
 have M5:=aC ((B5.o.block _ (aB M1.o)).trans M1.o);have B6:=aC (aJ B1.o B5.o lz9);clear c0 c1 c2 c3 c4 c5 LA B1 B5 N1 M1;go_loopw [8,7,6] (fun i v g wr=>∃ (j gr:Nat) (q:Option Addr) (ca:Nat),j<=Z.length/\i=.I (j:Int)/\v=.slice q gr ca/\g=.I (gr:Int)/\RS w5 t c f j gr (.slice q gr ca) wr) (fun i _ _ _=>Z.length-(intOf i).toNat)
 case atStart=>exact⟨0,0,none,0,r9 _,rfl,rfl,rfl,⟨r9 _,rfl,aBH _ _ _ _,Below.refl _ _,RG.nil c f⟩⟩
 case round=>
  obtain⟨j,gr,q,ca,hj,rfl,rfl,rfl,hs⟩:=hrel;have HS:=aC hs;have hgr:gr<=2000:=by
   have h1:=hs.cnt;have h2:=aK2 ((pp [] t).take j);rw [aAC] at h2;have:=hs.le;omega
  have hj2:=hs.le;clear hs;by_cases hjl:j<Z.length
  case neg=>
   have i0:¬ (j:Int)<(Z.length:Int):=by omega
   have HD:=aC (show R=0 by
    rw [<- HR.o];have h1:=HZL.o;have h2:=HS.o.ok;rw [n9 (by omega)] at h2;exact h2.all)
   have BX:=aC (aJ B6.o HS.o.bel lz9);clear hjl;go_wp2;go_ret;exact⟨congrArg (fun z=>Ending.returned (.I z)) HD.o.symm,BX.o⟩
  have i0:(j:Int)<(Z.length:Int):=by omega
  obtain⟨⟨x,o⟩,hx⟩:∃ z,Z[j]?=some z:=⟨_,m7 hjl⟩;obtain⟨ga,cz,hq⟩:=aL Z5.o (by omega);injection hq with hq1 _ hq2;subst hq1 hq2;have YA:ZR W1.heap.size wr (.slice (some (aDr ga 0)) Z.length k5) Z:=aH Z5.o (Fr.of_below (S:=fun _=>False) HS.o.bel) (fun _ _ z=>z);have x0:wr.cell? ⟨ga,j*12,none⟩=some (.I x.2.f.k):=YA.cells hx (j:=0) rfl;have x1:wr.cell? ⟨ga,j*12+1,none⟩=some (.I x.2.f.n):=YA.cells hx (j:=1) rfl;have x2:wr.cell? ⟨ga,j*12+2,none⟩=some (.I x.2.f.mn):=YA.cells hx (j:=2) rfl;have x3:wr.cell? ⟨ga,j*12+3,none⟩=some (.I x.2.f.mx):=YA.cells hx (j:=3) rfl;have x4:wr.cell? ⟨ga,j*12+4,none⟩=some (.slice x.2.f.rq x.2.f.rs.length x.2.f.rc):=YA.cells hx (j:=4) rfl;have x5:wr.cell? ⟨ga,j*12+5,none⟩=some (.slice x.2.f.kq x.2.f.kl x.2.f.kc):=YA.cells hx (j:=5) rfl;have x6:wr.cell? ⟨ga,j*12+6,none⟩=some (.I ((x.1.length:Int)+1)):=YA.cells hx (j:=6) rfl;have x7:wr.cell? ⟨ga,j*12+7,none⟩=some (.I (arP x.1)):=YA.cells hx (j:=7) rfl;have x8:wr.cell? ⟨ga,j*12+8,none⟩=some (.bool (fiP x.1)):=YA.cells hx (j:=8) rfl;have x9:wr.cell? ⟨ga,j*12+9,none⟩=some (.bool (laP x.1)):=YA.cells hx (j:=9) rfl;have x10:wr.cell? ⟨ga,j*12+10,none⟩=some (.bool (brP x.1)):=YA.cells hx (j:=10) rfl;have x11:wr.cell? ⟨ga,j*12+11,none⟩=some (.I (o:Int)):=YA.cells hx (j:=11) rfl;have hxt:(pp [] t)[j]?=some x:=vU (j:=2001) (by rw [<- HZM.o,aBC,hx];rfl);have HX:=aC hxt;have HBR:=aC (bW5 (rT hxt) HS.o.ok);have HST:=aC (fun (m:Int) (h:cB c f x.1 x.2 j gr=m) (h0:m≠0)=>HR.o.symm.trans (HS.o.ok.stop hxt (by rw [HS.o.cnt];exact h) h0));have BW:=aC (aJ B6.o HS.o.bel lz9);have HNA:=aC ((HTA.o.at (n8 hxt)).node.ck (CK.of_below BW.o));have HSL:=aC (HSM.o x (n8 hxt));have MW:=aC ((HS.o.bel.block _ (aB M5.o)).trans M5.o);have hdp:=uJ (t:=t) (pre:=(pp [] t).take j) (x:=x) (rT hxt);rw [aAC] at hdp;have hdp2:x.1.length<=2001:=by omega
  have lga:ga<wr.heap.size:=(aF YA (g:=ga) rfl).2.1;have HYA:=aC YA;clear hx hxt YA hdp;go_upto_region 8 with fail
  have K2:=aC (show wBl wr (wr.alloc (.cells #[.I x.2.f.k,.I x.2.f.n,.I x.2.f.mn,.I x.2.f.mx,.slice x.2.f.rq x.2.f.rs.length x.2.f.rc,.slice x.2.f.kq x.2.f.kl x.2.f.kc,.I ((x.1.length:Int)+1),.I (arP x.1),.bool (fiP x.1),.bool (laP x.1),.bool (brP x.1),.I (o:Int)] 62)) from bz9);have P2:=aC (aE wr (.cells #[.I x.2.f.k,.I x.2.f.n,.I x.2.f.mn,.I x.2.f.mx,.slice x.2.f.rq x.2.f.rs.length x.2.f.rc,.slice x.2.f.kq x.2.f.kl x.2.f.kc,.I ((x.1.length:Int)+1),.I (arP x.1),.bool (fiP x.1),.bool (laP x.1),.bool (brP x.1),.I (o:Int)] 62));have M2:=aC ((K2.o.block _ (aB MW.o)).trans MW.o);have A2:=aC (HNA.o.ck (CK.of_below K2.o));clear x0 x1 x2 x3 x4 x5 x6 x7 x8 x9 x10 x11;generalize (wr.alloc (.cells #[.I x.2.f.k,.I x.2.f.n,.I x.2.f.mn,.I x.2.f.mx,.slice x.2.f.rq x.2.f.rs.length x.2.f.rc,.slice x.2.f.kq x.2.f.kl x.2.f.kc,.I ((x.1.length:Int)+1),.I (arP x.1),.bool (fiP x.1),.bool (laP x.1),.bool (brP x.1),.I (o:Int)] 62))=W2 at K2 P2 M2 A2 ⊢;obtain⟨b8,hb8⟩:∃ b8,wr.heap.size=b8:=⟨_,rfl⟩;have HNB:=aC (show (Value.slice q gr ca).ownBlock≠some wr.heap.size from fun e=>absurd (aF HS.o.row e).2.1 (Nat.lt_irrefl _));rw [hb8] at P2 HNB ⊢;clear hb8;have B2:=aC (aJ BW.o K2.o lz9);have p0:W2.cell? (aDr b8 0)=some (.I x.2.f.k):=aA P2.o (i:=0) rfl;have p1:W2.cell? (aDr b8 1)=some (.I x.2.f.n):=aA P2.o (i:=1) rfl;have p2:W2.cell? (aDr b8 2)=some (.I x.2.f.mn):=aA P2.o (i:=2) rfl;have p3:W2.cell? (aDr b8 3)=some (.I x.2.f.mx):=aA P2.o (i:=3) rfl;have p4:W2.cell? (aDr b8 4)=some (.slice x.2.f.rq x.2.f.rs.length x.2.f.rc):=aA P2.o (i:=4) rfl;have p5:W2.cell? (aDr b8 5)=some (.slice x.2.f.kq x.2.f.kl x.2.f.kc):=aA P2.o (i:=5) rfl;have p6:W2.cell? (aDr b8 6)=some (.I ((x.1.length:Int)+1)):=aA P2.o (i:=6) rfl;have p7:W2.cell? (aDr b8 7)=some (.I (arP x.1)):=aA P2.o (i:=7) rfl;have p8:W2.cell? (aDr b8 8)=some (.bool (fiP x.1)):=aA P2.o (i:=8) rfl;have p9:W2.cell? (aDr b8 9)=some (.bool (laP x.1)):=aA P2.o (i:=9) rfl;have p10:W2.cell? (aDr b8 10)=some (.bool (brP x.1)):=aA P2.o (i:=10) rfl;have p11:W2.cell? (aDr b8 11)=some (.I (o:Int)):=aA P2.o (i:=11) rfl;have m0:W2.cell? (aDr bm 0)=some (.bool c):=aA M2.o (i:=0) rfl;have m1:W2.cell? (aDr bm 1)=some (.bool f):=aA M2.o (i:=1) rfl;by_cases h2000:j=2000
  ·have e1:(2000:Int)<=(j:Int):=by omega
   have HD:=aC (show R=42 from HST.o 42 (by unfold cB;rw [if_pos h2000]) (by decide));clear h2000;go_wp2;go_ret;exact⟨congrArg (fun z=>Ending.returned (.I z)) HD.o.symm,B2.o⟩
  have e1:¬ (2000:Int)<=(j:Int):=by omega
  have hj3:j<2000:=by omega
  by_cases h40:40<x.1.length+1
  ·have e2:(40:Int)<(x.1.length:Int)+1:=by omega
   have HD:=aC (show R=43 from HST.o 43 (by unfold cB;rw [if_neg h2000,if_pos h40]) (by decide));clear h2000 h40;go_wp2;go_ret;exact⟨congrArg (fun z=>Ending.returned (.I z)) HD.o.symm,B2.o⟩
  have e2:¬ (40:Int)<(x.1.length:Int)+1:=by omega
  have FM:=aC (bI1 x.1 x.2 o c f A2.o HSL.o);have HL:=aC (show cB c f x.1 x.2 j gr=_ by rw [aY8 HBR.o,if_neg h2000,if_neg h40]);clear h2000 h40;go_upto_region 13 with (go_at_call 23;(with_reducible refine(FM.o).mono ?_);rintro e W3 ⟨b3,rfl,hb3,h3⟩;have I3:=aC hb3;have B3:=aC h3;clear hb3 h3)
  have K3:=aC (aJ K2.o B3.o lz9);have BZ:=aC (aJ B2.o B3.o lz9);have P3:=aC ((B3.o.block _ (aB P2.o)).trans P2.o);clear m0 m1 p0 p1 p2 p3 p4 p5 p6 p7 p8 p9 p10 p11 FM e2;have p0:W3.cell? (aDr b8 0)=some (.I x.2.f.k):=aA P3.o (i:=0) rfl;have p1:W3.cell? (aDr b8 1)=some (.I x.2.f.n):=aA P3.o (i:=1) rfl
  cases b3 with
  | false=>
   have HD:=aC (show R=50 from HST.o 50 (by rw [HL.o,if_pos (fun z=>by cases I3.o.2 z.1)]) (by decide));go_wp2;go_ret;exact⟨congrArg (fun z=>Ending.returned (.I z)) HD.o.symm,BZ.o⟩
  | true=>
   have HF:=aC (I3.o.1 rfl);by_cases h7:x.2.f.k=7
   ·have e7:(x.2.f.k==7)=true:=beq_iff_eq.2 h7;have e8:(x.2.f.k==8)=false:=n6.2 (by omega);have H7:=aC h7;clear h7;by_cases hn:x.2.f.n=(gr:Int)+1
    case neg=>
     have en:(x.2.f.n != (gr:Int)+1)=true:=bne_iff_ne.2 hn;have HD:=aC (show R=50 from HST.o 50 (by rw [HL.o,if_pos (fun z=>hn (z.2 H7.o))]) (by decide));clear hn;go_wp2;go_ret;exact⟨congrArg (fun z=>Ending.returned (.I z)) HD.o.symm,BZ.o⟩
    have en:(x.2.f.n != (gr:Int)+1)=false:=(by simpa using hn);have HN:=aC hn;clear hn;have R3:=aC (aH HS.o.row (Fr.of_below (S:=fun _=>False) K3.o) (fun _ _ z=>z));have S3:=aC (show w5.heap.size<=W3.heap.size from m9 HS.o.bel.size K3.o.size);obtain⟨t0,hi,hz0,hz1,hz2⟩:=aW jH;generalize hgp:iA ((iC 0 ((pp [] t).take j)).map Int.ofNat)=GP at R3;have HGP:=aC hgp;clear hgp;go_upto_region 18 with (at_builtin;refine wpList_append_own_at _ rfl _ _ 44 rfl w5.heap.size 3 t0 (.I 0) 1 8 jE hi hz0 hz1 hz2 rfl (by decide) (.slice q gr ca) gr GP rfl (o9 R3.o (.cells #[.I (j:Int)] 3)) (aDr W3.heap.size 0) 1 1 [.I (j:Int)] rfl rfl (bV4 _ _ _) (by simp [Value.oneCell']) (by unfold maxLen;omega) (by omega) (by have:=S3.o;simp;omega) ?_;intro v' w6 hown' hgrow _ hblk;obtain⟨g6,cap6,rfl⟩:=aL hown' (aAM _);have O6:=aC hown';have G6:=aC hgrow;clear hown' hgrow hblk)
    have L6:=aC (show wBl w5 w6 from bB (aJ HS.o.bel K3.o lz9) (((Fr.refl (fun z=>(Value.slice q gr ca).ownBlock=some z) W3).alloc (.cells #[.I (j:Int)] 3)).grown G6.o (fun z hz=>hz)) lz9 (fun z hz=>(aF R3.o hz).1));have P6:=aC (show w6.heap[b8]?=some (.cells #[.I x.2.f.k,.I x.2.f.n,.I x.2.f.mn,.I x.2.f.mx,.slice x.2.f.rq x.2.f.rs.length x.2.f.rc,.slice x.2.f.kq x.2.f.kl x.2.f.kc,.I ((x.1.length:Int)+1),.I (arP x.1),.bool (fiP x.1),.bool (laP x.1),.bool (brP x.1),.I (o:Int)] 62 (0,0)) from (G6.o.block _ (by simp;have:=aB P3.o;omega) (fun e=>HNB.o e.symm)).trans ((Below.heap_alloc _ _ _ (aB P3.o)).trans P3.o));have p0':w6.cell? (aDr b8 0)=some (.I x.2.f.k):=aA P6.o (i:=0) rfl;clear p0 p1;by_cases h30:30<gr+1
    ·have e3:(30:Int)<(gr:Int)+1:=by omega
     have HD:=aC (show R=42 from HST.o 42 (by rw [HL.o,if_neg (fun z=>z ⟨HF.o,fun _=>HN.o⟩),if_pos ⟨H7.o,by rw [HN.o];exact e3⟩]) (by decide));have BX:=aC (aJ B6.o L6.o lz9);clear h30;go_wp2;go_ret;exact⟨congrArg (fun z=>Ending.returned (.I z)) HD.o.symm,BX.o⟩
    have e3:¬ (30:Int)<(gr:Int)+1:=(by omega);have HD:=aC (show cB c f x.1 x.2 j gr=0 by rw [HL.o,if_neg (fun z=>z ⟨HF.o,fun _=>HN.o⟩),if_neg (fun z=>e3 (by have:=z.2;rw [HN.o] at this;exact this)),if_neg (fun z=>by have:=z.1;rw [H7.o] at this;cases this)]);clear h30;go_wp2;go_roundw
    case rel=>exact⟨j+1,gr+1,_,_,by omega,by go_num,rfl,by go_num,HS.o.group HX.o hj3 HD.o H7.o (by rw [HGP.o];exact O6.o) L6.o⟩
    case measure=>simp only [intOf];omega
   have e7:(x.2.f.k==7)=false:=n6.2 h7;by_cases h8:x.2.f.k=8
   case neg=>
    have e8:(x.2.f.k==8)=false:=n6.2 h8;have HD:=aC (show cB c f x.1 x.2 j gr=0 by rw [HL.o,if_neg (fun z=>z ⟨HF.o,fun q=>absurd q h7⟩),if_neg (fun z=>h7 z.1),if_neg (fun z=>h8 z.1)]);have H7:=aC h7;clear h7 h8;go_wp2;go_roundw
    case rel=>exact⟨j+1,gr,_,_,by omega,by go_num,rfl,rfl,HS.o.next HX.o hj3 HD.o H7.o K3.o⟩
    case measure=>simp only [intOf];omega
   have e8:(x.2.f.k==8)=true:=beq_iff_eq.2 h8;have HL8:=aC (show cB c f x.1 x.2 j gr=_ by rw [HL.o,if_neg (fun z=>z ⟨HF.o,fun q=>absurd q h7⟩),if_neg (fun z=>h7 z.1)]);have hn1:1<=x.2.f.n:=by
    have:=HF.o.2;unfold cY at this;rw [if_neg (by omega),if_neg (by omega),if_neg (by omega),if_neg (by omega),if_pos h8] at this;exact this.1.1
   have H7:=aC h7;have H8:=aC h8;clear h7 h8 HL;by_cases hg:x.2.f.n<=(gr:Int)
   case neg=>
    have eg:(gr:Int)<x.2.f.n:=(by omega);have HD:=aC (show R=41 from HST.o 41 (by rw [HL8.o,if_pos ⟨H8.o,fun z=>hg z.2⟩]) (by decide));clear hg hn1;go_wp2;go_ret;exact⟨congrArg (fun z=>Ending.returned (.I z)) HD.o.symm,BZ.o⟩
   have eg:¬ (gr:Int)<x.2.f.n:=by omega
   obtain⟨N,hN⟩:∃ N:Nat,x.2.f.n=(N:Int)+1:=⟨(x.2.f.n-1).toNat,by omega⟩;have HN:=aC hN;have hNg:N<gr:=(by omega);have p1':W3.cell? (aDr b8 1)=some (.I ((N:Int)+1)):=(by rw [<- hN];exact p1);have eg':¬ (gr:Int)<(N:Int)+1:=(by omega);have hnn:x.2.f.n<=(gr:Int):=hg;have HNN:=aC hnn;clear p1 eg hg hn1 hN hnn;obtain⟨jj,hjj,y,hy,hjj2,hiff⟩:=HS.o.back HX.o hj3 hNg;have R3:=aH HS.o.row (Fr.of_below (S:=fun _=>False) K3.o) (fun _ _ z=>z);obtain⟨gb,cb,hqb⟩:=aL R3 (by omega);injection hqb with hqb1 _ hqb2;subst hqb1 hqb2;have a0:W3.cell? (aDr gb N)=some (.I (jj:Int)):=by
    have:=aM R3 (j:=N) (u:=.I (jj:Int)) (aZ9 (by rw [aBC,hjj];rfl));exact this
   obtain⟨zz,hzz⟩:∃ zz,Z[jj]?=some zz:=⟨_,m7 (by omega)⟩;have hyz:zz.1=y:=by
    have h1:(pp [] t)[jj]?=some zz.1:=vU (j:=2001) (by rw [<- HZM.o,aBC,hzz];rfl);rw [hy] at h1;exact(t8 h1).symm
   have hto:=HTO.o jj zz hzz;rw [hyz] at hto;rw [<- hto] at hiff;have Y3:ZR W1.heap.size W3 (.slice (some (aDr ga 0)) Z.length k5) Z:=aH HYA.o (Fr.of_below (S:=fun _=>False) K3.o) (fun _ _ z=>z);have a1:W3.cell? ⟨ga,jj*12+11,none⟩=some (.I (zz.2:Int)):=Y3.cells hzz (j:=11) rfl;generalize zz.2=tt at a1 hto hiff;have lgb:gb<W3.heap.size:=(aF R3 (g:=gb) rfl).2.1;have HIF:=aC hiff;have hjz:jj<Z.length:=(by omega);clear R3 Y3 hjj hy hzz hyz hto hiff;by_cases hto:tt<=j
   ·have et:¬ (j:Int)<(tt:Int):=by omega
    have HD:=aC (show cB c f x.1 x.2 j gr=0 by rw [HL8.o,if_neg (fun z=>z.2 ⟨by rw [HN.o];exact HIF.o.2 hto,HNN.o⟩)]);clear hto;go_wp2;go_roundw
    case rel=>exact⟨j+1,gr,_,_,by omega,by go_num,rfl,rfl,HS.o.next HX.o hj3 HD.o H7.o K3.o⟩
    case measure=>simp only [intOf];omega
   ·have et:(j:Int)<(tt:Int):=by omega
    have HD:=aC (show R=41 from HST.o 41 (by rw [HL8.o,if_pos ⟨H8.o,fun z=>hto (HIF.o.1 (by rw [<- HN.o];exact z.1))⟩]) (by decide));clear hto;go_wp2;go_ret;exact⟨congrArg (fun z=>Ending.returned (.I z)) HD.o.symm,BZ.o⟩
end
section
attribute [local go_sem] Oper.semAt_some aT
def Sm(t:Tr):Prop:=∀ x∈pp [] t,x.2.f.rs.length<=1048580
theorem aO2{w:World}{t:Tr}(c o:Bool)(hta:TB w t)(hsm:Sm t):Calls Tryz.prog 24 #[.agg (nDf t.f),.agg #[.bool c,.bool o]] w fun e w'=>e=.returned (.bool (decide (aU c o 0 0 (pp [] t)=0)))/\wBl w w':=by
 have B1:Hid (wBl w ((w.alloc (.cells (nDf t.f) 25)).alloc (.cells #[.bool c,.bool o] 27))):=(bz9).alloc (by simp) _;have X1:Hid (BoxN ((w.alloc (.cells (nDf t.f) 25)).alloc (.cells #[.bool c,.bool o] 27)) w.heap.size t.f):=(Below.heap_alloc _ _ _ (by simp)).trans (aE w _);have X2:Hid (((w.alloc (.cells (nDf t.f) 25)).alloc (.cells #[.bool c,.bool o] 27)).heap[w.heap.size+1]?=some (.cells #[.bool c,.bool o] 27 (0,0))):=aK _ (by simp only [f8]);have HTA:=aC hta;have HSM:=aC hsm;clear hta hsm;go_enter Tryz.func24,Tryz.ntmps24;go_upto_region 1 with fail
 generalize ((w.alloc (.cells (nDf t.f) 25)).alloc (.cells #[.bool c,.bool o] 27))=w1 at B1 X1 X2 ⊢;obtain⟨n0,n1,n2,n3,n4,n5⟩:=X1.o.six;simp only [n7] at n1 n2 n3 n4 n5;have a0:=aA X2.o (i:=0) rfl;have a1:=aA X2.o (i:=1) rfl;have RT:=aC (aH6 c o (HTA.o.kept B1.o) HSM.o);obtain⟨r,hr⟩:∃ r,aU c o 0 0 (pp [] t)=r:=⟨_,rfl⟩;have HR:=aC hr;rw [hr] at RT;clear hr;go_wp2_with (go_at_call 6;refine(RT.o).mono ?_;rintro e w2 ⟨rfl,h2⟩;have B2:=aC (aJ B1.o h2 lz9);clear h2)
 go_ret;refine⟨?_,B2.o⟩;rw [HR.o];by_cases h:r=0
 ·subst h;rfl
 ·have h1:(r==0)=false:=by simpa using h
  simp [h,h1]
end
section
attribute [local go_sem] Oper.semAt_some aT
def sG(c:Bool)(t:Tr):Int:=evG (fV c) (fun _=>0) t
theorem aW4(c:Bool)(t:Tr):sG c t=min (cC c t.f (t.ks.map (sG c))) 10001:=by
 have:=kL (ρ:=fV c) (fun _=>0) t;rw [lQ] at this;exact this
theorem aH5(c o:Bool):∀ (m:Nat) (t:Tr),t.sz<=m->t.sz<=2000->bL (NP c o) t->fW (sG c t)
 | 0,t,h,_,_=>absurd h (by have:=dS t;omega)
 | m+1,t,h,h2,hev=>by
  have hx:∀ x∈t.ks.map (sG c),fW x:=fun x hx=>by
   obtain⟨u,hu,rfl⟩:=aAT.1 hx;exact aH5 c o m u (by have:=cH hu;omega) (by have:=cH hu;omega) (bA hev hu)
  have:=uL t (t.ks.map (sG c)) (fun _=>0) ((aQ t).1 hev).1 (by simp) hx (fun _=>⟨by omega,by omega⟩);rw [aW4];exact this
theorem aV3{l:List Tr}{p:Tr->Int}{j:Nat}{x:Tr}(hx:l[j]?=some x):((l.take (j+1)).map p).sum=((l.take j).map p).sum+p x:=by
 rw [t9,hx,aAZ,aBU,List.sum_append];simp
theorem bN9(c:Bool):∀ (m:Nat) (t:Tr),t.sz<=m->∀ g,(ev (fV c) g t).1=sG c t
 | 0,t,h=>absurd h (by have:=dS t;omega)
 | m+1,t,h=>fun g=>by
  have hs:∀ (ks:List Tr),(∀ u∈ks,∀ g,(ev (fV c) g u).1=sG c u)->∀ g,(evs (fV c) g ks).1=ks.map (sG c):=fun ks=>by
   induction ks with
   | nil=>intro _ g;rw [cK];rfl
   | cons u ks ih=>
    intro h g;rw [eB,aBP,h u (by simp) g];simp only;rw [ih (fun v hv=>h v (by simp [hv]))]
  rw [jA,aW4,hs t.ks (fun u hu=>bN9 c m u (by have:=cH hu;omega))]
  rfl
theorem bP3(c o:Bool)(t:Tr):tvI (fV c) c o t=if aU c o 0 0 (pp [] t)=0 then sG c t else 0:=by
 unfold tvI;rw [bN9 c t.sz t lz9]
def wN(c:Bool)(l:lIi):Int:=if c then wide l else 0
def nN(c:Bool)(l:lIi):Int:=if c then gU l else if l.length=0 then 0 else 1
def hiN(c:Bool)(r:Int×Int):Bool:=c&&decide (127<r.2)
theorem bF4(c:Bool)(l:lIi)(r:Int×Int):wN c (l++[r])=if hiN c r then wN c l+16 else wN c l:=by
 unfold wN wide hiN;cases c
 ·simp
 ·by_cases h:127<r.2 <;> simp [h,List.filter_append];omega
theorem bJ7(c:Bool)(l:lIi)(r:Int×Int):nN c (l++[r])=if hiN c r then nN c l else 1:=by
 unfold nN gU hiN;cases c
 ·simp
 ·by_cases h:127<r.2
  ·have h2:decide (r.2<=127)=false:=by simp;omega
   have h3:decide (127<r.2)=true:=by simpa using h
   simp only [if_true,aCP,h3,List.any_append,List.any_cons,List.any_nil,h2,Bool.or_false]
  ·have:r.2<=127:=by omega
   simp [h,this]
theorem bU9(c:Bool)(l:lIi):0<=wN c l/\wN c l<=16*(l.length:Int):=by
 unfold wN wide;cases c
 ·simp;omega
 ·have:=List.length_filter_le (fun r:Int×Int=>decide (127<r.2)) l;simp only [if_true];omega
theorem bV5(c:Bool)(l:lIi):0<=nN c l/\nN c l<=1:=by
 unfold nN gU
 repeat' split
 all_goals omega
theorem bH3(c:Bool)(l:lIi):max (wN c l+nN c l) 1=oA c l:=by
 unfold wN nN oA;cases c
 ·simp only [aCN,if_false];split <;> omega
 ·rfl
def Bx2(w V:World)(f:Fl)(c o:Bool):Prop:=wBl w V/\BoxN V w.heap.size f/\V.heap[w.heap.size+1]?=some (.cells #[.bool c,.bool o] 27 (0,0))
theorem Bx2.kept{w V V':World}{f:Fl}{c o:Bool}(h:Bx2 w V f c o)(hb:wBl V V'):Bx2 w V' f c o:=⟨aJ h.1 hb lz9,(hb.block _ (aB h.2.1)).trans h.2.1,(hb.block _ (aB h.2.2)).trans h.2.2⟩
theorem aL0(c o:Bool):∀ (m:Nat) (t:Tr) (w:World),t.sz<=m->t.sz<=2000->TB w t->bL (NP c o) t->Calls Tryz.prog 25 #[.agg (nDf t.f),.agg #[.bool c,.bool o]] w fun e w'=>e=.returned (.I (sG c t))/\wBl w w'
 | 0,t,_,h,_,_,_=>absurd h (by have:=dS t;omega)
 | m+1,t,w,hm,hsz,hta,hev=>by
  have IH:Hid (∀ (u:Tr) (W:World),u∈t.ks->wBl w W->Calls Tryz.prog 25 #[.agg (nDf u.f),.agg #[.bool c,.bool o]] W fun e w'=>e=.returned (.I (sG c u))/\wBl W w'):=fun u W hu hW=>aL0 c o m u W (by have:=cH hu;omega) (by have:=cH hu;omega) ((hta.kept hW).kid hu) (bA hev hu);have GD:Hid (∀ u∈t.ks,fW (sG c u)):=fun u hu=>aH5 c o m u (by have:=cH hu;omega) (by have:=cH hu;omega) (bA hev hu);have hnp:NP c o t:=((aQ t).1 hev).1;have hnb:=hta.node;have HNB:=aC hnb;have HKL:=aC hnb.kl;have HLN:Hid (t.ks.length<=2000):=by have h1:=cO t.ks;have h2:=fE t;exact aC (by omega)
  obtain⟨q1,cap1,eq1,-,-,hk3⟩:=hnb.k.slice;injection eq1 with eq1 eq2 eq3;subst eq1 eq3;have HK3:=aC hk3;have SM:Hid (∀ j,0<=((t.ks.take j).map (sG c)).sum/\((t.ks.take j).map (sG c)).sum<=20002000):=fun j=>by
   have h1:=rV (l:=(t.ks.take j).map (sG c)) (fun x hx=>by
    obtain⟨u,hu,rfl⟩:=aAT.1 hx;exact GD.o u (aAJ hu))
   have h2:((t.ks.take j).map (sG c)).length<=2000:=by rw [aAG,aAC];have:=HLN.o;omega
   omega
  have X1:Hid (Bx2 w ((w.alloc (.cells (nDf t.f) 25)).alloc (.cells #[.bool c,.bool o] 27)) t.f c o):=⟨(bz9).alloc (by simp) _,(Below.heap_alloc _ _ _ (by simp)).trans (aE w _),aK _ (by simp only [f8])⟩;clear hta hev hnb hm hk3 eq2 hsz;go_enter Tryz.func25,Tryz.ntmps25;go_upto_region 3 with fail
  generalize hV:(w.alloc (.cells (nDf t.f) 25)).alloc (.cells #[.bool c,.bool o] 27)=V at X1 ⊢;clear hV;go_loopw [5,6] (fun s i wr=>∃ j:Nat,j<=t.ks.length/\s=.I ((t.ks.take j).map (sG c)).sum/\i=.I (j:Int)/\Bx2 w wr t.f c o) (fun _ i _=>t.ks.length-(intOf i).toNat)
  case atStart=>exact⟨0,r9 _,rfl,rfl,X1.o⟩
  case round=>
   obtain⟨j,hj,rfl,rfl,hx⟩:=hrel;have XW:=aC hx;clear hx;have hln:=HLN.o;obtain⟨S,hS⟩:∃ S,((t.ks.take j).map (sG c)).sum=S:=⟨_,rfl⟩;have hS1:=SM.o j;rw [hS] at hS1 ⊢;have HS:=aC hS;clear hS;obtain⟨n0,n1,n2,n3,n4,n5⟩:=XW.o.2.1.six;simp only [n7] at n1 n2 n3 n4 n5;have a0:=aA XW.o.2.2 (i:=0) rfl;have a1:=aA XW.o.2.2 (i:=1) rfl;by_cases hjl:j<t.ks.length
   ·obtain⟨u,hu⟩:∃ u,t.ks[j]?=some u:=⟨_,m7 hjl⟩;have hi:(j:Int)<(t.f.kl:Int):=(by rw [HKL.o];omega);have DN:=aC (aV3 (p:=sG c) hu);have hin:=n8 hu;have hg:=GD.o u hin;obtain⟨X,hX⟩:∃ X,sG c u=X:=⟨_,rfl⟩;have CU:Hid (∀ W,wBl wr W->Calls Tryz.prog 25 #[.agg (nDf u.f),.agg #[.bool c,.bool o]] W fun e w'=>e=.returned (.I X)/\wBl W w'):=fun W hW=>by
     have:=IH.o u W hin (aJ XW.o.1 hW lz9);rw [hX] at this;exact this
    rw [hX] at DN hg;rw [HS.o] at DN;unfold fW at hg;obtain⟨gq,off,hq,hgl,six⟩:=HK3.o j u hu;rw [hq] at n5;clear hq;obtain⟨c0,c1,c2,c3,c4,c5⟩:=six.ck (CK.of_below XW.o.1) hgl;have l0:w.heap.size<wr.heap.size:=aB XW.o.2.1;have l1:w.heap.size+1<wr.heap.size:=aB XW.o.2.2;have l2:gq<wr.heap.size:=(by omega);have w1:wrap64 (S+X)=S+X:=(by unfold wrap64;omega);have w2:IntKind.wrap .i64 (S+X)=S+X:=(by rw [IntKind.wrap_i64];omega);clear hu six hX;go_upto_region 5 with fail
    refine wx9 ?_
    repeat (go_big_quiet_step (first | exact rfl |(go_at_call 25;exact bP (CU.o _ (pY _)))))
    refine wpQuiet_nil ?_;intro w3 hw;have X3:=aC (XW.o.kept (aP hw));clear hw;go_wp2;go_roundw
    case rel=>exact⟨j+1,by omega,by rw [DN.o],by go_num,X3.o⟩
    case measure=>simp only [intOf];omega
   ·have hi:¬ (j:Int)<(t.f.kl:Int):=by rw [HKL.o];omega
    have HSE:Hid ((t.ks.map (sG c)).sum=S):=(by have:=HS.o;rw [n9 (by omega)] at this;exact aC this);have HKI:(t.f.kl:Int)=(t.ks.length:Int):=(by rw [HKL.o]);have hv0:=aC (aW4 c t);clear HS;rcases jL hnp with hk | hk | hk | hk | hk | hk | hk | hk | hk
    ·have hv:Hid (sG c t=1):=aC (by rw [hv0.o,show cC c t.f (t.ks.map (sG c))=1 by unfold cC;rw [hk];simp];decide);have e2:(t.f.k==2)=false:=(by rw [hk];rfl);have e5:(t.f.k==5)=false:=(by rw [hk];rfl);have e6:(t.f.k==6)=false:=(by rw [hk];rfl);have e7:(t.f.k==7)=false:=(by rw [hk];rfl);have e9:(t.f.k==9)=false:=(by rw [hk];rfl);clear hk hnp;go_wp2;go_ret;exact⟨by rw [hv.o];rfl,XW.o.1⟩
    ·have hset:=sM hnp hk;have hk0:t.ks.length=0:=(by have:=hnp.1;unfold cY at this;rw [hk] at this;simp at this;simp [this.2.2.2.2]);have hS0:S=0:=(by rw [<- HSE.o,aCL.1 hk0];rfl);subst hS0;have hrl:=lC hset.1;have hv:Hid (sG c t=min (max (wN c t.f.rs+nN c t.f.rs) 1) 10001):=aC (by rw [hv0.o,bH3];unfold cC;rw [hk];rfl);have HRL:=aC hrl;have e2:(t.f.k==2)=true:=(by rw [hk];rfl);have e5:(t.f.k==5)=false:=(by rw [hk];rfl);have e6:(t.f.k==6)=false:=(by rw [hk];rfl);have e7:(t.f.k==7)=false:=(by rw [hk];rfl);have e9:(t.f.k==9)=false:=(by rw [hk];rfl);clear hk hnp HKI hset hk0 hrl;go_upto_region 21 with fail
     clear n0 n1 n2 n3 n4 n5 a0 a1;go_loopw [5,8,9] (fun s l i wr=>∃ j:Nat,j<=t.f.rs.length/\s=.I (wN c (t.f.rs.take j))/\l=.I (nN c (t.f.rs.take j))/\i=.I (j:Int)/\Bx2 w wr t.f c o) (fun _ _ i _=>t.f.rs.length-(intOf i).toNat)
     case atStart=>exact⟨0,r9 _,by cases c <;> rfl,by cases c <;> rfl,rfl,XW.o⟩
     case round=>
      obtain⟨k,hkj,rfl,rfl,rfl,hx2⟩:=hrel;have XV:=aC hx2;clear hx2;have hrl:=HRL.o;obtain⟨A,hA⟩:∃ A,wN c (t.f.rs.take k)=A:=⟨_,rfl⟩;obtain⟨N,hN⟩:∃ N,nN c (t.f.rs.take k)=N:=⟨_,rfl⟩;have hA1:=bU9 c (t.f.rs.take k);have hN1:=bV5 c (t.f.rs.take k);have hlt:((t.f.rs.take k).length:Int)<=600000:=(by rw [aAC];omega);rw [hA] at hA1 ⊢;rw [hN] at hN1 ⊢;have HA:=aC hA;have HN:=aC hN;clear hA hN;obtain⟨n0,n1,n2,n3,n4,n5⟩:=XV.o.2.1.six;simp only [n7] at n1 n2 n3 n4 n5;have a0:=aA XV.o.2.2 (i:=0) rfl;have a1:=aA XV.o.2.2 (i:=1) rfl;by_cases hkl:k<t.f.rs.length
      ·obtain⟨⟨ra,rb⟩,hr⟩:∃ r,t.f.rs[k]?=some r:=⟨_,m7 hkl⟩;have hi2:(k:Int)<(t.f.rs.length:Int):=(by omega);have ht1:t.f.rs.take (k+1)=t.f.rs.take k++[(ra,rb)]:=(by rw [t9,hr];rfl);have D1:=aC (show wN c (t.f.rs.take (k+1))=if hiN c (ra,rb) then A+16 else A by rw [ht1,bF4,HA.o]);have D2:=aC (show nN c (t.f.rs.take (k+1))=if hiN c (ra,rb) then N else 1 by rw [ht1,bJ7,HN.o]);have HAR:=aC (HNB.o.r.kept XV.o.1);obtain⟨q2,cap2,eq2,-,-,hcell⟩:=HAR.o.slice;injection eq2 with eq2 eq3 eq4;subst eq2 eq4;obtain⟨gr,off,hq,hgr,r0,r1⟩:=hcell k _ hr;rw [aAV] at r0 r1;simp only at r0 r1;rw [hq] at n4;have w1:wrap64 (A+16)=A+16:=(by unfold wrap64;omega);have w2:IntKind.wrap .i64 (A+16)=A+16:=(by rw [IntKind.wrap_i64];omega);clear hq hcell hr eq3 ht1
       cases c with
       | false=>
        rw [show hiN false (ra,rb)=false from rfl] at D1 D2;simp only [aCN,if_false] at D1 D2;go_wp2;go_roundw
        case rel=>exact⟨k+1,by omega,by rw [D1.o],by rw [D2.o],by go_num,XV.o⟩
        case measure=>simp only [intOf];omega
       | true=>
        by_cases hh:127<rb
        ·have hd:decide (127<rb)=true:=by simpa using hh
         rw [show hiN true (ra,rb)=true by unfold hiN;rw [hd];rfl,if_pos rfl] at D1 D2;go_wp2;go_roundw
         case rel=>exact⟨k+1,by omega,by rw [D1.o],by rw [D2.o],by go_num,XV.o⟩
         case measure=>simp only [intOf];omega
        ·have hd:decide (127<rb)=false:=by simpa using hh
         rw [show hiN true (ra,rb)=false by unfold hiN;rw [hd];rfl] at D1 D2;simp only [aCN,if_false] at D1 D2;go_wp2;go_roundw
         case rel=>exact⟨k+1,by omega,by rw [D1.o],by rw [D2.o],by go_num,XV.o⟩
         case measure=>simp only [intOf];omega
      ·have hi2:¬ (k:Int)<(t.f.rs.length:Int):=by omega
       have hv2:Hid (sG c t=min (max (A+N) 1) 10001):=by
        have h1:=HA.o;have h2:=HN.o;rw [n9 (by omega)] at h1 h2;exact aC (by rw [hv.o,h1,h2])
       have w1:wrap64 (A+N)=A+N:=(by unfold wrap64;omega);have w2:IntKind.wrap .i64 (A+N)=A+N:=(by rw [IntKind.wrap_i64];omega);go_wp2;go_ret;exact⟨by rw [hv2.o];rfl,XV.o.1⟩
    ·have hv:Hid (sG c t=1):=aC (by rw [hv0.o,show cC c t.f (t.ks.map (sG c))=1 by unfold cC;rw [hk];simp];decide);have e2:(t.f.k==2)=false:=(by rw [hk];rfl);have e5:(t.f.k==5)=false:=(by rw [hk];rfl);have e6:(t.f.k==6)=false:=(by rw [hk];rfl);have e7:(t.f.k==7)=false:=(by rw [hk];rfl);have e9:(t.f.k==9)=false:=(by rw [hk];rfl);clear hk hnp;go_wp2;go_ret;exact⟨by rw [hv.o];rfl,XW.o.1⟩
    ·have hv:Hid (sG c t=1):=aC (by rw [hv0.o,show cC c t.f (t.ks.map (sG c))=1 by unfold cC;rw [hk];simp];decide);have e2:(t.f.k==2)=false:=(by rw [hk];rfl);have e5:(t.f.k==5)=false:=(by rw [hk];rfl);have e6:(t.f.k==6)=false:=(by rw [hk];rfl);have e7:(t.f.k==7)=false:=(by rw [hk];rfl);have e9:(t.f.k==9)=false:=(by rw [hk];rfl);clear hk hnp;go_wp2;go_ret;exact⟨by rw [hv.o];rfl,XW.o.1⟩
    ·have hv:Hid (sG c t=min (S+(t.f.kl:Int)) 10001):=aC (by rw [hv0.o];unfold cC;rw [hk,HSE.o,aAG,HKI,Int.add_comm];rfl);have e2:(t.f.k==2)=false:=(by rw [hk];rfl);have e5:(t.f.k==5)=true:=(by rw [hk];rfl);have e6:(t.f.k==6)=false:=(by rw [hk];rfl);have e7:(t.f.k==7)=false:=(by rw [hk];rfl);have e9:(t.f.k==9)=false:=(by rw [hk];rfl);have w1:wrap64 (S+(t.f.kl:Int))=S+(t.f.kl:Int):=(by unfold wrap64;omega);have w2:IntKind.wrap .i64 (S+(t.f.kl:Int))=S+(t.f.kl:Int):=(by rw [IntKind.wrap_i64];omega);clear hk hnp HKI;go_wp2;go_ret;exact⟨by rw [hv.o];rfl,XW.o.1⟩
    ·have hv:Hid (sG c t=min (S+(t.f.kl:Int)) 10001):=aC (by rw [hv0.o];unfold cC;rw [hk,HSE.o,aAG,HKI,Int.add_comm];rfl);have e2:(t.f.k==2)=false:=(by rw [hk];rfl);have e5:(t.f.k==5)=false:=(by rw [hk];rfl);have e6:(t.f.k==6)=true:=(by rw [hk];rfl);have e7:(t.f.k==7)=false:=(by rw [hk];rfl);have e9:(t.f.k==9)=false:=(by rw [hk];rfl);have w1:wrap64 (S+(t.f.kl:Int))=S+(t.f.kl:Int):=(by unfold wrap64;omega);have w2:IntKind.wrap .i64 (S+(t.f.kl:Int))=S+(t.f.kl:Int):=(by rw [IntKind.wrap_i64];omega);clear hk hnp HKI;go_wp2;go_ret;exact⟨by rw [hv.o];rfl,XW.o.1⟩
    ·have hone:=gT hnp (.inl hk);have hv:Hid (sG c t=min (S+2) 10001):=aC (by
      rw [hv0.o];unfold cC;rw [hk,<- HSE.o];obtain⟨u,hu⟩:=List.length_eq_one_iff.1 hone;rw [hu];simp)
     have e2:(t.f.k==2)=false:=(by rw [hk];rfl);have e5:(t.f.k==5)=false:=(by rw [hk];rfl);have e6:(t.f.k==6)=false:=(by rw [hk];rfl);have e7:(t.f.k==7)=true:=(by rw [hk];rfl);have e9:(t.f.k==9)=false:=(by rw [hk];rfl);have w1:wrap64 (S+2)=S+2:=(by unfold wrap64;omega);have w2:IntKind.wrap .i64 (S+2)=S+2:=(by rw [IntKind.wrap_i64];omega);clear hk hnp HKI;go_wp2;go_ret;exact⟨by rw [hv.o];rfl,XW.o.1⟩
    ·have hv:Hid (sG c t=1):=aC (by rw [hv0.o,show cC c t.f (t.ks.map (sG c))=1 by unfold cC;rw [hk];simp];decide);have e2:(t.f.k==2)=false:=(by rw [hk];rfl);have e5:(t.f.k==5)=false:=(by rw [hk];rfl);have e6:(t.f.k==6)=false:=(by rw [hk];rfl);have e7:(t.f.k==7)=false:=(by rw [hk];rfl);have e9:(t.f.k==9)=false:=(by rw [hk];rfl);clear hk hnp;go_wp2;go_ret;exact⟨by rw [hv.o];rfl,XW.o.1⟩
    ·have hone:=gT hnp (.inr hk);have hbd:=nI hnp hk;have hb2:0<=t.f.mn/\t.f.mn<=255/\-1<=t.f.mx/\t.f.mx<=255:=by
      simp only [fI,aAY,Bool.or_eq_true,aBI,beq_iff_eq] at hbd;omega
     have hS9:S<=10001:=by
      rw [<- HSE.o];obtain⟨u,hu⟩:=List.length_eq_one_iff.1 hone;rw [hu];have:=GD.o u (by rw [hu];simp);unfold fW at this;simp;omega
     have hv:Hid (sG c t=min ((S+2)*gS t.f) 10001):=aC (by
      rw [hv0.o];unfold cC;rw [hk,<- HSE.o];obtain⟨u,hu⟩:=List.length_eq_one_iff.1 hone;rw [hu];simp)
     have e2:(t.f.k==2)=false:=(by rw [hk];rfl);have e5:(t.f.k==5)=false:=(by rw [hk];rfl);have e6:(t.f.k==6)=false:=(by rw [hk];rfl);have e7:(t.f.k==7)=false:=(by rw [hk];rfl);have e9:(t.f.k==9)=true:=(by rw [hk];rfl);clear hk hnp HKI hbd hone;have w1:wrap64 (S+2)=S+2:=(by unfold wrap64;omega);have w2:IntKind.wrap .i64 (S+2)=S+2:=(by rw [IntKind.wrap_i64];omega);by_cases hmx:t.f.mx=-1
     ·have q9:(t.f.mx==-1)=true:=by rw [hmx];rfl
      have hv2:Hid (sG c t=min ((S+2)*max (t.f.mn+1) 1) 10001):=aC (by rw [hv.o];unfold gS;rw [if_pos hmx,show max (t.f.mn+1) 1=t.f.mn+1 by omega]);have w3:wrap64 (t.f.mn+1)=t.f.mn+1:=(by unfold wrap64;omega);have w4:IntKind.wrap .i64 (t.f.mn+1)=t.f.mn+1:=(by rw [IntKind.wrap_i64];omega);have hm1:0<=(S+2)*max (t.f.mn+1) 1:=aCM (by omega) (by omega);have hm2:(S+2)*max (t.f.mn+1) 1<=10003*256:=Int.mul_le_mul (by omega) (by omega) (by omega) (by omega);have w5:wrap64 ((S+2)*max (t.f.mn+1) 1)=(S+2)*max (t.f.mn+1) 1:=(by unfold wrap64;omega);have w6:IntKind.wrap .i64 ((S+2)*max (t.f.mn+1) 1)=(S+2)*max (t.f.mn+1) 1:=(by rw [IntKind.wrap_i64];omega);clear hmx hm1 hm2;go_wp2;go_ret;exact⟨by rw [hv2.o];rfl,XW.o.1⟩
     ·have q9:(t.f.mx==-1)=false:=by simpa using hmx
      have hv2:Hid (sG c t=min ((S+2)*max t.f.mx 1) 10001):=aC (by rw [hv.o];unfold gS;rw [if_neg hmx]);have hm1:0<=(S+2)*max t.f.mx 1:=aCM (by omega) (by omega);have hm2:(S+2)*max t.f.mx 1<=10003*256:=Int.mul_le_mul (by omega) (by omega) (by omega) (by omega);have w5:wrap64 ((S+2)*max t.f.mx 1)=(S+2)*max t.f.mx 1:=(by unfold wrap64;omega);have w6:IntKind.wrap .i64 ((S+2)*max t.f.mx 1)=(S+2)*max t.f.mx 1:=(by rw [IntKind.wrap_i64];omega);clear hmx hm1 hm2;go_wp2;go_ret;exact⟨by rw [hv2.o];rfl,XW.o.1⟩
end
section
attribute [local go_sem] Oper.semAt_some
theorem bL6{w:World}{t:Tr}(c o:Bool)(hta:TB w t)(hsm:Sm t):Calls Tryz.prog 7 #[.agg (nDf t.f),.agg #[.bool c,.bool o]] w fun e w'=>e=.returned (.I (tvI (fV c) c o t))/\wBl w w':=by
 have X1:Hid (Bx2 w ((w.alloc (.cells (nDf t.f) 25)).alloc (.cells #[.bool c,.bool o] 27)) t.f c o):=⟨(bz9).alloc (by simp) _,(Below.heap_alloc _ _ _ (by simp)).trans (aE w _),aK _ (by simp only [f8])⟩;have HTA:=aC hta;have HSM:=aC hsm;have HV:=aC (bP3 c o t);clear hta hsm;go_enter Tryz.func7,Tryz.ntmps7;go_upto_region 1 with fail
 generalize ((w.alloc (.cells (nDf t.f) 25)).alloc (.cells #[.bool c,.bool o] 27))=w1 at X1 ⊢;obtain⟨n0,n1,n2,n3,n4,n5⟩:=X1.o.2.1.six;simp only [n7] at n1 n2 n3 n4 n5;have a0:=aA X1.o.2.2 (i:=0) rfl;have a1:=aA X1.o.2.2 (i:=1) rfl;have RT:=aC (aO2 c o (HTA.o.kept X1.o.1) HSM.o);by_cases hr:aU c o 0 0 (pp [] t)=0
 ·have HR:=aC hr;rw [aAQ hr] at RT;rw [if_pos hr] at HV;clear hr;have CS:Hid (∀ W,wBl w W->Calls Tryz.prog 25 #[.agg (nDf t.f),.agg #[.bool c,.bool o]] W fun e w'=>e=.returned (.I (sG c t))/\wBl W w'):=fun W hW=>aL0 c o t.sz t W lz9 (jI HR.o) (HTA.o.kept hW) (dX HR.o);obtain⟨X,hX⟩:∃ X,sG c t=X:=⟨_,rfl⟩;rw [hX] at HV CS;clear hX;go_upto_region 4 with (go_at_call 24;refine(RT.o).mono ?_;rintro e w2 ⟨rfl,h2⟩;have X2:=aC (X1.o.kept h2);clear h2)
  clear n0 n1 n2 n3 n4 n5 a0 a1;obtain⟨n0,n1,n2,n3,n4,n5⟩:=X2.o.2.1.six;simp only [n7] at n1 n2 n3 n4 n5;have a0:=aA X2.o.2.2 (i:=0) rfl;have a1:=aA X2.o.2.2 (i:=1) rfl;go_wp2_with (go_at_call 25;refine(CS.o _ X2.o.1).mono ?_;rintro e w3 ⟨rfl,h3⟩;have B3:=aC (aJ X2.o.1 h3 lz9);clear h3)
  go_ret;exact⟨by rw [HV.o];rfl,B3.o⟩
 ·rw [t6 hr] at RT;rw [if_neg hr] at HV;clear hr;go_wp2_with (go_at_call 24;refine(RT.o).mono ?_;rintro e w2 ⟨rfl,h2⟩;have B2:=aC (aJ X1.o.1 h2 lz9);clear h2)
  go_ret;exact⟨by rw [HV.o];rfl,B2.o⟩
end
section
open Go Go.RowKit Go.Shelf
attribute [local go_sem] Oper.semAt_some aT
theorem bJ8{L:Ln}{t:Tr}(hr:aU L.c L.o 0 0 (pp [] t)=0)(hk:(iZ L.c L.o t).2=true){a:Nat}(hs:StA L.s (iZ L.c L.o t).1 a):(∃ y,Mt L t (cf0 a) y)/\∀ y,Mt L t (cf0 a) y->y.p=a+(iZ L.c L.o t).1.size:=by
 have h2:(tvO (bI L.c) L.c L.o t).2=true:=by
  unfold iZ at hk;by_cases h:(tvO (bI L.c) L.c L.o t).2=true
  ·exact h
  ·rw [if_neg h] at hk;cases hk
 have e1:iZ L.c L.o t=((tvO (bI L.c) L.c L.o t).1,true):=by unfold iZ;rw [if_pos h2]
 have e2:tvO (bI L.c) L.c L.o t=oG L.c t:=by rw [bP2,if_pos hr]
 rw [e2] at e1 h2;rw [e1] at hs ⊢;obtain⟨y,hy,-⟩:=aY9 t (dX hr) h2 (cf0 a) hs;refine⟨⟨y,hy⟩,fun y hy=>?_⟩;have qo:QO L (tvO (bI L.c) L.c L.o t) a y.p:=by
  unfold tvO;rw [if_pos hr];exact aQ5 hr (aD5 _) _ (Gd:=fun _=>True) (fun _ _ _ _ _ _ _=>trivial) (fun _=>trivial) (fun _=>bJ2) (by have:=hs.1;omega) hy
 rw [e2] at qo;exact(qo.2.2.2 h2).symm
theorem bV3{c o:Bool}{t:Tr}(h:NP c o t):t.f.rs.length<=600000:=by
 by_cases k2:t.f.k=2
 ·exact lC (aY0 h k2).1
 ·have h1:=h.1;unfold cY at h1;rcases rB h with k | k | k | k | k | k | k | k | k
  all_goals first | exact absurd k k2 |(rw [k] at h1;simp at h1;simp_all)
theorem yG{c o:Bool}{t:Tr}(h:aU c o 0 0 (pp [] t)=0):∀ x∈pp [] t,x.2.f.rs.length<=600000:=fun x hx=>bV3 ((aQ x.2).1 (gP t [] (dX h) x hx)).1
theorem yZ{c o:Bool}{t:Tr}(h:(iZ c o t).2=true):aU c o 0 0 (pp [] t)=0:=by
 apply Classical.byContradiction;intro hr;unfold iZ tvO at h;rw [if_neg hr] at h;cases h
theorem bJ3{l:List Nat}{n:Nat}(h:l.Pairwise (· < ·))(hm:∀ j∈l,j=n)(hn:n∈l):l=[n]:=by
 match l,h,hm,hn with
 | [],_,_,hn=>cases hn
 | [a],_,hm,_=>rw [hm a (by simp)]
 | a :: b :: r,h,hm,_=>
  have h1:=hm a (by simp);have h2:=hm b (by simp);have h3:=(aBD.1 h).1 b (by simp);omega
theorem bG6(x l z:ByteArray):StA (x++l++z) l x.size:=by
 refine⟨by rw [dN,dN];omega,fun k hk=>?_⟩;rw [tB (by rw [dN];omega),tA]
theorem tU{w:World}{t:Tr}(c o:Bool)(s z:ByteArray)(hs1:s.size<=140737488355328)(hz1:z.size<=140737488355328)(hT:TB w t)(hG:GloS w) :
  Calls Tryz.prog 4 #[.agg (nDf t.f),.string s,.string z,.agg #[.bool c,.bool o]] w fun e w'=>e=.returned (.bool true)/\wBl w w':=by
 have X1:Hid (Bx2 w ((w.alloc (.cells (nDf t.f) 25)).alloc (.cells #[.bool c,.bool o] 27)) t.f c o):=⟨(bz9).alloc (by simp) _,(Below.heap_alloc _ _ _ (by simp)).trans (aE w _),aK _ (by simp only [f8])⟩;have EX:Hid (∀ W,wBl w W->Calls Tryz.prog 5 #[] W fun e w'=>e=.returned (.bool true)/\wBl W w'):=fun W hW=>wS (GloS.ck (CK.of_below hW) hG);have RT:Hid (aU c o 0 0 (pp [] t)=0->∀ W,wBl w W->Calls Tryz.prog 6 #[.agg (nDf t.f),.agg #[.bool c,.bool o]] W fun e w'=>e=.returned (.I (aU c o 0 0 (pp [] t)))/\wBl W w'):=fun hr W hW=>aH6 c o (hT.kept hW) (fun x hx=>m9 (yG hr x hx) (by omega));have DS:Hid (aU c o 0 0 (pp [] t)=0->∀ W,wBl w W->Calls Tryz.prog 7 #[.agg (nDf t.f),.agg #[.bool c,.bool o]] W fun e w'=>e=.returned (.I (tvI (fV c) c o t))/\wBl W w'):=fun hr W hW=>bL6 c o (hT.kept hW) (fun x hx=>m9 (yG hr x hx) (by omega));have PL:Hid (∀ W,wBl w W->Calls Tryz.prog 11 #[.agg (nDf t.f),.agg #[.bool c,.bool o]] W fun e w'=>e=.returned (.tuple #[.string (iZ c o t).1,.bool (iZ c o t).2])/\wBl W w'):=fun W hW=>qN c o (hT.kept hW);have HTA:=aC hT;have HLE:Hid (∀ (L:Ln),L.c=c->L.o=o->aU c o 0 0 (pp [] t)=0->(iZ c o t).2=true->∀ (a:Nat),StA L.s (iZ c o t).1 a->(∃ y,Mt L t (cf0 a) y)/\∀ y,Mt L t (cf0 a) y->y.p=a+(iZ c o t).1.size):=aC fun L h2 h3 hr hk a ha=>by
  subst h2 h3;exact bJ8 hr hk ha
 have HRL:Hid ((iZ c o t).2=true->aU c o 0 0 (pp [] t)=0):=aC yZ;generalize tvI (fV c) c o t=sz at DS;generalize iZ c o t=vl at PL HLE HRL;obtain⟨l,ok⟩:=vl;dsimp only at PL HLE HRL;clear hT hG;go_enter Tryz.func4,Tryz.ntmps4;go_upto_region 1 with fail
 generalize ((w.alloc (.cells (nDf t.f) 25)).alloc (.cells #[.bool c,.bool o] 27))=w1 at X1 ⊢;go_upto_region 2 with (go_at_call 5;refine(EX.o _ X1.o.1).mono ?_;rintro e w2 ⟨rfl,h2⟩;have X2:=aC (X1.o.kept h2);clear h2)
 clear X1 EX;obtain⟨n0,n1,n2,n3,n4,n5⟩:=X2.o.2.1.six;simp only [n7] at n1 n2 n3 n4 n5;have a0:=aA X2.o.2.2 (i:=0) rfl;have a1:=aA X2.o.2.2 (i:=1) rfl;go_upto_region 3 with (go_at_call 11;refine(PL.o _ X2.o.1).mono ?_;rintro e w3 ⟨rfl,h3⟩;have X3:=aC (X2.o.kept h3);clear h3)
 clear n0 n1 n2 n3 n4 n5 a0 a1 X2 PL;obtain⟨n0,n1,n2,n3,n4,n5⟩:=X3.o.2.1.six;simp only [n7] at n1 n2 n3 n4 n5;have a0:=aA X3.o.2.2 (i:=0) rfl;have a1:=aA X3.o.2.2 (i:=1) rfl;have hadd:IntKind.wrap .i64 ((s.size:Int)+(z.size:Int))=(s.size:Int)+(z.size:Int):=by rw [wrap_small _ (by omega) (by omega)]
 cases ok with
 | false=>
  go_wp2;go_ret;exact⟨rfl,X3.o.1⟩
 | true=>
  by_cases h40:(40:Int)<(s.size:Int)+(z.size:Int)
  ·go_wp2;go_ret;exact⟨rfl,X3.o.1⟩
  by_cases h60:(60:Int)<(l.size:Int)
  ·go_wp2;go_ret;exact⟨rfl,X3.o.1⟩
  have HR:=aC (HRL.o (by trivial));have RT:=aC (RT.o HR.o);have DS:=aC (DS.o HR.o);rw [HR.o] at RT;by_cases hsz:10000<sz
  ·go_wp2_with first
    |(go_at_call 6;refine(RT.o _ X3.o.1).mono ?_;rintro e w4 ⟨rfl,h3⟩;have X4:=aC (X3.o.kept h3);clear h3;obtain⟨m0,m1,m2,m3,m4,m5⟩:=X4.o.2.1.six;simp only [n7] at m1 m2 m3 m4 m5;have b0:=aA X4.o.2.2 (i:=0) rfl;have b1:=aA X4.o.2.2 (i:=1) rfl)
    |(go_at_call 7;refine(DS.o _ X4.o.1).mono ?_;rintro e w5 ⟨rfl,h4⟩;have X5:=aC (X4.o.kept h4);clear h4)
   go_ret;exact⟨rfl,X5.o.1⟩
  go_upto_region 5 with first
   |(go_at_call 6;refine(RT.o _ X3.o.1).mono ?_;rintro e w4 ⟨rfl,h3⟩;have X4:=aC (X3.o.kept h3);clear h3;obtain⟨m0,m1,m2,m3,m4,m5⟩:=X4.o.2.1.six;simp only [n7] at m1 m2 m3 m4 m5;have b0:=aA X4.o.2.2 (i:=0) rfl;have b1:=aA X4.o.2.2 (i:=1) rfl)
   |(go_at_call 7;refine(DS.o _ X4.o.1).mono ?_;rintro e w5 ⟨rfl,h4⟩;have X5:=aC (X4.o.kept h4);clear h4)
  clear n0 n1 n2 n3 n4 n5 a0 a1 m0 m1 m2 m3 m4 m5 b0 b1 X3 X4 RT DS hsz;have HSt:=aC (bG6 s l z);have hln:(s++l++z).size<=100:=by rw [dN,dN];omega
  go_upto_region 6 with fail
  generalize s++l++z=ln at HSt hln ⊢;have hsl:s.size+l.size<=ln.size:=HSt.o.1;have a0:=aA X5.o.2.2 (i:=0) rfl;have a1:=aA X5.o.2.2 (i:=1) rfl;have IP:=aC (zC ln (by omega) (s.size:Int) c o w5);go_upto_region 7 with (go_at_call 17;(with_reducible refine(IP.o).mono ?_);rintro e w6 ⟨r,rfl,h1,h2⟩;have X6:=aC (X5.o.kept h2);clear h1 h2)
  clear a0 a1 X5 IP
  cases r with
  | false=>
   go_wp2;go_ret;exact⟨rfl,X6.o.1⟩
  | true=>
   obtain⟨n0,n1,n2,n3,n4,n5⟩:=X6.o.2.1.six;simp only [n7] at n1 n2 n3 n4 n5;have a0:=aA X6.o.2.2 (i:=0) rfl;have a1:=aA X6.o.2.2 (i:=1) rfl;have NW:=aC (bJ6 (HTA.o.kept X6.o.1) HR.o (s:=ln) (by omega));go_upto_region 10 with (go_at_call 13;(with_reducible refine(NW.o).mono ?_);rintro e w11 ⟨H,rs,rfl,h1,h2,h3,h4,h5,h6,h7,h8⟩;have W11:=aC h1;have K11:=aC h2;have HT:=aC h3;have HLS:=aC h4;have HLC:=aC h5;have HLO:=aC h6;have HBE:=aC h7;have hs6:=X6.o.1.size;have X11:=aC (X6.o.kept h8);clear h1 h2 h3 h4 h5 h6 h7 h8)
   clear n0 n1 n2 n3 n4 n5 a0 a1 X6 NW;have hw6:w.heap.size<=H.base:=(by rw [HBE.o];exact hs6);have EN:=aC (bE8 K11.o W11.o (a:=s.size) (by rw [HLS.o];omega));have LE:=aC (HLE.o H.L HLC.o HLO.o HR.o (by trivial) s.size (by rw [HLS.o];exact HSt.o));go_upto_region 11 with (go_at_call 15;(with_reducible refine(EN.o).mono ?_);rintro e w12 ⟨eq,ec,es,rs6,wk6,mu6,rfl,h1,h2,h3,h4,h5⟩;have L12:=aC h1;have E12:=aC h5;have HES:Hid (mu6=false->es=[s.size+l.size]):=aC (fun e=>by rw [HT.o] at h3 h4;refine bJ3 h2 (fun j hj=>by obtain⟨y,hy,e⟩:=h3 j hj;rw [<- e];exact LE.o.2 y hy) (by obtain⟨y,hy⟩:=LE.o.1;have:=h4 e y hy;rwa [LE.o.2 y hy] at this));have B12:Hid (wBl w w12):=aC (X11.o.1.trans (h5.f.below X11.o.1.size (fun k q=>q.elim (fun q=>by have:=W11.o.wf_lo q;omega) (fun q=>q.elim))));clear h1 h2 h3 h4 h5)
   have c17:=E12.o.wm.cell (i:=17) (v:=.bool mu6) rfl
   cases mu6 with
   | true=>
    go_wp2;go_ret;exact⟨rfl,B12.o⟩
   | false=>
    have hes:=HES.o rfl;subst hes;obtain⟨g,rfl,-,-,-⟩:=L12.o.at (by simp);have y0:=L12.o.cell (j:=0) (x:=s.size+l.size) rfl;have hw9:IntKind.wrap .i64 ((s.size:Int)+(l.size:Int))=((s.size+l.size:Nat):Int):=(by rw [wrap_small _ (by omega) (by omega)];omega);generalize s.size+l.size=n at L12 y0 hw9;have ee:((n:Int)==(n:Int))=true:=(by simp);go_wp2;go_ret;exact⟨rfl,B12.o⟩
end
section
open Go Go.ChangeShapes Go.WideShapes Go.ChangeAt Go.RowKit
theorem sX:Tryz.prog.cellsOf 25=6:=by kernel_rfl
theorem aS3:Tryz.prog.cellsOf 92=2:=by kernel_rfl
theorem aF8:Tryz.prog.cellsOf 22=1:=by kernel_rfl
theorem aF9:Tryz.prog.cellsOf 23=1:=by kernel_rfl
theorem aS4:Tryz.prog.bytesOf 92=16:=by kernel_rfl
theorem qG{H:Type}{P:Program}{e:TypeId}{d:DataW H}{n:Nat}:∀ {l:List (DataW H)},d∈l->n∈d.weights P e->n∈DataW.weightsAll P e l
 | [],h,_=>by cases h
 | x :: r,h,hn=>by
  simp only [DataW.weightsAll,o5];rcases aBK.1 h with rfl | h
  ·exact .inl hn
  ·exact .inr (qG h hn)
theorem zW{w:World}{g o:Nat}{v:Value}(h:w.cell? (aDr g o)=some v):g<w.heap.size:=by
 rcases Nat.lt_or_ge g w.heap.size with h' | h'
 ·exact h'
 ·have:w.heap[g]?=none:=Array.getElem?_eq_none h';simp [World.cell?,this] at h
theorem aA1{a:Addr}{W:World}{v:Value}(h:W.cell? (a.add 0)=some v):∃ b off,a=(aDr b off):=by
 obtain⟨b,off,cW⟩:=a
 cases cW with
 | none=>exact⟨b,off,rfl⟩
 | some k=>
  exfalso
  unfold Addr.add World.cell? at h;simp at h
  split at h <;> simp_all
theorem aP5{H:Type}{enc:TypeId×Value->H}{W:World}{fuel:Nat}{v:Value}{x:DataW H×List MemPlace}(hf:DataW.trod enc Tryz.prog W 0 (fun _=>true) true fuel 22 [v]=some x)(hw:∀ n∈x.1.weights Tryz.prog 22,n<=reachBytes) :
  ∃ (rs:lIi) (q:Option Addr) (c:Nat),v=.slice q rs.length c/\ArgR W v rs/\Fit rs/\rs.length+3<=8796093022208:=by
 rcases Deep.open_slice_pairs Tryz.underlying22 Tryz.underlying92 aS3 rfl rfl jT jT hf with⟨h1,h2⟩ | ⟨a,len,cap,m,n,V0,V1,D0,D1,P0,P1,h1,_,hlc,hcap,hm,h2,hx⟩
 ·cases h1;exact⟨[],none,0,rfl,.inl ⟨none,0,rfl,rfl,fun _=>rfl⟩,kJ,by simp⟩
 ·cases h1;rw [if_pos rfl] at hm;subst hm;by_cases hc:m=0
  ·have hl:len=0:=by omega
   subst hc hl;exact⟨[],some a,0,rfl,.inl ⟨some a,0,rfl,rfl,fun q=>(by cases q)⟩,kJ,by simp⟩
  ·have hp:∀ i,i<m->∃ q:Int×Int,V0 i=.int .i64 q.1/\V1 i=.int .i64 q.2/\(Lit.int .i64 q.1).wf=true/\(Lit.int .i64 q.2).wf=true:=fun i hi=>by
    obtain⟨_,_,g0,g1⟩:=hx i hi;obtain⟨x0,e0,_,w0⟩:=DataW.trod_int Tryz.underlying3 g0;obtain⟨x1,e1,_,w1⟩:=DataW.trod_int Tryz.underlying3 g1;exact⟨(x0,x1),by simpa using e0,by simpa using e1,w0,w1⟩
   obtain⟨q,hq⟩:=Deep.choose_lt hp;have c0:=(hx 0 (by omega)).1;obtain⟨b,off,rfl⟩:=aA1 (by simpa using c0);have hadd:∀ j,((aDr b off):Addr).add j=⟨b,off+j,none⟩:=fun j=>by unfold Addr.add;split <;> simp_all
   have hb:b<W.heap.size:=by rw [hadd] at c0;exact zW c0
   refine⟨(List.range len).map q,some (aDr b off),m,by simp,.inr ⟨b,off,m,by simp,hb,by simpa using hlc,hcap,fun i r hi'=>?_⟩,fun r hr=>?_,?_⟩
   ·have hil:i<len:=by have:=(m8.1 hi').1;simpa using this
    have hqi:q i=r:=(by simpa [hil] using hi');obtain⟨k0,k1,_,_⟩:=hx i (by omega);rw [hadd,aAV] at k0;rw [hadd,aAV,<- aAO] at k1;obtain⟨r0,r1,_,_⟩:=hq i (by omega);rw [hqi] at r0 r1;exact⟨by rw [k0,r0],by rw [k1,r1]⟩
   ·obtain⟨i,hi,rfl⟩:=aAT.1 hr;have hil:i<len:=List.mem_range.1 hi;obtain⟨_,_,w0,w1⟩:=hq i (by omega);exact⟨xT w0,xT w1⟩
   ·obtain⟨es,sp,e1,e2⟩:∃ es sp,x.1=.slice es sp/\es.length=len:=⟨_,_,congrArg Prod.fst h2,by simp⟩;have h3:=hw ((es.length+sp.length)*Tryz.prog.bytesOf 92) (by rw [e1];simp [DataW.weights,Tryz.underlying22]);rw [aS4] at h3;have r:reachBytes=140737488351232:=(by decide);simp;omega
theorem aE5{H:Type}{enc:TypeId×Value->H}{W:World}:∀ (fuel:Nat) (cs:List Value) (x:DataW H×List MemPlace),DataW.trod enc Tryz.prog W 0 (fun _=>true) true fuel 25 cs=some x->(∀ n∈x.1.weights Tryz.prog 25,n<=reachBytes) ->
  ∃ t:Tr,TB W t/\cs=[.int .i64 t.f.k,.int .i64 t.f.n,.int .i64 t.f.mn,.int .i64 t.f.mx,.slice t.f.rq t.f.rs.length t.f.rc,.slice t.f.kq t.f.kl t.f.kc]:=by
 intro fuel
 induction fuel using Nat.strongRecOn with
 | ind fuel ih=>
  intro cs x hf hw;obtain⟨xs,k,hk,hxy,hcl,hxl,hfs⟩:=DataW.trod_struct Tryz.underlying25 hf;have hD:x.1=.agg (xs.map (·.1)):=(congrArg Prod.fst hxy);rw [hD] at hw;simp only [DataW.weights,Tryz.underlying25] at hw;rw [sX] at hcl;clear hD hxy hf
  match xs,hxl,cs,hcl,hfs,hw with
  | [y0,y1,y2,y3,y4,y5],_,[v0,v1,v2,v3,v4,v5],_,hf,hwi=>
   have F0:=hf 0 _ rfl;have F1:=hf 1 _ rfl;have F2:=hf 2 _ rfl;have F3:=hf 3 _ rfl;have F4:=hf 4 _ rfl;have F5:=hf 5 _ rfl;simp [jT,aF8,aF9] at F0 F1 F2 F3 F4 F5;obtain⟨x0,e0,_,w0⟩:=DataW.trod_int Tryz.underlying3 F0;obtain⟨x1,e1,_,w1⟩:=DataW.trod_int Tryz.underlying3 F1;obtain⟨x2,e2,_,w2⟩:=DataW.trod_int Tryz.underlying3 F2;obtain⟨x3,e3,_,w3⟩:=DataW.trod_int Tryz.underlying3 F3;obtain⟨rs,q,c,rfl,hr,hfit,hlen⟩:=aP5 F4 (fun n hn=>hwi n (DataW.weights_mem_each (j:=4) (t:=22) rfl rfl n hn));cases e0;cases e1;cases e2;cases e3;have hwk:=fun n hn=>hwi n (DataW.weights_mem_each (j:=5) (t:=23) (d:=y5.1) rfl rfl n hn);rcases DataW.trod_slice Tryz.underlying23 F5 with⟨h1,h2⟩ | ⟨a,len,cap,elems,rest,n,hn,h1,h2,_,hlc,hcap,hel,hx,-,-⟩
   ·cases h1;exact⟨.mk ⟨x0,x1,x2,x3,rs,q,c,none,0,0⟩ [],(aQ _).2 ⟨⟨hr,.inl ⟨none,0,rfl,rfl,fun _=>rfl⟩,hfit,hlen⟩,(cJ _).2 fun u hu=>by cases hu⟩,rfl⟩
   ·cases h1;by_cases hl:len=0
    ·subst hl;exact⟨.mk ⟨x0,x1,x2,x3,rs,q,c,some a,0,cap⟩ [],(aQ _).2 ⟨⟨hr,.inl ⟨some a,cap,rfl,rfl,fun z=>by cases z⟩,hfit,hlen⟩,(cJ _).2 fun u hu=>by cases hu⟩,rfl⟩
    ·have each:∀ i,i<len->∃ t:Tr,TB W t/\∀ j v,[Value.int .i64 t.f.k,.int .i64 t.f.n,.int .i64 t.f.mn,.int .i64 t.f.mx,.slice t.f.rq t.f.rs.length t.f.rc,.slice t.f.kq t.f.kl t.f.kc][j]?=some v->W.cell? (a.add (i*6+j))=some v:=by
      intro i hi;have hxi:=hx i hi;rw [m7 (by omega)] at hxi;obtain⟨cs',g1,g2⟩:=Option.bind_eq_some_iff.1 hxi;rw [sX] at g1;obtain⟨_,hlc',hcell⟩:=World.cells?_some g1;obtain⟨t,ht,hcs⟩:=ih n (by omega) cs' _ g2 (fun m hm=>hwk m (by
       rw [show y5.1=.slice (elems.map (·.1)) (rest.map (·.1)) from congrArg Prod.fst h2];simp only [DataW.weights,Tryz.underlying23,aBK,o5];exact .inr (.inl (qG (aAT.2 ⟨_,List.getElem_mem _,rfl⟩) hm))))
      refine⟨t,ht,fun j v hj=>?_⟩;have hj6:j<6:=(by have:=(m8.1 hj).1;simpa using this);have:=hcell j (by omega);rw [Deep.add_add] at this;rw [this,hcs];exact hj
     have:Inhabited Tr:=⟨.mk ⟨0,0,0,0,[],none,0,none,0,0⟩ []⟩;obtain⟨tt,htt⟩:=Deep.choose_lt each;have c0:=(htt 0 (by omega)).2 0 _ rfl;obtain⟨b,off,rfl⟩:=aA1 (by simpa using c0);have hadd:∀ j,((aDr b off):Addr).add j=⟨b,off+j,none⟩:=fun j=>by unfold Addr.add;split <;> simp_all
     have hb:b<W.heap.size:=(by rw [hadd] at c0;exact zW c0);refine⟨.mk ⟨x0,x1,x2,x3,rs,q,c,some (aDr b off),len,cap⟩ ((List.range len).map tt),(aQ _).2 ⟨⟨hr,.inr ⟨b,off,cap,by simp [Tr.f,Tr.ks],hb,by simpa [Tr.ks] using hlc,hcap,fun i t hi=>?_⟩,hfit,hlen⟩,(cJ _).2 fun u hu=>?_⟩,rfl⟩
     ·have hi':((List.range len).map tt)[i]?=some t:=hi;have hil:i<len:=(by have:=(m8.1 hi').1;simpa using this);have hqi:tt i=t:=(by simpa [hil] using hi');have hh:=(htt i hil).2;rw [hqi] at hh;simp only [hadd,<- aAO] at hh;exact⟨hh 0 _ rfl,hh 1 _ rfl,hh 2 _ rfl,hh 3 _ rfl,hh 4 _ rfl,hh 5 _ rfl⟩
     ·have hu':u∈(List.range len).map tt:=hu;obtain⟨i,hi,rfl⟩:=aAT.1 hu';exact(htt i (List.mem_range.1 hi)).1
theorem zS:Tryz.prog.cellsOf 27=2:=by kernel_rfl
theorem zT:Tryz.prog.cellsOf 4=1:=by kernel_rfl
theorem aP6{H:Type}{enc:TypeId×Value->H}{W:World}{base:Nat}{v:Value}{d:DataW H}{p:List MemPlace}(hok:Value.okWide Tryz.prog W .any base 25 v)
  (h:DataW.Trod enc Tryz.prog W 0 (fun _=>true) true 25 v d p) (hw:∀ n∈d.weights Tryz.prog 25,n<=reachBytes):∃ t:Tr,TB W t/\v=.agg (nDf t.f):=by
 obtain⟨cs,rfl,hsz⟩:=okWide_struct Tryz.underlying25 hok;obtain⟨fuel,hf⟩:=h;obtain⟨t,ht,hcs⟩:=aE5 fuel _ _ hf hw;refine⟨t,ht,?_⟩;obtain⟨l⟩:=cs;simp [Value.cells] at hcs;rw [hcs]
theorem aE6{H:Type}{enc:TypeId×Value->H}{W:World}{base:Nat}{v:Value}{d:DataW H}{p:List MemPlace}(hok:Value.okWide Tryz.prog W .any base 27 v)
  (h:DataW.Trod enc Tryz.prog W 0 (fun _=>true) true 27 v d p):∃ c f:Bool,v=.agg #[.bool c,.bool f]:=by
 obtain⟨cs,rfl,hsz⟩:=okWide_struct Tryz.underlying27 hok;obtain⟨fuel,hf⟩:=h;obtain⟨xs,k,hk,hxy,hcl,hxl,hfs⟩:=DataW.trod_struct Tryz.underlying27 hf;rw [zS] at hcl;obtain⟨l⟩:=cs;simp [Value.cells] at hcl hfs
 match xs,hxl,l,hcl,hfs with
 | [y0,y1],_,[c0,c1],_,hf=>
  have F0:=hf 0 _ rfl;have F1:=hf 1 _ rfl;simp [zT] at F0 F1;obtain⟨b0,e0,-⟩:=DataW.trod_bool Tryz.underlying4 F0;obtain⟨b1,e1,-⟩:=DataW.trod_bool Tryz.underlying4 F1;cases e0;cases e1;exact⟨b0,b1,rfl⟩
end
end Go.Proofs.YtdgfpiekjigfnaaGreatDoor
