/-
  Parts of the proof.
-/
import Derived.Test.YtlaimbkenbijeaaGreatDoorTextsProofA0
import Derived.Test.YtlaimbkenbijeaaGreatDoorTextsProofB32
import Derived.Test.YtlaimbkenbijeaaGreatDoorTextsProofB31
import Derived.Test.YtlaimbkenbijeaaGreatDoorTextsProofB20
import Derived.Test.YtlaimbkenbijeaaGreatDoorTextsProofB26
import Derived.Test.YtlaimbkenbijeaaGreatDoorTextsProofB29
import Derived.Test.YtlaimbkenbijeaaGreatDoorTextsProofB17
import Derived.Lib.SlicesCompact
import Derived.Test.YtlaimbkenbijeaaGreatDoorTextsProofB27
import Derived.Test.YtlaimbkenbijeaaGreatDoorTextsProofB3
import Derived.Test.YtlaimbkenbijeaaGreatDoorTextsProofB19
import Derived.Test.YtlaimbkenbijeaaGreatDoorTextsProofB7
set_option maxRecDepth 100000
set_option maxHeartbeats 8000000
namespace Go.Proofs.YtlaimbkenbijeaaGreatDoor
open Go Go.RowKit
section
theorem bO0(W:World)(a:Value)(t:TypeId):∀ (j:Nat) (u:Value),[a][j]?=some u->(W.alloc (.cells #[a] t)).cell? ((⟨W.heap.size,0,none⟩:Addr).add j)=some u:=by
 intro j u h
 match j,h with
 | 0,h=>simp at h;subst h;simp [Addr.add]
theorem bH8(most:Nat):∀ (a:List El) (k j:Nat) (z:Zl),(tl most k a)[j]?=some z->z.2=min (k+j+z.1.2.sz) most
 | [],k,j,z,h=>by simp [tl] at h
 | x :: a,k,0,z,h=>by
  rw [tl] at h
  simp at h
  subst h
  rfl
 | x :: a,k,j+1,z,h=>by
  rw [tl,aAL] at h
  have:=bH8 most a (k+1) j z h
  omega
theorem bE1{t:Tr}{j:Nat}{z:Zl}(h:(lH 2001 t)[j]?=some z):z.2=min (j+z.1.2.sz) 2001:=by
 have h':((tl 2001 0 (pp [] t)).take 2001)[j]?=some z:=by
  unfold lH nE at h
  rw [aAG,List.length_nil,Nat.sub_zero] at h
  exact h
 have hj:(tl 2001 0 (pp [] t))[j]?=some z:=by
  obtain⟨hl,hv⟩:=i5.1 h'
  rw [o9] at hl
  rw [List.getElem_take] at hv
  exact i5.2 ⟨by omega,hv⟩
 have:=bH8 _ _ _ _ _ hj
 omega
theorem aV7{c f:Bool}{p:Way}{t:Tr}{i g:Nat}(h:cG c f p t i g=0)(hk:t.f.k=7):t.f.n=(g:Int)+1:=by
 obtain⟨h1,h2,h3⟩:=kT h
 exact(jV.1 ⟨(by rw [hk];rfl),h2,h3⟩).2 hk
def RG(c f:Bool)(pre:List El):Prop:=∀ (j:Nat) (y:El),pre[j]?=some y->cG c f y.1 y.2 j (cL (pre.take j))=0
theorem RG.nil(c f:Bool):RG c f []:=fun j y h=>by simp at h
theorem RG.step{c f:Bool}{pre:List El}{x:El}(h:RG c f pre)(hx:cG c f x.1 x.2 pre.length (cL pre)=0):RG c f (pre ++ [x]):=fun j y hy=>by
 rcases Nat.lt_or_ge j pre.length with hj | hj
 ·rw [o4 hj] at hy
  rw [aBW (by omega)]
  exact h j y hy
 ·rw [aAB hj] at hy
  have h0:j - pre.length=0:=by
   rcases Nat.eq_zero_or_pos (j - pre.length) with z | z
   ·exact z
   ·rw [show j - pre.length=(j - pre.length - 1)+1 by omega] at hy
    simp at hy
  rw [h0] at hy
  simp at hy
  subst hy
  have hj2:j=pre.length:=by omega
  subst hj2
  rw [List.take_left]
  exact hx
theorem nO{c f:Bool}:∀ (a b:List El) (i g:Nat),(∀ (j:Nat) (y:El),a[j]?=some y->cG c f y.1 y.2 (i+j) (g+cL (a.take j))=0)->aY c f i g (a ++ b)=aY c f (i+a.length) (g+cL a) b
 | [],b,i,g,_=>by simp [cL]
 | x :: a,b,i,g,h=>by
  have h0:=h 0 x rfl
  rw [aAS,aBP] at h0
  have h0':cG c f x.1 x.2 i g=0:=h0
  have ih:=nO a b (i+1) (g+(if x.2.f.k=7 then 1 else 0)) (fun j y hy=>by
   have:=h (j+1) y (by rw [aAL];exact hy)
   rw [aBL,cL] at this
   rw [show i+1+j=i+(j+1) by omega,aAI]
   exact this)
  rw [r9]
  simp only [aY,h0',ne_eq,not_true,if_false]
  rw [ih,j8,cL,show i+1+a.length=i+(a.length+1) by omega,aAI]
theorem RG.stop{c f:Bool}{t:Tr}{j:Nat}{x:El}{m:Int}(h:RG c f ((pp [] t).take j))(hx:(pp [] t)[j]?=some x)(hm:cG c f x.1 x.2 j (cL ((pp [] t).take j))=m)(h0:m≠0):aY c f 0 0 (pp [] t)=m:=by
 have hj:=(i5.1 hx).1
 have e:pp [] t=(pp [] t).take j ++ x :: (pp [] t).drop (j+1):=by
  have:=aBG j (pp [] t)
  rw [aAH hj,(i5.1 hx).2] at this
  exact this.symm
 have hl:((pp [] t).take j).length=j:=by rw [o9];omega
 have hs:=nO ((pp [] t).take j) (x :: (pp [] t).drop (j+1)) 0 0 (fun k y hy=>by rw [g8,g8];exact h k y hy)
 rw [<- e,g8,g8,hl] at hs
 rw [hs]
 simp only [aY,hm,ne_eq,h0,not_false_eq_true,if_true]
theorem RG.all{c f:Bool}{t:Tr}(h:RG c f (pp [] t)):aY c f 0 0 (pp [] t)=0:=by
 have hs:=nO (pp [] t) [] 0 0 (fun k y hy=>by rw [g8,g8];exact h k y hy)
 rw [aBH] at hs
 rw [hs]
 rfl
theorem rV{t:Tr}{j:Nat}{x:El}(hx:(pp [] t)[j]?=some x):(pp [] t).take j ++ [x] <+: pp [] t:=by
 have:(pp [] t).take (j+1)=(pp [] t).take j ++ [x]:=by rw [o5,hx];rfl
 rw [<- this]
 exact List.take_prefix _ _
theorem wC{t:Tr}{j k:Nat}{y:El}(h:((pp [] t).take j)[k]?=some y):(pp [] t)[k]?=some y:=by
 obtain⟨hl,hv⟩:=i5.1 h
 rw [o9] at hl
 rw [List.getElem_take] at hv
 exact i5.2 ⟨by omega,hv⟩
open Classical in
theorem aV8{c f:Bool}{p:Way}{t:Tr}{i g:Nat}(hbr:∀ par i r,p=(par,i) :: r->par.f.k=5->brP r=true):cG c f p t i g=if i=2000 then 42 else if 40 < p.length+1 then 43 else if ¬ (cB c f p t/\(t.f.k=7->t.f.n=(g:Int)+1)) then 50 else if t.f.k=7/\30 < t.f.n then 42 else if t.f.k=8/\¬ (eO p t.f.n=false/\t.f.n<=(g:Int)) then 41 else 0:=by
 unfold cG
 simp only [aF1 hbr]
structure RS(w5:World)(t:Tr)(c f:Bool)(j gr:Nat)(v:Value)(W:World):Prop where
 le:j<=2000
 cnt:cL ((pp [] t).take j)=gr
 row:W.ownsRow w5.heap.size 3 1 v gr (iH ((hU 0 ((pp [] t).take j)).map Int.ofNat))
 bel:Below w5.heap.size w5 W
 ok:RG c f ((pp [] t).take j)
theorem RS.next{w5 W W':World}{t:Tr}{c f:Bool}{j gr:Nat}{v:Value}{x:El}(h:RS w5 t c f j gr v W)(hx:(pp [] t)[j]?=some x)(hj:j < 2000)(h0:cG c f x.1 x.2 j gr=0)(hk:x.2.f.k≠7)(hb:Below W.heap.size W W'):RS w5 t c f (j+1) gr v W':=by
 have hl:=(i5.1 hx).1
 have hlen:((pp [] t).take j).length=j:=by rw [o9];omega
 have e:(pp [] t).take (j+1)=(pp [] t).take j ++ [x]:=by rw [o5,hx];rfl
 refine⟨by omega,?_,?_,aJ h.bel hb lz9,?_⟩
 ·rw [e,kA,if_neg hk,h.cnt];rfl
 ·rw [e,uZ,if_neg hk,aBH]
  exact aM h.row (Fr.of_below (S:=fun _=>False) hb) (fun _ _ z=>z)
 ·rw [e]
  refine h.ok.step ?_
  rw [hlen,h.cnt]
  exact h0
theorem RS.group{w5 W W':World}{t:Tr}{c f:Bool}{j gr:Nat}{v v':Value}{x:El}(h:RS w5 t c f j gr v W)(hx:(pp [] t)[j]?=some x)(hj:j < 2000)(h0:cG c f x.1 x.2 j gr=0)(hk:x.2.f.k=7)(hr:W'.ownsRow w5.heap.size 3 1 v' (gr+1) (iH ((hU 0 ((pp [] t).take j)).map Int.ofNat) ++ [.int .i64 (j:Int)]))(hb:Below w5.heap.size w5 W'):RS w5 t c f (j+1) (gr+1) v' W':=by
 have hl:=(i5.1 hx).1
 have hlen:((pp [] t).take j).length=j:=by rw [o9];omega
 have e:(pp [] t).take (j+1)=(pp [] t).take j ++ [x]:=by rw [o5,hx];rfl
 refine⟨by omega,?_,?_,hb,?_⟩
 ·rw [e,kA,if_pos hk,h.cnt]
 ·rw [e,uZ,if_pos hk,hlen,aAR,zF]
  exact hr
 ·rw [e]
  refine h.ok.step ?_
  rw [hlen,h.cnt]
  exact h0
theorem RS.back{w5 W:World}{t:Tr}{c f:Bool}{j gr:Nat}{v:Value}{x:El}(h:RS w5 t c f j gr v W)(hx:(pp [] t)[j]?=some x)(hj:j < 2000){N:Nat}(hN:N < gr):∃ jj:Nat,(hU 0 ((pp [] t).take j))[N]?=some jj/\∃ y,(pp [] t)[jj]?=some y/\jj < j/\(eO x.1 ((N:Int)+1)=false ↔ min (jj+y.2.sz) 2001<=j):=by
 have hl:=(i5.1 hx).1
 have hlen:((pp [] t).take j).length=j:=by rw [o9];omega
 have hg:N < (hU 0 ((pp [] t).take j)).length:=by rw [lW,h.cnt];exact hN
 obtain⟨jj,hjj⟩:∃ jj,(hU 0 ((pp [] t).take j))[N]?=some jj:=⟨_,g9 hg⟩
 obtain⟨y,hy,hiff⟩:=bO5 (rV hx) (fun k z hz hk=>aV7 (h.ok k z hz) hk) (by omega) hjj
 rw [hlen] at hiff
 have:=(i5.1 hy).1
 exact⟨jj,hjj,y,wC hy,by omega,hiff⟩
theorem bB8{w:World}{t:Tr}(c f:Bool)(hta:TB w t)(hsm:∀ x∈pp [] t,x.2.f.rs.length<=1048580):Calls Tryz.prog 10 #[.agg #[.int .i64 t.f.k,.int .i64 t.f.n,.int .i64 t.f.mn,.int .i64 t.f.mx,.slice t.f.rq t.f.rs.length t.f.rc,.slice t.f.kq t.f.kl t.f.kc],.agg #[.bool c,.bool f]] w fun e w'=>e=.returned (.int .i64 (aY c f 0 0 (pp [] t)))/\Below w.heap.size w w':=by
 have B1:Hid (Below w.heap.size w ((w.alloc (.cells #[.int .i64 t.f.k,.int .i64 t.f.n,.int .i64 t.f.mn,.int .i64 t.f.mx,.slice t.f.rq t.f.rs.length t.f.rc,.slice t.f.kq t.f.kl t.f.kc] 25)).alloc (.cells #[.bool c,.bool f] 27))):=(bz9).alloc (by simp) _
 have N1:Hid (BoxN ((w.alloc (.cells #[.int .i64 t.f.k,.int .i64 t.f.n,.int .i64 t.f.mn,.int .i64 t.f.mx,.slice t.f.rq t.f.rs.length t.f.rc,.slice t.f.kq t.f.kl t.f.kc] 25)).alloc (.cells #[.bool c,.bool f] 27)) w.heap.size t.f):=(Below.heap_alloc _ _ _ (by simp)).trans (aE w _)
 have M1:Hid (((w.alloc (.cells #[.int .i64 t.f.k,.int .i64 t.f.n,.int .i64 t.f.mn,.int .i64 t.f.mx,.slice t.f.rq t.f.rs.length t.f.rc,.slice t.f.kq t.f.kl t.f.kc] 25)).alloc (.cells #[.bool c,.bool f] 27)).heap[w.heap.size+1]?=some (.cells #[.bool c,.bool f] 27 (0,0))):=(by
  have:=aE (w.alloc (.cells #[.int .i64 t.f.k,.int .i64 t.f.n,.int .i64 t.f.mn,.int .i64 t.f.mx,.slice t.f.rq t.f.rs.length t.f.rc,.slice t.f.kq t.f.kl t.f.kc] 25)) (.cells #[.bool c,.bool f] 27)
  rwa [a7] at this)
 have HTA:=aD hta
 have HSM:=aD hsm
 obtain⟨R,hR⟩:∃ R,aY c f 0 0 (pp [] t)=R:=⟨_,rfl⟩
 rw [hR]
 have HR:=aD hR
 clear hta hsm hR
 go_enter Tryz.func10,Tryz.ntmps10
 go_upto_region 1 with fail
 generalize ((w.alloc (.cells #[.int .i64 t.f.k,.int .i64 t.f.n,.int .i64 t.f.mn,.int .i64 t.f.mx,.slice t.f.rq t.f.rs.length t.f.rc,.slice t.f.kq t.f.kl t.f.kc] 25)).alloc (.cells #[.bool c,.bool f] 27))=W1 at B1 N1 M1 ⊢
 generalize w.heap.size+1=bm at M1 ⊢
 obtain⟨c0,c1,c2,c3,c4,c5⟩:=N1.out.six
 simp only [g8] at c1 c2 c3 c4 c5
 have LA:=aD (sQ (w:=W1) 2001 (by omega) (HTA.out.kept B1.out))
 have HZL:=aD (oO 2001 t)
 have HZM:=aD (lU 2001 t)
 have HTO:=aD (fun (j:Nat) (z:Zl) (h:(lH 2001 t)[j]?=some z)=>bE1 h)
 have hz:=oO 2001 t
 have hzl:(lH 2001 t).length<=2001:=by omega
 clear hz
 generalize lH 2001 t=Z at LA HZL HZM HTO hzl
 go_upto_region 5 with (go_at_call 36;refine(LA.out).mono ?_;rintro e w5 ⟨q5,k5,rfl,h51,h52⟩;have Z5:=aD h51;have B5:=aD h52;clear h51 h52)
 have M5:=aD ((B5.out.block _ (aB M1.out)).trans M1.out)
 have B6:=aD (aJ B1.out B5.out lz9)
 clear c0 c1 c2 c3 c4 c5 LA B1 B5 N1 M1
 go_loopw [8,7,6] (fun i v g wr=>∃ (j gr:Nat) (q:Option Addr) (ca:Nat),j<=Z.length/\i=.int .i64 (j:Int)/\v=.slice q gr ca/\g=.int .i64 (gr:Int)/\RS w5 t c f j gr (.slice q gr ca) wr) (fun i _ _ _=>Z.length - (intOf i).toNat)
 case atStart=>exact⟨0,0,none,0,m9 _,rfl,rfl,rfl,⟨m9 _,rfl,aAX _ _ _ _,Below.refl _ _,RG.nil c f⟩⟩
 case round=>
  obtain⟨j,gr,q,ca,hj,rfl,rfl,rfl,hs⟩:=hrel
  have HS:=aD hs
  have hgr:gr<=2000:=by
   have h1:=hs.cnt
   have h2:=aJ8 ((pp [] t).take j)
   rw [o9] at h2
   have:=hs.le
   omega
  have hj2:=hs.le
  clear hs
  by_cases hjl:j < Z.length
  case neg=>
   have i0:¬ (j:Int) < (Z.length:Int):=by omega
   have HD:=aD (show R=0 by
    rw [<- HR.out]
    have h1:=HZL.out
    have h2:=HS.out.ok
    rw [j9 (by omega)] at h2
    exact h2.all)
   have BX:=aD (aJ B6.out HS.out.bel lz9)
   clear hjl
   go_wp2
   go_ret
   exact⟨congrArg (fun z=>Ending.returned (.int .i64 z)) HD.out.symm,BX.out⟩
  have i0:(j:Int) < (Z.length:Int):=by omega
  obtain⟨⟨x,o⟩,hx⟩:∃ z,Z[j]?=some z:=⟨_,g9 hjl⟩
  obtain⟨ga,cz,hq⟩:=aL Z5.out (by omega)
  injection hq with hq1 _ hq2
  subst hq1 hq2
  have YA:ZR W1.heap.size wr (.slice (some ⟨ga,0,none⟩) Z.length k5) Z:=aM Z5.out (Fr.of_below (S:=fun _=>False) HS.out.bel) (fun _ _ z=>z)
  have x0:wr.cell? ⟨ga,j * 12,none⟩=some (.int .i64 x.2.f.k):=YA.cells hx (j:=0) rfl
  have x1:wr.cell? ⟨ga,j * 12+1,none⟩=some (.int .i64 x.2.f.n):=YA.cells hx (j:=1) rfl
  have x2:wr.cell? ⟨ga,j * 12+2,none⟩=some (.int .i64 x.2.f.mn):=YA.cells hx (j:=2) rfl
  have x3:wr.cell? ⟨ga,j * 12+3,none⟩=some (.int .i64 x.2.f.mx):=YA.cells hx (j:=3) rfl
  have x4:wr.cell? ⟨ga,j * 12+4,none⟩=some (.slice x.2.f.rq x.2.f.rs.length x.2.f.rc):=YA.cells hx (j:=4) rfl
  have x5:wr.cell? ⟨ga,j * 12+5,none⟩=some (.slice x.2.f.kq x.2.f.kl x.2.f.kc):=YA.cells hx (j:=5) rfl
  have x6:wr.cell? ⟨ga,j * 12+6,none⟩=some (.int .i64 ((x.1.length:Int)+1)):=YA.cells hx (j:=6) rfl
  have x7:wr.cell? ⟨ga,j * 12+7,none⟩=some (.int .i64 (arP x.1)):=YA.cells hx (j:=7) rfl
  have x8:wr.cell? ⟨ga,j * 12+8,none⟩=some (.bool (fiP x.1)):=YA.cells hx (j:=8) rfl
  have x9:wr.cell? ⟨ga,j * 12+9,none⟩=some (.bool (laP x.1)):=YA.cells hx (j:=9) rfl
  have x10:wr.cell? ⟨ga,j * 12+10,none⟩=some (.bool (brP x.1)):=YA.cells hx (j:=10) rfl
  have x11:wr.cell? ⟨ga,j * 12+11,none⟩=some (.int .i64 (o:Int)):=YA.cells hx (j:=11) rfl
  have hxt:(pp [] t)[j]?=some x:=wC (j:=2001) (by rw [<- HZM.out,aAE,hx];rfl)
  have HX:=aD hxt
  have HBR:=aD (bO7 (rV hxt) HS.out.ok)
  have HST:=aD (fun (m:Int) (h:cG c f x.1 x.2 j gr=m) (h0:m≠0)=>HR.out.symm.trans (HS.out.ok.stop hxt (by rw [HS.out.cnt];exact h) h0))
  have BW:=aD (aJ B6.out HS.out.bel lz9)
  have HNA:=aD ((HTA.out.at (i9 hxt)).node.ck (CK.of_below BW.out))
  have HSL:=aD (HSM.out x (i9 hxt))
  have MW:=aD ((HS.out.bel.block _ (aB M5.out)).trans M5.out)
  have hdp:=uN (t:=t) (pre:=(pp [] t).take j) (x:=x) (rV hxt)
  rw [o9] at hdp
  have hdp2:x.1.length<=2001:=by omega
  have lga:ga < wr.heap.size:=(aH YA (g:=ga) rfl).2.1
  have HYA:=aD YA
  clear hx hxt YA hdp
  go_upto_region 8 with fail
  have K2:=aD (show Below wr.heap.size wr (wr.alloc (.cells #[.int .i64 x.2.f.k,.int .i64 x.2.f.n,.int .i64 x.2.f.mn,.int .i64 x.2.f.mx,.slice x.2.f.rq x.2.f.rs.length x.2.f.rc,.slice x.2.f.kq x.2.f.kl x.2.f.kc,.int .i64 ((x.1.length:Int)+1),.int .i64 (arP x.1),.bool (fiP x.1),.bool (laP x.1),.bool (brP x.1),.int .i64 (o:Int)] 65)) from bz9)
  have P2:=aD (aE wr (.cells #[.int .i64 x.2.f.k,.int .i64 x.2.f.n,.int .i64 x.2.f.mn,.int .i64 x.2.f.mx,.slice x.2.f.rq x.2.f.rs.length x.2.f.rc,.slice x.2.f.kq x.2.f.kl x.2.f.kc,.int .i64 ((x.1.length:Int)+1),.int .i64 (arP x.1),.bool (fiP x.1),.bool (laP x.1),.bool (brP x.1),.int .i64 (o:Int)] 65))
  have M2:=aD ((K2.out.block _ (aB MW.out)).trans MW.out)
  have A2:=aD (HNA.out.ck (CK.of_below K2.out))
  clear x0 x1 x2 x3 x4 x5 x6 x7 x8 x9 x10 x11
  generalize (wr.alloc (.cells #[.int .i64 x.2.f.k,.int .i64 x.2.f.n,.int .i64 x.2.f.mn,.int .i64 x.2.f.mx,.slice x.2.f.rq x.2.f.rs.length x.2.f.rc,.slice x.2.f.kq x.2.f.kl x.2.f.kc,.int .i64 ((x.1.length:Int)+1),.int .i64 (arP x.1),.bool (fiP x.1),.bool (laP x.1),.bool (brP x.1),.int .i64 (o:Int)] 65))=W2 at K2 P2 M2 A2 ⊢
  obtain⟨b8,hb8⟩:∃ b8,wr.heap.size=b8:=⟨_,rfl⟩
  have HNB:=aD (show (Value.slice q gr ca).ownBlock≠some wr.heap.size from fun e=>absurd (aH HS.out.row e).2.1 (Nat.lt_irrefl _))
  rw [hb8] at P2 HNB ⊢
  clear hb8
  have B2:=aD (aJ BW.out K2.out lz9)
  have p0:W2.cell? ⟨b8,0,none⟩=some (.int .i64 x.2.f.k):=aA P2.out (i:=0) rfl
  have p1:W2.cell? ⟨b8,1,none⟩=some (.int .i64 x.2.f.n):=aA P2.out (i:=1) rfl
  have p2:W2.cell? ⟨b8,2,none⟩=some (.int .i64 x.2.f.mn):=aA P2.out (i:=2) rfl
  have p3:W2.cell? ⟨b8,3,none⟩=some (.int .i64 x.2.f.mx):=aA P2.out (i:=3) rfl
  have p4:W2.cell? ⟨b8,4,none⟩=some (.slice x.2.f.rq x.2.f.rs.length x.2.f.rc):=aA P2.out (i:=4) rfl
  have p5:W2.cell? ⟨b8,5,none⟩=some (.slice x.2.f.kq x.2.f.kl x.2.f.kc):=aA P2.out (i:=5) rfl
  have p6:W2.cell? ⟨b8,6,none⟩=some (.int .i64 ((x.1.length:Int)+1)):=aA P2.out (i:=6) rfl
  have p7:W2.cell? ⟨b8,7,none⟩=some (.int .i64 (arP x.1)):=aA P2.out (i:=7) rfl
  have p8:W2.cell? ⟨b8,8,none⟩=some (.bool (fiP x.1)):=aA P2.out (i:=8) rfl
  have p9:W2.cell? ⟨b8,9,none⟩=some (.bool (laP x.1)):=aA P2.out (i:=9) rfl
  have p10:W2.cell? ⟨b8,10,none⟩=some (.bool (brP x.1)):=aA P2.out (i:=10) rfl
  have p11:W2.cell? ⟨b8,11,none⟩=some (.int .i64 (o:Int)):=aA P2.out (i:=11) rfl
  have m0:W2.cell? ⟨bm,0,none⟩=some (.bool c):=aA M2.out (i:=0) rfl
  have m1:W2.cell? ⟨bm,1,none⟩=some (.bool f):=aA M2.out (i:=1) rfl
  by_cases h2000:j=2000
  ·have e1:(2000:Int)<=(j:Int):=by omega
   have HD:=aD (show R=42 from HST.out 42 (by unfold cG;rw [if_pos h2000]) (by decide))
   clear h2000
   go_wp2
   go_ret
   exact⟨congrArg (fun z=>Ending.returned (.int .i64 z)) HD.out.symm,B2.out⟩
  have e1:¬ (2000:Int)<=(j:Int):=by omega
  have hj3:j < 2000:=by omega
  by_cases h40:40 < x.1.length+1
  ·have e2:(40:Int) < (x.1.length:Int)+1:=by omega
   have HD:=aD (show R=43 from HST.out 43 (by unfold cG;rw [if_neg h2000,if_pos h40]) (by decide))
   clear h2000 h40
   go_wp2
   go_ret
   exact⟨congrArg (fun z=>Ending.returned (.int .i64 z)) HD.out.symm,B2.out⟩
  have e2:¬ (40:Int) < (x.1.length:Int)+1:=by omega
  have FM:=aD (bC4 x.1 x.2 o c f A2.out HSL.out)
  have HL:=aD (show cG c f x.1 x.2 j gr=_ by rw [aV8 HBR.out,if_neg h2000,if_neg h40])
  clear h2000 h40
  go_upto_region 13 with (go_at_call 37;(with_reducible refine(FM.out).mono ?_);rintro e W3 ⟨b3,rfl,hb3,h3⟩;have I3:=aD hb3;have B3:=aD h3;clear hb3 h3)
  have K3:=aD (aJ K2.out B3.out lz9)
  have BZ:=aD (aJ B2.out B3.out lz9)
  have P3:=aD ((B3.out.block _ (aB P2.out)).trans P2.out)
  clear m0 m1 p0 p1 p2 p3 p4 p5 p6 p7 p8 p9 p10 p11 FM e2
  have p0:W3.cell? ⟨b8,0,none⟩=some (.int .i64 x.2.f.k):=aA P3.out (i:=0) rfl
  have p1:W3.cell? ⟨b8,1,none⟩=some (.int .i64 x.2.f.n):=aA P3.out (i:=1) rfl
  cases b3 with
  | false=>
   have HD:=aD (show R=50 from HST.out 50 (by rw [HL.out,if_pos (fun z=>by cases I3.out.2 z.1)]) (by decide))
   go_wp2
   go_ret
   exact⟨congrArg (fun z=>Ending.returned (.int .i64 z)) HD.out.symm,BZ.out⟩
  | true=>
   have HF:=aD (I3.out.1 rfl)
   by_cases h7:x.2.f.k=7
   ·have e7:(x.2.f.k==7)=true:=beq_iff_eq.2 h7
    have e8:(x.2.f.k==8)=false:=i4.2 (by omega)
    have H7:=aD h7
    clear h7
    by_cases hn:x.2.f.n=(gr:Int)+1
    case neg=>
     have en:(x.2.f.n != (gr:Int)+1)=true:=bne_iff_ne.2 hn
     have HD:=aD (show R=50 from HST.out 50 (by rw [HL.out,if_pos (fun z=>hn (z.2 H7.out))]) (by decide))
     clear hn
     go_wp2
     go_ret
     exact⟨congrArg (fun z=>Ending.returned (.int .i64 z)) HD.out.symm,BZ.out⟩
    have en:(x.2.f.n != (gr:Int)+1)=false:=by simpa using hn
    have HN:=aD hn
    clear hn
    have R3:=aD (aM HS.out.row (Fr.of_below (S:=fun _=>False) K3.out) (fun _ _ z=>z))
    have S3:=aD (show w5.heap.size<=W3.heap.size from i8 HS.out.bel.size K3.out.size)
    obtain⟨t0,hi,hz0,hz1,hz2⟩:=bH yI
    generalize hgp:iH ((hU 0 ((pp [] t).take j)).map Int.ofNat)=GP at R3
    have HGP:=aD hgp
    clear hgp
    go_upto_region 18 with (at_builtin;refine wpList_append_own_at _ rfl _ _ 44 rfl w5.heap.size 3 t0 (.int .i64 0) 1 8 yD hi hz0 hz1 hz2 rfl (by decide) (.slice q gr ca) gr GP rfl (l9 R3.out (.cells #[.int .i64 (j:Int)] 3)) ⟨W3.heap.size,0,none⟩ 1 1 [.int .i64 (j:Int)] rfl rfl (bO0 _ _ _) (by simp [Value.oneCell']) (by unfold maxLen;omega) (by omega) (by have:=S3.out;simp;omega) ?_;intro v' w6 hown' hgrow _ hblk;obtain⟨g6,cap6,rfl⟩:=aL hown' (aAC _);have O6:=aD hown';have G6:=aD hgrow;clear hown' hgrow hblk)
    have L6:=aD (show Below w5.heap.size w5 w6 from bC (aJ HS.out.bel K3.out lz9) (((Fr.refl (fun z=>(Value.slice q gr ca).ownBlock=some z) W3).alloc (.cells #[.int .i64 (j:Int)] 3)).grown G6.out (fun z hz=>hz)) lz9 (fun z hz=>(aH R3.out hz).1))
    have P6:=aD (show w6.heap[b8]?=some (.cells #[.int .i64 x.2.f.k,.int .i64 x.2.f.n,.int .i64 x.2.f.mn,.int .i64 x.2.f.mx,.slice x.2.f.rq x.2.f.rs.length x.2.f.rc,.slice x.2.f.kq x.2.f.kl x.2.f.kc,.int .i64 ((x.1.length:Int)+1),.int .i64 (arP x.1),.bool (fiP x.1),.bool (laP x.1),.bool (brP x.1),.int .i64 (o:Int)] 65 (0,0)) from (G6.out.block _ (by simp;have:=aB P3.out;omega) (fun e=>HNB.out e.symm)).trans ((Below.heap_alloc _ _ _ (aB P3.out)).trans P3.out))
    have p0':w6.cell? ⟨b8,0,none⟩=some (.int .i64 x.2.f.k):=aA P6.out (i:=0) rfl
    clear p0 p1
    by_cases h30:30 < gr+1
    ·have e3:(30:Int) < (gr:Int)+1:=by omega
     have HD:=aD (show R=42 from HST.out 42 (by rw [HL.out,if_neg (fun z=>z ⟨HF.out,fun _=>HN.out⟩),if_pos ⟨H7.out,by rw [HN.out];exact e3⟩]) (by decide))
     have BX:=aD (aJ B6.out L6.out lz9)
     clear h30
     go_wp2
     go_ret
     exact⟨congrArg (fun z=>Ending.returned (.int .i64 z)) HD.out.symm,BX.out⟩
    have e3:¬ (30:Int) < (gr:Int)+1:=by omega
    have HD:=aD (show cG c f x.1 x.2 j gr=0 by rw [HL.out,if_neg (fun z=>z ⟨HF.out,fun _=>HN.out⟩),if_neg (fun z=>e3 (by have:=z.2;rw [HN.out] at this;exact this)),if_neg (fun z=>by have:=z.1;rw [H7.out] at this;cases this)])
    clear h30
    go_wp2
    go_roundw
    case rel=>exact⟨j+1,gr+1,_,_,by omega,by go_num,rfl,by go_num,HS.out.group HX.out hj3 HD.out H7.out (by rw [HGP.out];exact O6.out) L6.out⟩
    case measure=>simp only [intOf];omega
   have e7:(x.2.f.k==7)=false:=i4.2 h7
   by_cases h8:x.2.f.k=8
   case neg=>
    have e8:(x.2.f.k==8)=false:=i4.2 h8
    have HD:=aD (show cG c f x.1 x.2 j gr=0 by rw [HL.out,if_neg (fun z=>z ⟨HF.out,fun q=>absurd q h7⟩),if_neg (fun z=>h7 z.1),if_neg (fun z=>h8 z.1)])
    have H7:=aD h7
    clear h7 h8
    go_wp2
    go_roundw
    case rel=>exact⟨j+1,gr,_,_,by omega,by go_num,rfl,rfl,HS.out.next HX.out hj3 HD.out H7.out K3.out⟩
    case measure=>simp only [intOf];omega
   have e8:(x.2.f.k==8)=true:=beq_iff_eq.2 h8
   have HL8:=aD (show cG c f x.1 x.2 j gr=_ by rw [HL.out,if_neg (fun z=>z ⟨HF.out,fun q=>absurd q h7⟩),if_neg (fun z=>h7 z.1)])
   have hn1:1<=x.2.f.n:=by
    have:=HF.out.2
    unfold fO at this
    rw [if_neg (by omega),if_neg (by omega),if_neg (by omega),if_neg (by omega),if_pos h8] at this
    exact this.1.1
   have H7:=aD h7
   have H8:=aD h8
   clear h7 h8 HL
   by_cases hg:x.2.f.n<=(gr:Int)
   case neg=>
    have eg:(gr:Int) < x.2.f.n:=by omega
    have HD:=aD (show R=41 from HST.out 41 (by rw [HL8.out,if_pos ⟨H8.out,fun z=>hg z.2⟩]) (by decide))
    clear hg hn1
    go_wp2
    go_ret
    exact⟨congrArg (fun z=>Ending.returned (.int .i64 z)) HD.out.symm,BZ.out⟩
   have eg:¬ (gr:Int) < x.2.f.n:=by omega
   obtain⟨N,hN⟩:∃ N:Nat,x.2.f.n=(N:Int)+1:=⟨(x.2.f.n - 1).toNat,by omega⟩
   have HN:=aD hN
   have hNg:N < gr:=by omega
   have p1':W3.cell? ⟨b8,1,none⟩=some (.int .i64 ((N:Int)+1)):=by rw [<- hN];exact p1
   have eg':¬ (gr:Int) < (N:Int)+1:=by omega
   have hnn:x.2.f.n<=(gr:Int):=hg
   have HNN:=aD hnn
   clear p1 eg hg hn1 hN hnn
   obtain⟨jj,hjj,y,hy,hjj2,hiff⟩:=HS.out.back HX.out hj3 hNg
   have R3:=aM HS.out.row (Fr.of_below (S:=fun _=>False) K3.out) (fun _ _ z=>z)
   obtain⟨gb,cb,hqb⟩:=aL R3 (by omega)
   injection hqb with hqb1 _ hqb2
   subst hqb1 hqb2
   have a0:W3.cell? ⟨gb,N,none⟩=some (.int .i64 (jj:Int)):=by
    have:=aU R3 (j:=N) (u:=.int .i64 (jj:Int)) (aW6 (by rw [aAE,hjj];rfl))
    exact this
   obtain⟨zz,hzz⟩:∃ zz,Z[jj]?=some zz:=⟨_,g9 (by omega)⟩
   have hyz:zz.1=y:=by
    have h1:(pp [] t)[jj]?=some zz.1:=wC (j:=2001) (by rw [<- HZM.out,aAE,hzz];rfl)
    rw [hy] at h1
    exact(aAP h1).symm
   have hto:=HTO.out jj zz hzz
   rw [hyz] at hto
   rw [<- hto] at hiff
   have Y3:ZR W1.heap.size W3 (.slice (some ⟨ga,0,none⟩) Z.length k5) Z:=aM HYA.out (Fr.of_below (S:=fun _=>False) K3.out) (fun _ _ z=>z)
   have a1:W3.cell? ⟨ga,jj * 12+11,none⟩=some (.int .i64 (zz.2:Int)):=Y3.cells hzz (j:=11) rfl
   generalize zz.2=tt at a1 hto hiff
   have lgb:gb < W3.heap.size:=(aH R3 (g:=gb) rfl).2.1
   have HIF:=aD hiff
   have hjz:jj < Z.length:=by omega
   clear R3 Y3 hjj hy hzz hyz hto hiff
   by_cases hto:tt<=j
   ·have et:¬ (j:Int) < (tt:Int):=by omega
    have HD:=aD (show cG c f x.1 x.2 j gr=0 by rw [HL8.out,if_neg (fun z=>z.2 ⟨by rw [HN.out];exact HIF.out.2 hto,HNN.out⟩)])
    clear hto
    go_wp2
    go_roundw
    case rel=>exact⟨j+1,gr,_,_,by omega,by go_num,rfl,rfl,HS.out.next HX.out hj3 HD.out H7.out K3.out⟩
    case measure=>simp only [intOf];omega
   ·have et:(j:Int) < (tt:Int):=by omega
    have HD:=aD (show R=41 from HST.out 41 (by rw [HL8.out,if_pos ⟨H8.out,fun z=>hto (HIF.out.1 (by rw [<- HN.out];exact z.1))⟩]) (by decide))
    clear hto
    go_wp2
    go_ret
    exact⟨congrArg (fun z=>Ending.returned (.int .i64 z)) HD.out.symm,BZ.out⟩
end
def wsg(x:El):List (Sg × Nat) × Sg:=(x.1.map fun z=>(sig z.1,z.2),sig x.2)
theorem aR8(a:Tr):∀ (b:Tr) (p q:Way),(p.map fun z=>(sig z.1,z.2))=(q.map fun z=>(sig z.1,z.2))->er a=er b->(pp p a).map wsg=(pp q b).map wsg:=by
 refine Tr.ind (P:=fun a=>∀ (b:Tr) (p q:Way),(p.map fun z=>(sig z.1,z.2))=(q.map fun z=>(sig z.1,z.2))->er a=er b->(pp p a).map wsg=(pp q b).map wsg) (fun a ih b p q hp h=>?_) a
 have hs:=aT5 h
 obtain⟨-,-,-,-,-,h6⟩:=(lZ a b).1 h
 have key:∀ (ks js:List Tr) (i:Nat),(∀ u∈ks,u∈a.ks)->ks.map er=js.map er->(pps a p i ks).map wsg=(pps b q i js).map wsg:=by
  intro ks
  induction ks with
  | nil=>
   intro js i _ hl
   cases js with
   | nil=>rw [cA,cA]
   | cons v js=>cases hl
  | cons u ks ihk=>
   intro js i hm hl
   cases js with
   | nil=>cases hl
   | cons v js=>
    rw [r7,r7] at hl
    injection hl with h1 h2
    rw [bL,bL,aAR,aAR,ih u (hm u m8) v ((a,i) :: p) ((b,i) :: q) (by rw [r7,r7,hp,hs]) h1,ihk js _ (fun z hz=>hm z (n6 _ hz)) h2]
 rw [cF,cF,r7,r7,key a.ks b.ks 0 (fun _ z=>z) h6]
 congr 1
 unfold wsg
 rw [hp,hs]
theorem vD{n:Int}:∀ {p q:Way},(p.map fun z=>(sig z.1,z.2))=(q.map fun z=>(sig z.1,z.2))->eO p n=eO q n
 | [],[],_=>rfl
 | [],_ :: _,h=>by cases h
 | _ :: _,[],h=>by cases h
 | x :: p,y :: q,h=>by
  rw [r7,r7] at h
  injection h with h1 h2
  have ih:=vD (n:=n) h2
  have hk:x.1.f.k=y.1.f.k:=congrArg (fun z:Sg × Nat=>z.1.1) h1
  have hn:x.1.f.n=y.1.f.n:=congrArg (fun z:Sg × Nat=>z.1.2.1) h1
  unfold eO at ih ⊢
  rw [List.any_cons,List.any_cons,ih,hk,hn]
theorem yF{k:Int}{p q:Way}(h:(p.map fun z=>(sig z.1,z.2))=(q.map fun z=>(sig z.1,z.2))):dW p k=dW q k:=by
 cases p with
 | nil=>
  cases q with
  | nil=>rfl
  | cons y q=>cases h
 | cons x p=>
  cases q with
  | nil=>cases h
  | cons y q=>
   rw [r7,r7] at h
   injection h with h1 h2
   obtain⟨a,i⟩:=x
   obtain⟨b,j⟩:=y
   have hk:a.f.k=b.f.k:=congrArg (fun z:Sg × Nat=>z.1.1) h1
   have hl:a.ks.length=b.ks.length:=congrArg (fun z:Sg × Nat=>z.1.2.2.2.2.2) h1
   have hi:i=j:=congrArg (fun z:Sg × Nat=>z.2) h1
   unfold dW
   simp only
   rw [hk,hl,hi]
theorem aE8{c f:Bool}{x y:El}{i g:Nat}(h:wsg x=wsg y):cG c f x.1 x.2 i g=cG c f y.1 y.2 i g:=by
 have hp:(x.1.map fun z=>(sig z.1,z.2))=(y.1.map fun z=>(sig z.1,z.2)):=congrArg (fun z:List (Sg × Nat) × Sg=>z.1) h
 have hs:sig x.2=sig y.2:=congrArg (fun z:List (Sg × Nat) × Sg=>z.2) h
 have hl:x.1.length=y.1.length:=by have:=congrArg List.length hp;rwa [o8,o8] at this
 have k1:x.2.f.k=y.2.f.k:=congrArg (fun z:Sg=>z.1) hs
 have k2:x.2.f.n=y.2.f.n:=congrArg (fun z:Sg=>z.2.1) hs
 have k3:x.2.f.mn=y.2.f.mn:=congrArg (fun z:Sg=>z.2.2.1) hs
 have k4:x.2.f.mx=y.2.f.mx:=congrArg (fun z:Sg=>z.2.2.2.1) hs
 have k5:x.2.f.rs=y.2.f.rs:=congrArg (fun z:Sg=>z.2.2.2.2.1) hs
 have k6:x.2.ks.length=y.2.ks.length:=congrArg (fun z:Sg=>z.2.2.2.2.2) hs
 have hf:bG c f ((g:Int)+1) x.2.f=bG c f ((g:Int)+1) y.2.f:=by
  unfold bG
  rw [k1,k2,k3,k4,k5]
 unfold cG
 rw [yF hp,vD hp,hf,hl,k1,k2,k6]
theorem qK{c f:Bool}:∀ {l m:List El} (i g:Nat),l.map wsg=m.map wsg->aY c f i g l=aY c f i g m
 | [],[],_,_,_=>rfl
 | [],_ :: _,_,_,h=>by cases h
 | _ :: _,[],_,_,h=>by cases h
 | x :: l,y :: m,i,g,h=>by
  rw [r7,r7] at h
  injection h with h1 h2
  have hk:x.2.f.k=y.2.f.k:=congrArg (fun z:List (Sg × Nat) × Sg=>z.2.1) h1
  simp only [aY]
  rw [aE8 h1,hk,qK _ _ h2]
theorem zM{c f:Bool}{a b:Tr}(h:er a=er b):aY c f 0 0 (pp [] a)=aY c f 0 0 (pp [] b):=qK 0 0 (aR8 a b [] [] rfl h)
section
attribute [local go_sem] Oper.semAt_some bB
def Sm(t:Tr):Prop:=∀ x∈pp [] t,x.2.f.rs.length<=1048580
theorem pS{w:World}{t:Tr}(c o:Bool)(hta:TB w t)(hsm:Sm t):Calls Tryz.prog 38 #[.agg #[.int .i64 t.f.k,.int .i64 t.f.n,.int .i64 t.f.mn,.int .i64 t.f.mx,.slice t.f.rq t.f.rs.length t.f.rc,.slice t.f.kq t.f.kl t.f.kc],.agg #[.bool c,.bool o]] w fun e w'=>e=.returned (.bool (decide (aY c o 0 0 (pp [] t)=0)))/\Below w.heap.size w w':=by
 have B1:Hid (Below w.heap.size w ((w.alloc (.cells #[.int .i64 t.f.k,.int .i64 t.f.n,.int .i64 t.f.mn,.int .i64 t.f.mx,.slice t.f.rq t.f.rs.length t.f.rc,.slice t.f.kq t.f.kl t.f.kc] 25)).alloc (.cells #[.bool c,.bool o] 27))):=(bz9).alloc (by simp) _
 have X1:Hid (BoxN ((w.alloc (.cells #[.int .i64 t.f.k,.int .i64 t.f.n,.int .i64 t.f.mn,.int .i64 t.f.mx,.slice t.f.rq t.f.rs.length t.f.rc,.slice t.f.kq t.f.kl t.f.kc] 25)).alloc (.cells #[.bool c,.bool o] 27)) w.heap.size t.f):=(Below.heap_alloc _ _ _ (by simp)).trans (aE w _)
 have X2:Hid (((w.alloc (.cells #[.int .i64 t.f.k,.int .i64 t.f.n,.int .i64 t.f.mn,.int .i64 t.f.mx,.slice t.f.rq t.f.rs.length t.f.rc,.slice t.f.kq t.f.kl t.f.kc] 25)).alloc (.cells #[.bool c,.bool o] 27)).heap[w.heap.size+1]?=some (.cells #[.bool c,.bool o] 27 (0,0))):=aK _ (by simp only [a7])
 have HTA:=aD hta
 have HSM:=aD hsm
 clear hta hsm
 go_enter Tryz.func38,Tryz.ntmps38
 go_upto_region 1 with fail
 generalize ((w.alloc (.cells #[.int .i64 t.f.k,.int .i64 t.f.n,.int .i64 t.f.mn,.int .i64 t.f.mx,.slice t.f.rq t.f.rs.length t.f.rc,.slice t.f.kq t.f.kl t.f.kc] 25)).alloc (.cells #[.bool c,.bool o] 27))=w1 at B1 X1 X2 ⊢
 obtain⟨n0,n1,n2,n3,n4,n5⟩:=X1.out.six
 simp only [g8] at n1 n2 n3 n4 n5
 have a0:=aA X2.out (i:=0) rfl
 have a1:=aA X2.out (i:=1) rfl
 have RT:=aD (bB8 c o (HTA.out.kept B1.out) HSM.out)
 obtain⟨r,hr⟩:∃ r,aY c o 0 0 (pp [] t)=r:=⟨_,rfl⟩
 have HR:=aD hr
 rw [hr] at RT
 clear hr
 go_wp2_with (go_at_call 10;refine(RT.out).mono ?_;rintro e w2 ⟨rfl,h2⟩;have B2:=aD (aJ B1.out h2 lz9);clear h2)
 go_ret
 refine⟨?_,B2.out⟩
 rw [HR.out]
 by_cases h:r=0
 ·subst h;rfl
 ·have h1:(r==0)=false:=by simpa using h
  simp [h,h1]
end
section
attribute [local go_sem] Oper.semAt_some bB
def Bx2(w V:World)(f:Fl)(c o:Bool):Prop:=Below w.heap.size w V/\BoxN V w.heap.size f/\V.heap[w.heap.size+1]?=some (.cells #[.bool c,.bool o] 27 (0,0))
theorem Bx2.kept{w V V':World}{f:Fl}{c o:Bool}(h:Bx2 w V f c o)(hb:Below V.heap.size V V'):Bx2 w V' f c o:=⟨aJ h.1 hb lz9,(hb.block _ (aB h.2.1)).trans h.2.1,(hb.block _ (aB h.2.2)).trans h.2.2⟩
end
section
open Go Go.RowKit Go.Shelf
attribute [local go_sem] Oper.semAt_some bB
theorem sI{R:Ending->World->Prop}{a:Act}{W:World}{b:Nat}{f:Fl}(h:Six W b 0 f)(ha:a.tmps[2]?.getD undef=.pointer (some ⟨b,0,none⟩))(hd:a.defers=[])(hR:R (.returned (.agg #[.int .i64 f.k,.int .i64 f.n,.int .i64 f.mn,.int .i64 f.mx,.slice f.rq f.rs.length f.rc,.slice f.kq f.kl f.kc])) W):bodyPost Tryz.prog Tryz.f26 R .ret a W:=by
 obtain⟨z0,z1,z2,z3,z4,z5⟩:=h
 simp only [g8] at z1 z2 z3 z4 z5
 refine bodyPost_ret (v:=.agg #[.int .i64 f.k,.int .i64 f.n,.int .i64 f.mn,.int .i64 f.mx,.slice f.rq f.rs.length f.rc,.slice f.kq f.kl f.kc]) ?_ hd hR
 simp [results,Tryz.results26,go_sem,ha,z0,z1,z2,z3,z4,z5]
theorem aV9{w:World}{t:Tr}(hta:TB w t):Calls Tryz.prog 26 #[.agg #[.int .i64 t.f.k,.int .i64 t.f.n,.int .i64 t.f.mn,.int .i64 t.f.mx,.slice t.f.rq t.f.rs.length t.f.rc,.slice t.f.kq t.f.kl t.f.kc]] w fun e w'=>∃ x,e=.returned (.agg #[.int .i64 x.f.k,.int .i64 x.f.n,.int .i64 x.f.mn,.int .i64 x.f.mx,.slice x.f.rq x.f.rs.length x.f.rc,.slice x.f.kq x.f.kl x.f.kc])/\TB w' x/\er x=er t/\Below w.heap.size w w':=by
 have B0:Hid (Below w.heap.size w ((w.alloc (.cells #[.int .i64 t.f.k,.int .i64 t.f.n,.int .i64 t.f.mn,.int .i64 t.f.mx,.slice t.f.rq t.f.rs.length t.f.rc,.slice t.f.kq t.f.kl t.f.kc] 25)).alloc (.cells #[.int .i64 0,.int .i64 0,.int .i64 0,.int .i64 0,.slice none 0 0,.slice none 0 0] 25))):=(bz9).alloc (by simp) _
 have N0:Hid (BoxN ((w.alloc (.cells #[.int .i64 t.f.k,.int .i64 t.f.n,.int .i64 t.f.mn,.int .i64 t.f.mx,.slice t.f.rq t.f.rs.length t.f.rc,.slice t.f.kq t.f.kl t.f.kc] 25)).alloc (.cells #[.int .i64 0,.int .i64 0,.int .i64 0,.int .i64 0,.slice none 0 0,.slice none 0 0] 25)) w.heap.size t.f):=(Below.heap_alloc _ _ _ (by simp)).trans (aE w _)
 have R0:Hid (BoxN ((w.alloc (.cells #[.int .i64 t.f.k,.int .i64 t.f.n,.int .i64 t.f.mn,.int .i64 t.f.mx,.slice t.f.rq t.f.rs.length t.f.rc,.slice t.f.kq t.f.kl t.f.kc] 25)).alloc (.cells #[.int .i64 0,.int .i64 0,.int .i64 0,.int .i64 0,.slice none 0 0,.slice none 0 0] 25)) (w.heap.size+1) zFl):=aD (aK _ (by simp only [a7]))
 have HTA:=aD hta
 clear hta
 go_enter Tryz.func26,Tryz.ntmps26
 go_upto_region 1 with fail
 generalize ((w.alloc (.cells #[.int .i64 t.f.k,.int .i64 t.f.n,.int .i64 t.f.mn,.int .i64 t.f.mx,.slice t.f.rq t.f.rs.length t.f.rc,.slice t.f.kq t.f.kl t.f.kc] 25)).alloc (.cells #[.int .i64 0,.int .i64 0,.int .i64 0,.int .i64 0,.slice none 0 0,.slice none 0 0] 25))=w1 at B0 N0 R0 ⊢
 obtain⟨bz,hbz⟩:∃ bz,w.heap.size+1=bz:=⟨_,rfl⟩
 rw [hbz] at R0 ⊢
 have hwz:w.heap.size<=bz:=by omega
 clear hbz
 obtain⟨n0,n1,n2,n3,n4,n5⟩:=N0.out.six
 simp only [g8] at n1 n2 n3 n4 n5
 have RC:=aD (aI5 (HTA.out.kept B0.out))
 obtain⟨C,hC⟩:∃ C,mC t=C:=⟨_,rfl⟩
 rw [hC] at RC
 have HC:=aD hC
 clear hC
 by_cases hb:(2000:Int) < (C:Int)
 ·go_upto_region 2 with (go_at_call 57;(with_reducible refine(RC.out).mono ?_);rintro e w5 ⟨rfl,h5⟩;have B5:=aD (aJ B0.out h5 lz9);have N5:Hid (BoxN w5 w.heap.size t.f):=(h5.block _ (aB N0.out)).trans N0.out;have R5:Hid (BoxN w5 bz zFl):=(h5.block _ (aB R0.out)).trans R0.out;clear h5)
  clear n0 n1 n2 n3 n4 n5
  obtain⟨n0,n1,n2,n3,n4,n5⟩:=N5.out.six
  simp only [g8] at n1 n2 n3 n4 n5
  obtain⟨r0,r1,r2,r3,r4,r5⟩:=R5.out.six
  simp only [g8] at r1 r2 r3 r4 r5
  have rz:=fun z=>aG R5.out z
  have P9:=aD (mV w5 bz 0 t.f)
  have X9:=aD (jW (g:=t.f) R5.out.six)
  have B9:Hid (Below w.heap.size w (kP w5 bz 0 t.f)):=bC B5.out P9.out lz9 (fun k e=>by omega)
  have T9:=aD (HTA.out.kept B9.out)
  unfold kP at X9 B9 T9
  go_wp2
  refine sI X9.out rfl rfl ?_
  exact⟨t,rfl,T9.out,rfl,B9.out⟩
 ·have hsz:t.sz<=2000:=by have:=HC.out;unfold mC at this;rw [eJ] at this;omega
  have HSZ:=aD hsz
  clear hsz
  go_upto_region 3 with (go_at_call 57;(with_reducible refine(RC.out).mono ?_);rintro e w5 ⟨rfl,h5⟩;have B5:=aD (aJ B0.out h5 lz9);have N5:Hid (BoxN w5 w.heap.size t.f):=(h5.block _ (aB N0.out)).trans N0.out;have R5:Hid (BoxN w5 bz zFl):=(h5.block _ (aB R0.out)).trans R0.out;clear h5)
  clear n0 n1 n2 n3 n4 n5
  obtain⟨n0,n1,n2,n3,n4,n5⟩:=N5.out.six
  simp only [g8] at n1 n2 n3 n4 n5
  have CP:=aD (bG1 t.sz t w5 lz9 (by have:=HSZ.out;omega) (HTA.out.kept B5.out))
  have LZ:=aB R5.out
  go_wp2_with (go_at_call 58;(with_reducible refine(CP.out).mono ?_);rintro e w7 ⟨t7,rfl,h71,h72,h73,h74⟩;have R7:BoxN w7 bz zFl:=(h74.block _ LZ).trans R5.out;obtain⟨r0,r1,r2,r3,r4,r5⟩:=R7.six;simp only [g8] at r1 r2 r3 r4 r5;have rz:=fun z=>aG R7 z;have X9:=aD (jW (g:=t7.f) R7.six);have P9:=aD (mV w7 bz 0 t7.f);have T9:=aD (h71.ckN h73 (P9.out.ckeep (fun k e z=>by omega)));have E9:=aD h72;have B9:Hid (Below w.heap.size w (kP w7 bz 0 t7.f)):=bC (aJ B5.out h74 lz9) P9.out lz9 (fun k e=>by omega);unfold kP at X9 T9 B9;clear h71 h72 h73 h74 R7 P9)
  refine sI X9.out rfl rfl ?_
  exact⟨t7,rfl,T9.out,E9.out,B9.out⟩
theorem aW4{w:World}{x n:Tr}(hx:TB w x)(hn:TB w n)(he:er x=er n):Calls Tryz.prog 29 #[.agg #[.int .i64 x.f.k,.int .i64 x.f.n,.int .i64 x.f.mn,.int .i64 x.f.mx,.slice x.f.rq x.f.rs.length x.f.rc,.slice x.f.kq x.f.kl x.f.kc],.agg #[.int .i64 n.f.k,.int .i64 n.f.n,.int .i64 n.f.mn,.int .i64 n.f.mx,.slice n.f.rq n.f.rs.length n.f.rc,.slice n.f.kq n.f.kl n.f.kc]] w fun e w'=>e=.returned (.bool true)/\Below w.heap.size w w':=by
 have B1:Hid (Below w.heap.size w ((w.alloc (.cells #[.int .i64 x.f.k,.int .i64 x.f.n,.int .i64 x.f.mn,.int .i64 x.f.mx,.slice x.f.rq x.f.rs.length x.f.rc,.slice x.f.kq x.f.kl x.f.kc] 25)).alloc (.cells #[.int .i64 n.f.k,.int .i64 n.f.n,.int .i64 n.f.mn,.int .i64 n.f.mx,.slice n.f.rq n.f.rs.length n.f.rc,.slice n.f.kq n.f.kl n.f.kc] 25))):=(bz9).alloc (by simp) _
 have NX:Hid (BoxN ((w.alloc (.cells #[.int .i64 x.f.k,.int .i64 x.f.n,.int .i64 x.f.mn,.int .i64 x.f.mx,.slice x.f.rq x.f.rs.length x.f.rc,.slice x.f.kq x.f.kl x.f.kc] 25)).alloc (.cells #[.int .i64 n.f.k,.int .i64 n.f.n,.int .i64 n.f.mn,.int .i64 n.f.mx,.slice n.f.rq n.f.rs.length n.f.rc,.slice n.f.kq n.f.kl n.f.kc] 25)) w.heap.size x.f):=(Below.heap_alloc _ _ _ (by simp)).trans (aE w _)
 have NN:Hid (BoxN ((w.alloc (.cells #[.int .i64 x.f.k,.int .i64 x.f.n,.int .i64 x.f.mn,.int .i64 x.f.mx,.slice x.f.rq x.f.rs.length x.f.rc,.slice x.f.kq x.f.kl x.f.kc] 25)).alloc (.cells #[.int .i64 n.f.k,.int .i64 n.f.n,.int .i64 n.f.mn,.int .i64 n.f.mx,.slice n.f.rq n.f.rs.length n.f.rc,.slice n.f.kq n.f.kl n.f.kc] 25)) (w.heap.size+1) n.f):=aD (aK _ (by simp only [a7]))
 have HX:=aD hx
 have HN:=aD hn
 have HE:=aD he
 clear hx hn he
 go_enter Tryz.func29,Tryz.ntmps29
 go_upto_region 1 with fail
 generalize ((w.alloc (.cells #[.int .i64 x.f.k,.int .i64 x.f.n,.int .i64 x.f.mn,.int .i64 x.f.mx,.slice x.f.rq x.f.rs.length x.f.rc,.slice x.f.kq x.f.kl x.f.kc] 25)).alloc (.cells #[.int .i64 n.f.k,.int .i64 n.f.n,.int .i64 n.f.mn,.int .i64 n.f.mx,.slice n.f.rq n.f.rs.length n.f.rc,.slice n.f.kq n.f.kl n.f.kc] 25))=w1 at B1 NX NN ⊢
 generalize w.heap.size+1=bb at NN ⊢
 obtain⟨c0,c1,c2,c3,c4,c5⟩:=NN.out.six
 simp only [g8] at c1 c2 c3 c4 c5
 have RC:=aD (aI5 (HN.out.kept B1.out))
 obtain⟨C,hC⟩:∃ C,mC n=C:=⟨_,rfl⟩
 rw [hC] at RC
 have HC:=aD hC
 clear hC
 by_cases hb:(2000:Int) < (C:Int)
 ·have db:decide ((2000:Int) < (C:Int))=true:=r8 hb
  go_wp2_with (go_at_call 57;(with_reducible refine(RC.out).mono ?_);rintro e w5 ⟨rfl,h5⟩;have B5:=aD (aJ B1.out h5 lz9);clear h5)
  go_ret
  exact⟨rfl,B5.out⟩
 ·have db:decide ((2000:Int) < (C:Int))=false:=l8 hb
  have hsz:n.sz<=2000:=by have:=HC.out;unfold mC at this;rw [eJ] at this;omega
  have RS:Hid (rsB x n=true):=by
   refine aD ?_
   unfold rsB
   have hl:=congrArg List.length (aR8 x n [] [] rfl HE.out)
   rw [o8,o8,eJ,eJ] at hl
   rw [eJ,eJ,hl,HE.out,l8 (by omega),aD3]
   rfl
  clear hsz
  go_wp2_with first
   |(go_at_call 57;(with_reducible refine(RC.out).mono ?_);rintro e w5 ⟨rfl,h5⟩;have B5:=aD (aJ B1.out h5 lz9);have X5:=aD ((HX.out.kept B1.out).kept h5);have N5:=aD ((HN.out.kept B1.out).kept h5);have BN5:BoxN w5 bb n.f:=(h5.block _ (aB NN.out)).trans NN.out;have BX5:BoxN w5 w.heap.size x.f:=(h5.block _ (aB NX.out)).trans NX.out;clear h5 c0 c1 c2 c3 c4 c5;obtain⟨c0,c1,c2,c3,c4,c5⟩:=BN5.six;obtain⟨d0,d1,d2,d3,d4,d5⟩:=BX5.six;simp only [g8] at c1 c2 c3 c4 c5 d1 d2 d3 d4 d5;have SM:=aD (bK7 X5.out N5.out);rw [RS.out] at SM;clear BN5 BX5)
   |(go_at_call 59;(with_reducible refine(SM.out).mono ?_);rintro e w6 ⟨rfl,h6⟩;have B6:=aD (aJ B5.out h6 lz9);clear h6)
  go_ret
  exact⟨by simp,B6.out⟩
end
section
open Go Go.RowKit Go.Shelf
def ErL{T:Type}(ρ:dH T):Prop:=∀ (a b:Tr) xs g,er a=er b->ρ a.f a.ks xs g=ρ b.f b.ks xs g
theorem bI0{T:Type}{ρ:dH T}(hρ:ErL ρ)(a:Tr):∀ (b:Tr) (g:Int->T),er a=er b->ev ρ g a=ev ρ g b:=by
 refine Tr.ind (P:=fun a=>∀ (b:Tr) (g:Int->T),er a=er b->ev ρ g a=ev ρ g b) (fun a ih b g h=>?_) a
 obtain⟨h1,h2,-,-,-,h6⟩:=(lZ a b).1 h
 have key:∀ (ks js:List Tr) (g:Int->T),(∀ u∈ks,u∈a.ks)->ks.map er=js.map er->evs ρ g ks=evs ρ g js:=by
  intro ks
  induction ks with
  | nil=>
   intro js g _ hl
   cases js with
   | nil=>rfl
   | cons v js=>cases hl
  | cons u ks ihk=>
   intro js g hm hl
   cases js with
   | nil=>cases hl
   | cons v js=>
    rw [r7,r7] at hl
    injection hl with e1 e2
    rw [dX,dX,ih u (hm u m8) v g e1,ihk js _ (fun z hz=>hm z (n6 _ hz)) e2]
 have hk:=key a.ks b.ks g (fun _ z=>z) h6
 have hf:(ev ρ g a).1=(ev ρ g b).1:=by rw [iV,iV,hk,hρ a b _ _ h]
 refine Prod.ext hf ?_
 rw [jN,jN,hk,hf,h1,h2]
theorem bD3(c:Bool):ErL (bJ c):=fun a b xs g h=>by
 obtain⟨h1,h2,h3,h4,h5,h6⟩:=(lZ a b).1 h
 unfold bJ
 rw [h1,h2,h3,h4,h5]
theorem bF8{u v:Tr}(h:er u=er v):u.f.k=v.f.k:=((lZ u v).1 h).1
theorem aH2:∀ (ks js:List Tr) (xs:List (ByteArray × Bool)) (s:ByteArray) (b:Bool),ks.map er=js.map er->dF s b ks xs=dF s b js xs
 | [],[],_,_,_,_=>rfl
 | [],_ :: _,_,_,_,h=>by cases h
 | _ :: _,[],_,_,_,h=>by cases h
 | u :: ks,v :: js,[],s,b,_=>by rw [dF,dF]
 | u :: ks,v :: js,x :: xs,s,b,h=>by
  rw [r7,r7] at h
  injection h with e1 e2
  rw [dF,dF,bF8 e1,aH2 ks js xs _ _ e2]
theorem aI6(c:Bool):ErL (cD c):=fun a b xs g h=>by
 obtain⟨h1,h2,h3,h4,h5,h6⟩:=(lZ a b).1 h
 unfold cD iF
 rw [h1,h3,h4,h5,aH2 _ _ xs _ _ h6]
theorem bJ1{ρ:dH (BitVec 256 × Bool)}(hρ:ErL ρ){c o:Bool}{a b:Tr}(h:er a=er b):tvS ρ c o a=tvS ρ c o b:=by unfold tvS;rw [zM h,bI0 hρ a b _ h]
theorem aS6{ρ:dH (ByteArray × Bool)}(hρ:ErL ρ){c o:Bool}{a b:Tr}(h:er a=er b):tvO ρ c o a=tvO ρ c o b:=by unfold tvO;rw [zM h,bI0 hρ a b _ h]
theorem bE0{c o:Bool}{a b:Tr}(h:er a=er b):lG c o a=lG c o b:=by unfold lG;rw [aS6 (aI6 c) h]
structure LR(w:World)(t x:Tr)(c o:Bool)(bx:Nat)(W:World):Prop where
 nd:BoxN W w.heap.size t.f
 md:W.heap[w.heap.size+1]?=some (.cells #[.bool c,.bool o] 27 (0,0))
 xd:BoxN W bx x.f
 tt:TB W t
 tx:TB W x
 bel:Below w.heap.size w W
theorem LR.kept{w:World}{t x:Tr}{c o:Bool}{bx:Nat}{W W':World}(h:LR w t x c o bx W)(hb:Below W.heap.size W W'):LR w t x c o bx W':=
 ⟨(hb.block _ (aB h.nd)).trans h.nd,(hb.block _ (aB h.md)).trans h.md,(hb.block _ (aB h.xd)).trans h.xd,h.tt.kept hb,h.tx.kept hb,aJ h.bel hb lz9⟩
end
section
attribute [local go_sem] Oper.semAt_some
theorem bC6{R:Ending->World->Prop}{a:Act}{W:World}{b:Nat}{f:Fl}(h:Six W b 0 f)(ha:a.tmps[4]?.getD undef=.pointer (some ⟨b,0,none⟩))(hd:a.defers=[])(hR:R (.returned (.agg #[.int .i64 f.k,.int .i64 f.n,.int .i64 f.mn,.int .i64 f.mx,.slice f.rq f.rs.length f.rc,.slice f.kq f.kl f.kc])) W):bodyPost Tryz.prog Tryz.f111 R .ret a W:=by
 obtain⟨z0,z1,z2,z3,z4,z5⟩:=h
 simp only [g8] at z1 z2 z3 z4 z5
 refine bodyPost_ret (v:=.agg #[.int .i64 f.k,.int .i64 f.n,.int .i64 f.mn,.int .i64 f.mx,.slice f.rq f.rs.length f.rc,.slice f.kq f.kl f.kc]) ?_ hd hR
 simp [results,Tryz.results111,go_sem,ha,z0,z1,z2,z3,z4,z5]
abbrev xI:Fl:=⟨0,0,0,0,[],none,0,none,0,0⟩
def isG(n:Int)(x:El):Bool:=x.2.f.k==7 && x.2.f.n==n
theorem bE6{w:World}{t:Tr}(n:Int)(hta:TB w t)(hl:(pp [] t).length<=2000){j:Nat}{y:El}(hy:(pp [] t)[j]?=some y)(hyg:isG n y=true)(hfst:∀ (i:Nat) (x:El),i < j->(pp [] t)[i]?=some x->isG n x=false) :
  Calls Tryz.prog 111 #[.agg #[.int .i64 t.f.k,.int .i64 t.f.n,.int .i64 t.f.mn,.int .i64 t.f.mx,.slice t.f.rq t.f.rs.length t.f.rc,.slice t.f.kq t.f.kl t.f.kc],.int .i64 n] w fun e w'=>e=.returned (.agg #[.int .i64 y.2.f.k,.int .i64 y.2.f.n,.int .i64 y.2.f.mn,.int .i64 y.2.f.mx,.slice y.2.f.rq y.2.f.rs.length y.2.f.rc,.slice y.2.f.kq y.2.f.kl y.2.f.kc])/\Below w.heap.size w w':=by
 have B0:Hid (Below w.heap.size w ((w.alloc (.cells #[.int .i64 t.f.k,.int .i64 t.f.n,.int .i64 t.f.mn,.int .i64 t.f.mx,.slice t.f.rq t.f.rs.length t.f.rc,.slice t.f.kq t.f.kl t.f.kc] 25)).alloc (.cells #[.int .i64 0,.int .i64 0,.int .i64 0,.int .i64 0,.slice none 0 0,.slice none 0 0] 25))):=(bz9).alloc (by simp) _
 have N0:Hid (BoxN ((w.alloc (.cells #[.int .i64 t.f.k,.int .i64 t.f.n,.int .i64 t.f.mn,.int .i64 t.f.mx,.slice t.f.rq t.f.rs.length t.f.rc,.slice t.f.kq t.f.kl t.f.kc] 25)).alloc (.cells #[.int .i64 0,.int .i64 0,.int .i64 0,.int .i64 0,.slice none 0 0,.slice none 0 0] 25)) w.heap.size t.f):=(Below.heap_alloc _ _ _ (by simp)).trans (aE w _)
 have R0:Hid (BoxN ((w.alloc (.cells #[.int .i64 t.f.k,.int .i64 t.f.n,.int .i64 t.f.mn,.int .i64 t.f.mx,.slice t.f.rq t.f.rs.length t.f.rc,.slice t.f.kq t.f.kl t.f.kc] 25)).alloc (.cells #[.int .i64 0,.int .i64 0,.int .i64 0,.int .i64 0,.slice none 0 0,.slice none 0 0] 25)) (w.heap.size+1) xI):=aD (aK _ (by simp only [a7]))
 have LD:Hid (∀ W,Below w.heap.size w W->Calls Tryz.prog 36 #[.agg #[.int .i64 t.f.k,.int .i64 t.f.n,.int .i64 t.f.mn,.int .i64 t.f.mx,.slice t.f.rq t.f.rs.length t.f.rc,.slice t.f.kq t.f.kl t.f.kc],.int .i64 2000] W (bA1 W (lH 2000 t))):=fun W hW=>sQ 2000 (by omega) (hta.kept hW)
 have HMP:Hid ((lH 2000 t).map (·.1)=pp [] t):=aD (by rw [lU,j9 hl])
 have hZ:(lH 2000 t).length<=2000:=by have:=oO 2000 t;omega
 generalize lH 2000 t=Z at LD HMP hZ
 have HY:=aD hy
 have HG:=aD hyg
 have HF:=aD hfst
 have hjZ:j < Z.length:=by have h1:=congrArg List.length HMP.out;rw [o8] at h1;rw [h1];exact(i5.1 hy).1
 clear hta hl hy hyg hfst
 go_enter Tryz.func111,Tryz.ntmps111
 go_upto_region 1 with fail
 generalize ((w.alloc (.cells #[.int .i64 t.f.k,.int .i64 t.f.n,.int .i64 t.f.mn,.int .i64 t.f.mx,.slice t.f.rq t.f.rs.length t.f.rc,.slice t.f.kq t.f.kl t.f.kc] 25)).alloc (.cells #[.int .i64 0,.int .i64 0,.int .i64 0,.int .i64 0,.slice none 0 0,.slice none 0 0] 25))=w1 at B0 N0 R0 ⊢
 obtain⟨n0,n1,n2,n3,n4,n5⟩:=N0.out.six
 simp only [g8] at n1 n2 n3 n4 n5
 go_upto_region 2 with (go_at_call 36;refine(LD.out _ B0.out).mono ?_;rintro e w5 ⟨q5,k5,rfl,h51,h52⟩;have Z5:=aD h51;have R5:Hid (BoxN w5 (w.heap.size+1) xI):=(h52.block _ (aB R0.out)).trans R0.out;have B5:=aD (aJ B0.out h52 lz9);clear h51 h52)
 clear n0 n1 n2 n3 n4 n5 N0 R0 B0 LD
 obtain⟨g,cc,hq⟩:=aL Z5.out (by omega)
 injection hq with hq1 _ hq2
 subst hq1 hq2
 go_upto_region 3 with fail
 go_loopw [6] (fun i wr=>∃ k:Nat,k<=j/\i=.int .i64 (k:Int)/\wr=w5) (fun i _=>j - (intOf i).toNat)
 case atStart=>exact⟨0,m9 _,rfl,rfl⟩
 case round=>
  obtain⟨k,hk,rfl,rfl⟩:=hrel
  have i0:(k:Int) < (Z.length:Int):=by omega
  obtain⟨z,hz⟩:∃ z,Z[k]?=some z:=⟨_,g9 (by omega)⟩
  have hx:(pp [] t)[k]?=some z.1:=by rw [<- HMP.out,aAE,hz];rfl
  have y0:=Z5.out.cells hz (j:=0) (v:=.int .i64 z.1.2.f.k) rfl
  rw [aBP] at y0
  have y1:=Z5.out.cells hz (j:=1) (v:=.int .i64 z.1.2.f.n) rfl
  have y2:=Z5.out.cells hz (j:=2) (v:=.int .i64 z.1.2.f.mn) rfl
  have y3:=Z5.out.cells hz (j:=3) (v:=.int .i64 z.1.2.f.mx) rfl
  have y4:=Z5.out.cells hz (j:=4) (v:=.slice z.1.2.f.rq z.1.2.f.rs.length z.1.2.f.rc) rfl
  have y5:=Z5.out.cells hz (j:=5) (v:=.slice z.1.2.f.kq z.1.2.f.kl z.1.2.f.kc) rfl
  have hwr:IntKind.wrap .i64 ((k:Int)+1)=(k:Int)+1:=wrap_small _ (by omega) (by omega)
  by_cases hkj:k=j
  ·subst hkj
   have e:y=z.1:=aAP (HY.out.symm.trans hx)
   subst e
   have hg:=HG.out
   unfold isG at hg
   rw [aAT] at hg
   obtain⟨e7,en⟩:=hg
   clear hz hx
   have RS:BoxN wr (w.heap.size+1) xI:=R5.out
   obtain⟨r0,r1,r2,r3,r4,r5⟩:=RS.six
   simp only [g8] at r1 r2 r3 r4 r5
   have rz:=fun z=>aG RS z
   have X9:=aD (jW (g:=z.1.2.f) RS.six)
   have F9:=aD (mV wr (w.heap.size+1) 0 z.1.2.f)
   have B9:Hid (Below w.heap.size w (kP wr (w.heap.size+1) 0 z.1.2.f)):=bC B5.out F9.out lz9 (fun k e=>by omega)
   unfold kP at X9 B9
   clear RS F9
   go_wp2
   refine bC6 X9.out rfl rfl ?_
   exact⟨rfl,B9.out⟩
  ·have hg:=HF.out k z.1 (by omega) hx
   unfold isG at hg
   clear hz hx
   by_cases h7:z.1.2.f.k=7
   ·have e7:(z.1.2.f.k==7)=true:=by rw [h7];rfl
    rw [e7,aCC] at hg
    clear h7
    go_wp2
    go_roundw
    case rel=>exact⟨k+1,by omega,by go_num,by trivial⟩
    case measure=>simp only [intOf];omega
   ·have e7:(z.1.2.f.k==7)=false:=by simpa using h7
    clear hg
    go_wp2
    go_roundw
    case rel=>exact⟨k+1,by omega,by go_num,by trivial⟩
    case measure=>simp only [intOf];omega
end
theorem aU8(par:Tr)(p:Way):∀ (ks:List Tr) (i j:Nat) (u:Tr),ks[j]?=some u->(pps par p i ks)[szs (ks.take j)]?=some ((par,i+j) :: p,u)
 | [],i,j,u,h=>by simp at h
 | v :: ks,i,0,u,h=>by
  simp at h
  subst h
  rw [aAS,fZ,bL,cF]
  rfl
 | v :: ks,i,j+1,u,h=>by
  rw [aAL] at h
  rw [aBL,gA,bL,aAB (by rw [eJ];omega),eJ,Nat.add_sub_cancel_left,aU8 par p ks (i+1) j u h,show i+1+j=i+(j+1) by omega]
theorem bL7{t:Tr}{i:Nat}{x:El}(h:(pp [] t)[i]?=some x){j:Nat}{u:Tr}(hu:x.2.ks[j]?=some u):(pp [] t)[i+1+szs (x.2.ks.take j)]?=some ((x.2,j) :: x.1,u)/\i+1+szs (x.2.ks.take j)+u.sz<=i+x.2.sz:=by
 obtain⟨rest,hr⟩:=seg t [] i x h
 have h1:=cC hu
 have h2:=pP x.2.ks (j+1)
 have h3:=jG x.2
 refine⟨?_,by omega⟩
 have e:((pp [] t).drop i)[1+szs (x.2.ks.take j)]?=some ((x.2,j) :: x.1,u):=by
  rw [hr,o4 (by rw [eJ];have:=eV u;omega),cF,show 1+szs (x.2.ks.take j)=szs (x.2.ks.take j)+1 by omega,aAL,aU8 _ _ _ _ _ _ hu,g8]
 rw [List.getElem?_drop,<- aAI] at e
 exact e
theorem rZ{L:List El}{i:Nat}{x:El}(h:L[i]?=some x):L=L.take i ++ x :: L.drop (i+1):=by
 have hi:=(i5.1 h).1
 have:=aBG i L
 rw [aAH hi,(i5.1 h).2] at this
 exact this.symm
theorem wP{t:Tr}(hg:GpL 0 (pp [] t)){j:Nat}{y:El}(h:(pp [] t)[j]?=some y)(hk:y.2.f.k=7):y.2.f.n=(cL ((pp [] t).take j):Int)+1:=by
 have:=(hg _ _ _ (rZ h)).1 hk
 simpa using this
theorem uY{L:List El}{j i:Nat}{y:El}(h:L[j]?=some y)(hk:y.2.f.k=7)(hi:j < i):cL (L.take j) < cL (L.take i):=by
 have e:L.take i=L.take j ++ y :: (L.take i).drop (j+1):=by
  have hjl:=(i5.1 h).1
  have:=rZ (L:=L.take i) (i:=j) (x:=y) (by rw [List.getElem?_take,if_pos hi];exact h)
  rwa [List.take_take,Nat.min_eq_left (by omega)] at this
 rw [e,fS,pY,if_pos hk]
 omega
theorem bE5{t:Tr}(hg:GpL 0 (pp [] t)){j j':Nat}{y y':El}(h:(pp [] t)[j]?=some y)(hk:y.2.f.k=7)(h':(pp [] t)[j']?=some y')(hk':y'.2.f.k=7)(hn:y.2.f.n=y'.2.f.n):j=j':=by
 have a:=wP hg h hk
 have b:=wP hg h' hk'
 rcases Nat.lt_trichotomy j j' with q | q | q
 ·have:=uY h hk q;omega
 ·exact q
 ·have:=uY h' hk' q;omega
theorem bG7{t:Tr}(hg:GpL 0 (pp [] t)){i:Nat}{x:El}(h:(pp [] t)[i]?=some x)(hk:x.2.f.k=8):∃ j y,(pp [] t)[j]?=some y/\y.2.f.k=7/\y.2.f.n=x.2.f.n/\j+y.2.sz<=i:=by
 obtain⟨h1,h2,h3⟩:=(hg _ _ _ (rZ h)).2 hk
 have hil:=(i5.1 h).1
 obtain⟨N,hN⟩:∃ N:Nat,x.2.f.n=(N:Int)+1:=⟨(x.2.f.n - 1).toNat,by omega⟩
 have hlt:N < (hU 0 ((pp [] t).take i)).length:=by rw [lW];simp at h2;omega
 obtain⟨j,hj⟩:∃ j,(hU 0 ((pp [] t).take i))[N]?=some j:=⟨_,g9 hlt⟩
 obtain⟨-,y,y1,y2,y3⟩:=oU _ 0 N j hj
 rw [Nat.sub_zero] at y1 y3
 have hji:j < i:=by have:=(i5.1 y1).1;rw [o9] at this;omega
 have hy:(pp [] t)[j]?=some y:=by rw [List.getElem?_take,if_pos hji] at y1;exact y1
 have hn:y.2.f.n=x.2.f.n:=by
  rw [wP hg hy y2,hN,<- y3,List.take_take,Nat.min_eq_left (by omega)]
 refine⟨j,y,hy,y2,hn,?_⟩
 rcases Nat.lt_or_ge i (j+y.2.sz) with q | q
 ·exfalso
  obtain⟨s,k,e⟩:=aR9 h hy hji q
  have:eO x.1 x.2.f.n=true:=by
   unfold eO
   rw [e,List.any_append,List.any_cons]
   simp [y2,hn]
  rw [h3] at this
  cases this
 ·exact q
section
attribute [local go_sem] Oper.semAt_some bB
def ceQ(xs:List (Int × Int)):List Value:=xs.flatMap fun x=>[.int .i64 x.1,.int .i64 x.2]
def KW(V:World)(b:Nat)(f:Fl)(c o:Bool)(G:Int->Int × Int):Prop:=
 ∃ cs:List Value,V.heap[b]?=some (.cells cs.toArray 106 (0,0))/\cs.length=287/\(∀ (i:Nat) (v:Value),(f.cells ++ [.bool c,.bool o])[i]?=some v->cs[i]?=some v) /\
  ∀ i:Nat,i < 31->∃ h:Bool,cs[8+i]?=some (.bool h)/\(h=true->cs[39+i * 2]?=some (.int .i64 (G (i:Int)).1)/\cs[39+i * 2+1]?=some (.int .i64 (G (i:Int)).2))
variable {f:Fl} {c o:Bool} {G:Int->Int × Int}
theorem gL{w:World}{b i j:Nat}(v:Value)(h:i≠j):(w.setCell ⟨b,i,none⟩ v).cell? ⟨b,j,none⟩=w.cell? ⟨b,j,none⟩:=by
 simp only [World.setCell,World.cell?,Array.getElem?_modify]
 cases hb:w.heap[b]? with
 | none=>simp
 | some ob=>cases ob <;> simp [h]
theorem qD(f:Fl):f.cells.length=6:=by simp [Fl.cells]
structure KS(B b:Nat)(t:Tr)(c o:Bool)(G:Int->Int × Int)(V:World):Prop where
 tb:TB V t
 ft:Foot (fun k=>k < B) t
 lt:B<=b
 kw:KW V b t.f c o G
variable {B b:Nat} {t:Tr}
theorem zK{S S':Nat->Prop}{w V V':World}(h:Fr S w V)(k:Fr S' V V')(hs:∀ z,S' z->S z\/w.heap.size<=z):Fr S w V':=
 ⟨k.os.trans h.os,k.tape.trans h.tape,k.output.trans h.output,i8 h.size k.size,fun z hz hn=>(k.block z (i6 hz h.size) (fun q=>by rcases hs z q with e | e;exact hn e;omega)).trans (h.block z hz hn)⟩
structure WI(w:World)(B b:Nat)(t:Tr)(c o:Bool)(G:Int->Int × Int)(f:Fl)(xs:List (Int × Int))(q:Option Addr)(cc:Nat)(V:World):Prop where
 ks:KS B b t c o G V
 fr:Fr (fun k=>k=b) w V
 bw:b < w.heap.size
 nb:BoxN V w.heap.size f
 rz:V.heap[w.heap.size+1]?=some (.cells #[.int .i64 0,.int .i64 0] 102 (0,0))
 row:V.ownsRow w.heap.size 102 2 (.slice q xs.length cc) xs.length (ceQ xs)
 old:∀ k,(Value.slice q xs.length cc).ownBlock=some k->w.heap.size+1 < k
variable {w V V':World} {xs:List (Int × Int)} {q:Option Addr} {cc:Nat}
structure W2(w:World)(B b:Nat)(t:Tr)(c o:Bool)(G:Int->Int × Int)(f:Fl)(xs:List (Int × Int))(q:Option Addr)(cc:Nat)(bw:Nat)(y:Int × Int)(V:World):Prop where
 wi:WI w B b t c o G f xs q cc V
 y:V.heap[bw]?=some (.cells #[.int .i64 y.1,.int .i64 y.2] 102 (0,0))
 lt:w.heap.size+1 < bw
 ne:(Value.slice q xs.length cc).ownBlock≠some bw
end
section
attribute [local go_sem] Oper.semAt_some bB
variable {c o:Bool} {G:Int->Int × Int} {B b:Nat} {t:Tr}
theorem aY0{T:Type}{ρ:dH T}{NP:Tr->Prop}{Good:T->Prop}(hg:∀ t xs g,NP t->xs.length=t.ks.length->(∀ x∈xs,Good x)->(∀ i,Good (g i))->Good (ρ t.f t.ks xs g)){G:Int->T}(hG:∀ i,Good (G i))(t:Tr):bY NP t->Good (evG ρ G t):=by
 refine Tr.ind (P:=fun t=>bY NP t->Good (evG ρ G t)) (fun t ih he=>?_) t
 rw [qB,sU]
 refine hg t _ G ((bE t).1 he).1 (by simp) (fun x hx=>?_) hG
 obtain⟨u,hu,rfl⟩:=aAM.1 hx
 exact ih u hu (bI he hu)
theorem jZ{α:Type}{xs:List α}{x d:α}(h:xs[0]?=some x):xs.headD d=x:=by
 cases xs with
 | nil=>cases h
 | cons a l=>simpa using h
end
theorem bF5{T:Type}{ρ:dH T}(hρ:∀ f ks xs g g',ρ f ks xs g=ρ f ks xs g')(G:Int->T)(t:Tr):∀ g,(ev ρ g t).1=evG ρ G t:=by
 refine Tr.ind (P:=fun t=>∀ g,(ev ρ g t).1=evG ρ G t) (fun t ih g=>?_) t
 have key:∀ (ks:List Tr) (g:Int->T),(∀ u∈ks,u∈t.ks)->(evs ρ g ks).1=qX ρ G ks:=by
  intro ks
  induction ks with
  | nil=>intro g _;rw [cX,qX]
  | cons u ks ihk=>
   intro g hm
   rw [dX,qX,ih u (hm u m8) g,ihk _ (fun z hz=>hm z (n6 _ hz))]
 rw [iV,qB,key t.ks g (fun _ h=>h)]
 exact hρ _ _ _ _ _
def oG(c:Bool)(t:Tr):ByteArray × Bool:=evG (cD c) (fun _=>(noB,false)) t
theorem aV3(c:Bool)(t:Tr):oG c t=cD c t.f t.ks (t.ks.map (oG c)) (fun _=>(noB,false)):=by
 have:=qB (ρ:=cD c) (fun _=>(noB,false)) t
 rw [sU] at this
 exact this
theorem aS5(c o:Bool)(t:Tr):tvO (cD c) c o t=if aY c o 0 0 (pp [] t)=0 then oG c t else (noB,false):=by
 unfold tvO
 rw [bF5 (ρ:=cD c) (fun _ _ _ _ _=>rfl) (fun _=>(noB,false)) t]
 rfl
abbrev btl(s:ByteArray):List UInt8:=s.data.toList
theorem xC{a b:ByteArray}(h:btl a=btl b):a=b:=by
 cases a;cases b
 simp only [btl,ByteArray.mk.injEq] at *
 exact Array.toList_inj.1 h
theorem rE(a b:ByteArray):btl (a ++ b)=btl a ++ btl b:=by
 show (a ++ b).data.toList=_
 rw [ByteArray.data_append,Array.toList_append]
theorem eG(a:ByteArray):a.size=(btl a).length:=by show a.data.size=a.data.toList.length;rw [aBX]
theorem aL0(a:ByteArray)(n:Nat):btl (a.extract 0 n)=(btl a).take n:=by
 show (a.extract 0 n).data.toList=_
 rw [ByteArray.data_extract,Array.toList_extract]
 simp [List.extract]
theorem rD(s:ByteArray)(n:Nat):btl (fI s n)=Lib.repeatL (btl s) n:=by simp [fI,btl]
theorem pG(a b:ByteArray):(a ++ b).size=a.size+b.size:=by rw [eG,rE,m7,eG,eG]
def cZ(x:ByteArray × Bool):ByteArray × Bool:=if x.2 then (x.1,true) else (noB,false)
def jQ(s:ByteArray)(xs:List (ByteArray × Bool)):ByteArray:=xs.foldl (fun s x=>s ++ x.1) s
theorem aK8:∀ (xs:List (ByteArray × Bool)) (s:ByteArray),s.size<=(jQ s xs).size
 | [],s=>n8 _
 | x :: xs,s=>by
  have:=aK8 xs (s ++ x.1)
  rw [pG] at this
  show s.size<=(jQ (s ++ x.1) xs).size
  omega
theorem aH1:∀ (ks:List Tr) (xs:List (ByteArray × Bool)) (s:ByteArray) (b:Bool),ks.length=xs.length->(∀ x∈xs,x.2=true)->(jQ s xs).size<=1000->dF s b ks xs=(jQ s xs,b)
 | [],[],s,b,_,_,_=>by rw [dF];rfl
 | [],_ :: _,_,_,h,_,_=>by cases h
 | _ :: _,[],_,_,h,_,_=>by cases h
 | u :: ks,x :: xs,s,b,h,hx,hs=>by
  have h1:=hx x m8
  have h2:=aK8 xs (s ++ x.1)
  have h3:(jQ (s ++ x.1) xs).size<=1000:=hs
  rw [dF,h1,l8 (by omega)]
  simp only [Bool.true_or,Bool.not_false,Bool.and_self,if_true,Bool.and_true]
  exact aH1 ks xs (s ++ x.1) b (by simpa using h) (fun y hy=>hx y (n6 _ hy)) hs
theorem aH0:∀ (ks:List Tr) (xs:List (ByteArray × Bool)) (s:ByteArray) (b:Bool),ks.length=xs.length->(∀ x∈xs,x.2=true)->1000 < (jQ s xs).size->1000 < (dF s b ks xs).1.size
 | [],[],s,b,_,_,hs=>by rw [dF];exact hs
 | [],_ :: _,_,_,h,_,_=>by cases h
 | _ :: _,[],_,_,h,_,_=>by cases h
 | u :: ks,x :: xs,s,b,h,hx,hs=>by
  have h1:=hx x m8
  rw [dF,h1]
  by_cases hc:1000 < (s ++ x.1).size
  ·rw [r8 hc]
   simpa using hc
  ·rw [l8 hc]
   simp only [Bool.true_or,Bool.not_false,Bool.and_self,if_true]
   exact aH0 ks xs (s ++ x.1) _ (by simpa using h) (fun y hy=>hx y (n6 _ hy)) hs
theorem uQ:∀ (ks:List Tr) (xs:List (ByteArray × Bool)) (s:ByteArray) (b:Bool),ks.length=xs.length->(b=false\/∃ x∈xs,x.2=false)->(dF s b ks xs).2=false\/1000 < (dF s b ks xs).1.size
 | [],[],s,b,_,h=>by
  rw [dF]
  rcases h with h | ⟨x,hx,-⟩
  ·exact .inl h
  ·cases hx
 | [],_ :: _,_,_,h,_=>by cases h
 | _ :: _,[],_,_,h,_=>by cases h
 | u :: ks,x :: xs,s,b,hl,h=>by
  rw [dF]
  by_cases hc:((x.2 || u.f.k==3) && !decide (1000 < (s ++ x.1).size))=true
  ·rw [if_pos hc]
   refine uQ ks xs _ _ (by simpa using hl) ?_
   rcases h with h | ⟨y,hy,hf⟩
   ·exact .inl (by rw [h];rfl)
   ·rcases aAW.1 hy with e | e
    ·subst e;exact .inl (by rw [hf];simp)
    ·exact .inr ⟨y,e,hf⟩
  ·rw [if_neg hc]
   by_cases hs:1000 < (s ++ x.1).size
   ·exact .inr hs
   ·refine .inl ?_
    rw [l8 hs] at hc
    simp only [Bool.not_false,Bool.and_true,Bool.or_eq_true,not_or] at hc
    have:x.2=false:=by simpa using hc.1
    show (b && x.2)=false
    rw [this];simp
theorem bD9{ks:List Tr}{xs:List (ByteArray × Bool)}(hl:ks.length=xs.length)(hx:∀ x∈xs,x.2=true):cZ (dN (dF noB true ks xs))=if 1000 < (jQ noB xs).size then (noB,false) else (jQ noB xs,true):=by
 by_cases h:1000 < (jQ noB xs).size
 ·rw [if_pos h]
  unfold dN
  rw [if_pos (aH0 ks xs noB true hl hx h)]
  rfl
 ·rw [if_neg h,aH1 ks xs noB true hl hx (by omega)]
  unfold dN
  rw [if_neg h]
  rfl
theorem aE9{ks:List Tr}{xs:List (ByteArray × Bool)}(hl:ks.length=xs.length){x:ByteArray × Bool}(hx:x∈xs)(hf:x.2=false):cZ (dN (dF noB true ks xs))=(noB,false):=by
 rcases uQ ks xs noB true hl (.inr ⟨x,hx,hf⟩) with h | h
 ·unfold dN
  split
  ·rfl
  ·unfold cZ;rw [h];rfl
 ·unfold dN
  rw [if_pos h]
  rfl
def jM:ByteArray->List Tr->List (ByteArray × Bool)->ByteArray
 | s,u :: ks,x :: xs=>if x.2 || u.f.k==3 then jM (s ++ x.1) ks xs else s ++ x.1
 | s,[],_=>s
 | s,_ :: _,[]=>s
theorem aI8:∀ (ks:List Tr) (xs:List (ByteArray × Bool)) (s:ByteArray),∃ r,btl (jM s ks xs)=btl s ++ r
 | [],_,s=>⟨[],by rw [jM];simp⟩
 | _ :: _,[],s=>⟨[],by rw [jM];simp⟩
 | u :: ks,x :: xs,s=>by
  rw [jM]
  split
  ·obtain⟨r,hr⟩:=aI8 ks xs (s ++ x.1)
   exact⟨btl x.1 ++ r,by rw [hr,rE,t9]⟩
  ·exact⟨btl x.1,rE _ _⟩
theorem wJ:∀ (ks:List Tr) (xs:List (ByteArray × Bool)) (s:ByteArray) (b:Bool),ks.length=xs.length->(∃ r,btl (jM s ks xs)=btl (dF s b ks xs).1 ++ r)/\((dF s b ks xs).1.size<=1000->jM s ks xs=(dF s b ks xs).1)
 | [],[],s,b,_=>by rw [dF,jM];exact⟨⟨[],by simp⟩,fun _=>rfl⟩
 | [],_ :: _,_,_,h=>by cases h
 | _ :: _,[],_,_,h=>by cases h
 | u :: ks,x :: xs,s,b,h=>by
  rw [dF,jM]
  by_cases hc:(x.2 || u.f.k==3)=true
  ·rw [hc,if_pos rfl]
   rw [aCC]
   by_cases hs:1000 < (s ++ x.1).size
   ·rw [r8 hs]
    simp only [Bool.not_true,aBZ,if_false]
    exact⟨aI8 ks xs (s ++ x.1),fun h=>by omega⟩
   ·rw [l8 hs]
    simp only [Bool.not_false,if_true]
    exact wJ ks xs (s ++ x.1) _ (by simpa using h)
  ·have hc':(x.2 || u.f.k==3)=false:=by simpa using hc
   rw [hc']
   have e1:(if (false && !decide (1000 < (s ++ x.1).size))=true then dF (s ++ x.1) (b && x.2) ks xs else (s ++ x.1,b && x.2))=(s ++ x.1,b && x.2):=if_neg (by simp)
   have e2:(if false=true then jM (s ++ x.1) ks xs else s ++ x.1)=s ++ x.1:=if_neg (by simp)
   rw [e1,e2]
   exact⟨⟨[],by rw [aBH]⟩,fun _=>rfl⟩
def mA(s:ByteArray):ByteArray:=if 1000 < s.size then s.extract 0 1000 else s
theorem aK4{a b:ByteArray}(h:∃ r,btl a=btl b ++ r)(h2:b.size<=1000->a=b):mA a=mA b:=by
 obtain⟨r,hr⟩:=h
 by_cases hb:1000 < b.size
 ·have ha:1000 < a.size:=by rw [eG,hr,m7,<- eG];omega
  unfold mA
  rw [if_pos ha,if_pos hb]
  refine xC ?_
  rw [aL0,aL0,hr,aBW (by rw [<- eG];omega)]
 ·rw [h2 (by omega)]
theorem zP(x:ByteArray × Bool):(dN x).1=mA x.1:=by unfold dN mA;split <;> rfl
theorem bL2{ks:List Tr}{xs:List (ByteArray × Bool)}(h:ks.length=xs.length):mA (jM noB ks xs)=(dN (dF noB true ks xs)).1:=by
 rw [zP]
 exact aK4 (wJ ks xs noB true h).1 (wJ ks xs noB true h).2
def lD(s:ByteArray)(n:Nat)(v:ByteArray):Prop:=∃ m,m<=n/\v=fI s m/\(m=n\/s.size=0\/1000 < v.size)
theorem aI4(l:List UInt8):∀ (m k:Nat),Lib.repeatL l (m+k)=Lib.repeatL l m ++ Lib.repeatL l k:=by
 intro m k
 induction m with
 | zero=>rw [g8];rfl
 | succ m ih=>rw [show m+1+k=(m+k)+1 by omega,Lib.repeatL,Lib.repeatL,ih,t9]
theorem uO{s:ByteArray}{n:Nat}{v:ByteArray}(h:lD s n v):(∃ r,btl (fI s n)=btl v ++ r)/\(v.size<=1000->fI s n=v):=by
 obtain⟨m,hm,rfl,h3⟩:=h
 obtain⟨k,rfl⟩:∃ k,n=m+k:=⟨n - m,by omega⟩
 refine⟨⟨Lib.repeatL (btl s) k,by rw [rD,rD,aI4]⟩,fun hv=>?_⟩
 rcases h3 with h | h | h
 ·rw [<- h]
 ·refine xC (o3 ?_ |>.trans (o3 ?_).symm)
  ·rw [<- eG,mU,h];simp
  ·rw [<- eG,mU,h];simp
 ·omega
section
attribute [local go_sem] Oper.semAt_some bB
theorem aU5(s:ByteArray)(m:Nat):fI s m ++ s=fI s (m+1):=by
 refine xC ?_
 rw [rE,rD,rD,aI4]
 congr 1
 show btl s=btl s ++ []
 simp
theorem aG7(s:ByteArray)(n:Nat)(w:World)(hs:s.size<=1000)(hn:n<=255):Calls Tryz.prog 114 #[.string s,.int .i64 (n:Int)] w fun e w'=>∃ v,e=.returned (.string v)/\lD s n v/\w'=w:=by
 go_enter Tryz.func114,Tryz.ntmps114
 go_upto_region 3 with fail
 go_loopw [5,6] (fun o i wr=>∃ m:Nat,m<=n/\o=.string (fI s m)/\i=.int .i64 (m:Int)/\(m=0\/(fI s (m - 1)).size<=1000)/\wr=w) (fun _ i _=>n - (intOf i).toNat)
 case atStart=>exact⟨0,m9 _,rfl,rfl,.inl rfl,rfl⟩
 case round=>
  obtain⟨m,hm,rfl,rfl,hb,rfl⟩:=hrel
  have hsz:=mU s m
  have HRS:=aD (aU5 s m)
  have hms:s.size * m<=1000 * 255:=Nat.mul_le_mul hs (by omega)
  by_cases hmn:m < n
  ·have i0:(m:Int) < (n:Int):=by omega
   have hwr:IntKind.wrap .i64 ((m:Int)+1)=(m:Int)+1:=wrap_small _ (by omega) (by omega)
   by_cases h0:s.size=0
   ·have e1:s.toList=[]:=by rw [Lib.toList_data];exact o3 (by rw [<- eG];exact h0)
    have e0:s.toList.isEmpty=true:=by rw [e1];rfl
    have T0:Hid (lD s n (fI s m)):=⟨m,hm,rfl,.inr (.inl h0)⟩
    generalize fI s m=V at T0 ⊢
    clear h0 hb
    go_wp2
    go_ret
    exact⟨V,rfl,T0.out,rfl⟩
   ·have e1:¬ s.toList=[]:=by
     rw [Lib.toList_data]
     intro e
     have:=congrArg List.length e
     rw [<- eG] at this
     exact h0 this
    have e0:s.toList.isEmpty=false:=by simpa using e1
    have HSZ:=aD hsz
    by_cases h1:1000 < (fI s m).size
    ·have T0:Hid (lD s n (fI s m)):=⟨m,hm,rfl,.inr (.inr h1)⟩
     generalize fI s m=V at T0 h1 ⊢
     have h2:¬ (V.size:Int)<=1000:=by omega
     clear h0 hb h1 hsz
     go_wp2
     go_ret
     exact⟨V,rfl,T0.out,rfl⟩
    ·have h2:((fI s m).size:Int)<=1000:=by omega
     have h3:¬ 9223372036854775807 < (fI s m).size+s.size:=by omega
     have HB:=aD (show (fI s (m+1 - 1)).size<=1000 by rw [Nat.add_sub_cancel];omega)
     generalize fI s m=V at h2 h3 HRS ⊢
     clear h0 hb h1 hsz HSZ
     go_wp2
     go_roundw
     case rel=>exact⟨m+1,by omega,by rw [HRS.out],by go_num,.inr HB.out,by trivial⟩
     case measure=>simp only [intOf];omega
  ·have i0:¬ (m:Int) < (n:Int):=by omega
   have T0:Hid (lD s n (fI s m)):=⟨m,hm,rfl,.inl (by omega)⟩
   generalize fI s m=V at T0 ⊢
   clear hb hsz
   go_wp2
   go_ret
   exact⟨V,rfl,T0.out,rfl⟩
end
end Go.Proofs.YtlaimbkenbijeaaGreatDoor
