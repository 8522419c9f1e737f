/-
  Parts of the proof.
-/
import Derived.Test.YtjafnbjipgediaaGreatDoorWidthsProofB33
import Derived.Test.YtjafnbjipgediaaGreatDoorWidthsProofB31
import Derived.Test.YtjafnbjipgediaaGreatDoorWidthsProofB20
import Derived.Test.YtjafnbjipgediaaGreatDoorWidthsProofB26
import Derived.Test.YtjafnbjipgediaaGreatDoorWidthsProofB29
import Derived.Test.YtjafnbjipgediaaGreatDoorWidthsProofB17
import Derived.Lib.SlicesCompact
import Derived.Test.YtjafnbjipgediaaGreatDoorWidthsProofB27
import Derived.Test.YtjafnbjipgediaaGreatDoorWidthsProofB3
set_option maxRecDepth 100000
set_option maxHeartbeats 8000000
namespace Go.Proofs.YtjafnbjipgediaaGreatDoor
open Go Go.RowKit
section
theorem bB8(W:World)(a:Value)(t:TypeId):∀ (j:Nat) (u:Value),[a][j]?=some u->(W.alloc (.cells #[a] t)).cell? ((⟨W.heap.size,0,none⟩:Addr).add j)=some u:=by
 intro j u h
 match j,h with
 | 0,h=>simp at h;subst h;simp [Addr.add]
theorem aV5(most:Nat):∀ (a:List El) (k j:Nat) (z:Zl),(tl most k a)[j]?=some z->z.2=min (k+j+z.1.2.sz) most
 | [],k,j,z,h=>by simp [tl] at h
 | x :: a,k,0,z,h=>by
  rw [tl] at h
  simp at h
  subst h
  rfl
 | x :: a,k,j+1,z,h=>by
  rw [tl,List.getElem?_cons_succ] at h
  have:=aV5 most a (k+1) j z h
  omega
theorem aS5{t:Tr}{j:Nat}{z:Zl}(h:(jM 2001 t)[j]?=some z):z.2=min (j+z.1.2.sz) 2001:=by
 have h':((tl 2001 0 (pp [] t)).take 2001)[j]?=some z:=by
  unfold jM lA at h
  rw [List.nil_append,List.length_nil,Nat.sub_zero] at h
  exact h
 have hj:(tl 2001 0 (pp [] t))[j]?=some z:=by
  obtain⟨hl,hv⟩:=List.getElem?_eq_some_iff.1 h'
  rw [List.length_take] at hl
  rw [List.getElem_take] at hv
  exact List.getElem?_eq_some_iff.2 ⟨by omega,hv⟩
 have:=aV5 _ _ _ _ _ hj
 omega
theorem aK1{c f:Bool}{p:Way}{t:Tr}{i g:Nat}(h:bU c f p t i g=0)(hk:t.f.k=7):t.f.n=(g:Int)+1:=by
 obtain⟨h1,h2,h3⟩:=jB h
 exact(iI.1 ⟨(by rw [hk];rfl),h2,h3⟩).2 hk
def RG(c f:Bool)(pre:List El):Prop:=∀ (j:Nat) (y:El),pre[j]?=some y->bU c f y.1 y.2 j (bZ (pre.take j))=0
theorem RG.nil(c f:Bool):RG c f []:=fun j y h=>by simp at h
theorem RG.step{c f:Bool}{pre:List El}{x:El}(h:RG c f pre)(hx:bU c f x.1 x.2 pre.length (bZ pre)=0):RG c f (pre ++ [x]):=fun j y hy=>by
 rcases Nat.lt_or_ge j pre.length with hj | hj
 ·rw [List.getElem?_append_left hj] at hy
  rw [List.take_append_of_le_length (by omega)]
  exact h j y hy
 ·rw [List.getElem?_append_right hj] at hy
  have h0:j - pre.length=0:=by
   rcases Nat.eq_zero_or_pos (j - pre.length) with z | z
   ·exact z
   ·rw [show j - pre.length=(j - pre.length - 1)+1 by omega] at hy
    simp at hy
  rw [h0] at hy
  simp at hy
  subst hy
  have hj2:j=pre.length:=by omega
  subst hj2
  rw [List.take_left]
  exact hx
theorem lL{c f:Bool}:∀ (a b:List El) (i g:Nat),(∀ (j:Nat) (y:El),a[j]?=some y->bU c f y.1 y.2 (i+j) (g+bZ (a.take j))=0)->aU c f i g (a ++ b)=aU c f (i+a.length) (g+bZ a) b
 | [],b,i,g,_=>by simp [bZ]
 | x :: a,b,i,g,h=>by
  have h0:=h 0 x rfl
  rw [List.take_zero,Nat.add_zero] at h0
  have h0':bU c f x.1 x.2 i g=0:=h0
  have ih:=lL a b (i+1) (g+(if x.2.f.k=7 then 1 else 0)) (fun j y hy=>by
   have:=h (j+1) y (by rw [List.getElem?_cons_succ];exact hy)
   rw [List.take_succ_cons,bZ] at this
   rw [show i+1+j=i+(j+1) by omega,Nat.add_assoc]
   exact this)
  rw [List.cons_append]
  simp only [aU,h0',ne_eq,not_true,if_false]
  rw [ih,List.length_cons,bZ,show i+1+a.length=i+(a.length+1) by omega,Nat.add_assoc]
theorem RG.stop{c f:Bool}{t:Tr}{j:Nat}{x:El}{m:Int}(h:RG c f ((pp [] t).take j))(hx:(pp [] t)[j]?=some x)(hm:bU c f x.1 x.2 j (bZ ((pp [] t).take j))=m)(h0:m≠0):aU c f 0 0 (pp [] t)=m:=by
 have hj:=(List.getElem?_eq_some_iff.1 hx).1
 have e:pp [] t=(pp [] t).take j ++ x :: (pp [] t).drop (j+1):=by
  have:=List.take_append_drop j (pp [] t)
  rw [List.drop_eq_getElem_cons hj,(List.getElem?_eq_some_iff.1 hx).2] at this
  exact this.symm
 have hl:((pp [] t).take j).length=j:=by rw [List.length_take];omega
 have hs:=lL ((pp [] t).take j) (x :: (pp [] t).drop (j+1)) 0 0 (fun k y hy=>by rw [Nat.zero_add,Nat.zero_add];exact h k y hy)
 rw [<- e,Nat.zero_add,Nat.zero_add,hl] at hs
 rw [hs]
 simp only [aU,hm,ne_eq,h0,not_false_eq_true,if_true]
theorem RG.all{c f:Bool}{t:Tr}(h:RG c f (pp [] t)):aU c f 0 0 (pp [] t)=0:=by
 have hs:=lL (pp [] t) [] 0 0 (fun k y hy=>by rw [Nat.zero_add,Nat.zero_add];exact h k y hy)
 rw [List.append_nil] at hs
 rw [hs]
 rfl
theorem pH{t:Tr}{j:Nat}{x:El}(hx:(pp [] t)[j]?=some x):(pp [] t).take j ++ [x] <+: pp [] t:=by
 have:(pp [] t).take (j+1)=(pp [] t).take j ++ [x]:=by rw [List.take_add_one,hx];rfl
 rw [<- this]
 exact List.take_prefix _ _
theorem tD{t:Tr}{j k:Nat}{y:El}(h:((pp [] t).take j)[k]?=some y):(pp [] t)[k]?=some y:=by
 obtain⟨hl,hv⟩:=List.getElem?_eq_some_iff.1 h
 rw [List.length_take] at hl
 rw [List.getElem_take] at hv
 exact List.getElem?_eq_some_iff.2 ⟨by omega,hv⟩
open Classical in
theorem aK2{c f:Bool}{p:Way}{t:Tr}{i g:Nat}(hbr:∀ par i r,p=(par,i) :: r->par.f.k=5->brP r=true):bU c f p t i g=if i=2000 then 42 else if 40 < p.length+1 then 43 else if ¬ (bO c f p t/\(t.f.k=7->t.f.n=(g:Int)+1)) then 50 else if t.f.k=7/\30 < t.f.n then 42 else if t.f.k=8/\¬ (dP p t.f.n=false/\t.f.n<=(g:Int)) then 41 else 0:=by
 unfold bU
 simp only [yL hbr]
structure RS(w5:World)(t:Tr)(c f:Bool)(j gr:Nat)(v:Value)(W:World):Prop where
 le:j<=2000
 cnt:bZ ((pp [] t).take j)=gr
 row:W.ownsRow w5.heap.size 3 1 v gr (gC ((fV 0 ((pp [] t).take j)).map Int.ofNat))
 bel:Below w5.heap.size w5 W
 ok:RG c f ((pp [] t).take j)
theorem RS.next{w5 W W':World}{t:Tr}{c f:Bool}{j gr:Nat}{v:Value}{x:El}(h:RS w5 t c f j gr v W)(hx:(pp [] t)[j]?=some x)(hj:j < 2000)(h0:bU c f x.1 x.2 j gr=0)(hk:x.2.f.k≠7)(hb:Below W.heap.size W W'):RS w5 t c f (j+1) gr v W':=by
 have hl:=(List.getElem?_eq_some_iff.1 hx).1
 have hlen:((pp [] t).take j).length=j:=by rw [List.length_take];omega
 have e:(pp [] t).take (j+1)=(pp [] t).take j ++ [x]:=by rw [List.take_add_one,hx];rfl
 refine⟨by omega,?_,?_,aJ h.bel hb lz9,?_⟩
 ·rw [e,iN,if_neg hk,h.cnt];rfl
 ·rw [e,sH,if_neg hk,List.append_nil]
  exact aL h.row (Fr.of_below (S:=fun _=>False) hb) (fun _ _ z=>z)
 ·rw [e]
  refine h.ok.step ?_
  rw [hlen,h.cnt]
  exact h0
theorem RS.group{w5 W W':World}{t:Tr}{c f:Bool}{j gr:Nat}{v v':Value}{x:El}(h:RS w5 t c f j gr v W)(hx:(pp [] t)[j]?=some x)(hj:j < 2000)(h0:bU c f x.1 x.2 j gr=0)(hk:x.2.f.k=7)(hr:W'.ownsRow w5.heap.size 3 1 v' (gr+1) (gC ((fV 0 ((pp [] t).take j)).map Int.ofNat) ++ [.int .i64 (j:Int)]))(hb:Below w5.heap.size w5 W'):RS w5 t c f (j+1) (gr+1) v' W':=by
 have hl:=(List.getElem?_eq_some_iff.1 hx).1
 have hlen:((pp [] t).take j).length=j:=by rw [List.length_take];omega
 have e:(pp [] t).take (j+1)=(pp [] t).take j ++ [x]:=by rw [List.take_add_one,hx];rfl
 refine⟨by omega,?_,?_,hb,?_⟩
 ·rw [e,iN,if_pos hk,h.cnt]
 ·rw [e,sH,if_pos hk,hlen,List.map_append,wC]
  exact hr
 ·rw [e]
  refine h.ok.step ?_
  rw [hlen,h.cnt]
  exact h0
theorem RS.back{w5 W:World}{t:Tr}{c f:Bool}{j gr:Nat}{v:Value}{x:El}(h:RS w5 t c f j gr v W)(hx:(pp [] t)[j]?=some x)(hj:j < 2000){N:Nat}(hN:N < gr):∃ jj:Nat,(fV 0 ((pp [] t).take j))[N]?=some jj/\∃ y,(pp [] t)[jj]?=some y/\jj < j/\(dP x.1 ((N:Int)+1)=false ↔ min (jj+y.2.sz) 2001<=j):=by
 have hl:=(List.getElem?_eq_some_iff.1 hx).1
 have hlen:((pp [] t).take j).length=j:=by rw [List.length_take];omega
 have hg:N < (fV 0 ((pp [] t).take j)).length:=by rw [jW,h.cnt];exact hN
 obtain⟨jj,hjj⟩:∃ jj,(fV 0 ((pp [] t).take j))[N]?=some jj:=⟨_,List.getElem?_eq_getElem hg⟩
 obtain⟨y,hy,hiff⟩:=bC3 (pH hx) (fun k z hz hk=>aK1 (h.ok k z hz) hk) (by omega) hjj
 rw [hlen] at hiff
 have:=(List.getElem?_eq_some_iff.1 hy).1
 exact⟨jj,hjj,y,tD hy,by omega,hiff⟩
theorem aQ5{w:World}{t:Tr}(c f:Bool)(hta:TB w t)(hsm:∀ x∈pp [] t,x.2.f.rs.length<=1048580):Calls Tryz.prog 10 #[.agg #[.int .i64 t.f.k,.int .i64 t.f.n,.int .i64 t.f.mn,.int .i64 t.f.mx,.slice t.f.rq t.f.rs.length t.f.rc,.slice t.f.kq t.f.kl t.f.kc],.agg #[.bool c,.bool f]] w fun e w'=>e=.returned (.int .i64 (aU c f 0 0 (pp [] t)))/\Below w.heap.size w w':=by
 have B1:Hid (Below w.heap.size w ((w.alloc (.cells #[.int .i64 t.f.k,.int .i64 t.f.n,.int .i64 t.f.mn,.int .i64 t.f.mx,.slice t.f.rq t.f.rs.length t.f.rc,.slice t.f.kq t.f.kl t.f.kc] 25)).alloc (.cells #[.bool c,.bool f] 27))):=(bz9).alloc (by simp) _
 have N1:Hid (BoxN ((w.alloc (.cells #[.int .i64 t.f.k,.int .i64 t.f.n,.int .i64 t.f.mn,.int .i64 t.f.mx,.slice t.f.rq t.f.rs.length t.f.rc,.slice t.f.kq t.f.kl t.f.kc] 25)).alloc (.cells #[.bool c,.bool f] 27)) w.heap.size t.f):=(Below.heap_alloc _ _ _ (by simp)).trans (aE w _)
 have M1:Hid (((w.alloc (.cells #[.int .i64 t.f.k,.int .i64 t.f.n,.int .i64 t.f.mn,.int .i64 t.f.mx,.slice t.f.rq t.f.rs.length t.f.rc,.slice t.f.kq t.f.kl t.f.kc] 25)).alloc (.cells #[.bool c,.bool f] 27)).heap[w.heap.size+1]?=some (.cells #[.bool c,.bool f] 27 (0,0))):=(by
  have:=aE (w.alloc (.cells #[.int .i64 t.f.k,.int .i64 t.f.n,.int .i64 t.f.mn,.int .i64 t.f.mx,.slice t.f.rq t.f.rs.length t.f.rc,.slice t.f.kq t.f.kl t.f.kc] 25)) (.cells #[.bool c,.bool f] 27)
  rwa [World.size_alloc] at this)
 have HTA:=aC hta
 have HSM:=aC hsm
 obtain⟨R,hR⟩:∃ R,aU c f 0 0 (pp [] t)=R:=⟨_,rfl⟩
 rw [hR]
 have HR:=aC hR
 clear hta hsm hR
 go_enter Tryz.func10,Tryz.ntmps10
 go_upto_region 1 with fail
 generalize ((w.alloc (.cells #[.int .i64 t.f.k,.int .i64 t.f.n,.int .i64 t.f.mn,.int .i64 t.f.mx,.slice t.f.rq t.f.rs.length t.f.rc,.slice t.f.kq t.f.kl t.f.kc] 25)).alloc (.cells #[.bool c,.bool f] 27))=W1 at B1 N1 M1 ⊢
 generalize w.heap.size+1=bm at M1 ⊢
 obtain⟨c0,c1,c2,c3,c4,c5⟩:=N1.out.six
 simp only [Nat.zero_add] at c1 c2 c3 c4 c5
 have LA:=aC (qA (w:=W1) 2001 (by omega) (HTA.out.kept B1.out))
 have HZL:=aC (mK 2001 t)
 have HZM:=aC (jU 2001 t)
 have HTO:=aC (fun (j:Nat) (z:Zl) (h:(jM 2001 t)[j]?=some z)=>aS5 h)
 have hz:=mK 2001 t
 have hzl:(jM 2001 t).length<=2001:=by omega
 clear hz
 generalize jM 2001 t=Z at LA HZL HZM HTO hzl
 go_upto_region 5 with (go_at_call 36;refine(LA.out).mono ?_;rintro e w5 ⟨q5,k5,rfl,h51,h52⟩;have Z5:=aC h51;have B5:=aC h52;clear h51 h52)
 have M5:=aC ((B5.out.block _ (aB M1.out)).trans M1.out)
 have B6:=aC (aJ B1.out B5.out lz9)
 clear c0 c1 c2 c3 c4 c5 LA B1 B5 N1 M1
 go_loopw [8,7,6] (fun i v g wr=>∃ (j gr:Nat) (q:Option Addr) (ca:Nat),j<=Z.length/\i=.int .i64 (j:Int)/\v=.slice q gr ca/\g=.int .i64 (gr:Int)/\RS w5 t c f j gr (.slice q gr ca) wr) (fun i _ _ _=>Z.length - (intOf i).toNat)
 case atStart=>exact⟨0,0,none,0,Nat.zero_le _,rfl,rfl,rfl,⟨Nat.zero_le _,rfl,World.ownsRow_nil _ _ _ _,Below.refl _ _,RG.nil c f⟩⟩
 case round=>
  obtain⟨j,gr,q,ca,hj,rfl,rfl,rfl,hs⟩:=hrel
  have HS:=aC hs
  have hgr:gr<=2000:=by
   have h1:=hs.cnt
   have h2:=zV ((pp [] t).take j)
   rw [List.length_take] at h2
   have:=hs.le
   omega
  have hj2:=hs.le
  clear hs
  by_cases hjl:j < Z.length
  case neg=>
   have i0:¬ (j:Int) < (Z.length:Int):=by omega
   have HD:=aC (show R=0 by
    rw [<- HR.out]
    have h1:=HZL.out
    have h2:=HS.out.ok
    rw [List.take_of_length_le (by omega)] at h2
    exact h2.all)
   have BX:=aC (aJ B6.out HS.out.bel lz9)
   clear hjl
   go_wp2
   go_ret
   exact⟨congrArg (fun z=>Ending.returned (.int .i64 z)) HD.out.symm,BX.out⟩
  have i0:(j:Int) < (Z.length:Int):=by omega
  obtain⟨⟨x,o⟩,hx⟩:∃ z,Z[j]?=some z:=⟨_,List.getElem?_eq_getElem hjl⟩
  obtain⟨ga,cz,hq⟩:=aM Z5.out (by omega)
  injection hq with hq1 _ hq2
  subst hq1 hq2
  have YA:ZR W1.heap.size wr (.slice (some ⟨ga,0,none⟩) Z.length k5) Z:=aL Z5.out (Fr.of_below (S:=fun _=>False) HS.out.bel) (fun _ _ z=>z)
  have x0:wr.cell? ⟨ga,j * 12,none⟩=some (.int .i64 x.2.f.k):=YA.cells hx (j:=0) rfl
  have x1:wr.cell? ⟨ga,j * 12+1,none⟩=some (.int .i64 x.2.f.n):=YA.cells hx (j:=1) rfl
  have x2:wr.cell? ⟨ga,j * 12+2,none⟩=some (.int .i64 x.2.f.mn):=YA.cells hx (j:=2) rfl
  have x3:wr.cell? ⟨ga,j * 12+3,none⟩=some (.int .i64 x.2.f.mx):=YA.cells hx (j:=3) rfl
  have x4:wr.cell? ⟨ga,j * 12+4,none⟩=some (.slice x.2.f.rq x.2.f.rs.length x.2.f.rc):=YA.cells hx (j:=4) rfl
  have x5:wr.cell? ⟨ga,j * 12+5,none⟩=some (.slice x.2.f.kq x.2.f.kl x.2.f.kc):=YA.cells hx (j:=5) rfl
  have x6:wr.cell? ⟨ga,j * 12+6,none⟩=some (.int .i64 ((x.1.length:Int)+1)):=YA.cells hx (j:=6) rfl
  have x7:wr.cell? ⟨ga,j * 12+7,none⟩=some (.int .i64 (arP x.1)):=YA.cells hx (j:=7) rfl
  have x8:wr.cell? ⟨ga,j * 12+8,none⟩=some (.bool (fiP x.1)):=YA.cells hx (j:=8) rfl
  have x9:wr.cell? ⟨ga,j * 12+9,none⟩=some (.bool (laP x.1)):=YA.cells hx (j:=9) rfl
  have x10:wr.cell? ⟨ga,j * 12+10,none⟩=some (.bool (brP x.1)):=YA.cells hx (j:=10) rfl
  have x11:wr.cell? ⟨ga,j * 12+11,none⟩=some (.int .i64 (o:Int)):=YA.cells hx (j:=11) rfl
  have hxt:(pp [] t)[j]?=some x:=tD (j:=2001) (by rw [<- HZM.out,List.getElem?_map,hx];rfl)
  have HX:=aC hxt
  have HBR:=aC (bC5 (pH hxt) HS.out.ok)
  have HST:=aC (fun (m:Int) (h:bU c f x.1 x.2 j gr=m) (h0:m≠0)=>HR.out.symm.trans (HS.out.ok.stop hxt (by rw [HS.out.cnt];exact h) h0))
  have BW:=aC (aJ B6.out HS.out.bel lz9)
  have HNA:=aC ((HTA.out.at (List.mem_of_getElem? hxt)).node.ck (CK.of_below BW.out))
  have HSL:=aC (HSM.out x (List.mem_of_getElem? hxt))
  have MW:=aC ((HS.out.bel.block _ (aB M5.out)).trans M5.out)
  have hdp:=rW (t:=t) (pre:=(pp [] t).take j) (x:=x) (pH hxt)
  rw [List.length_take] at hdp
  have hdp2:x.1.length<=2001:=by omega
  have lga:ga < wr.heap.size:=(aH YA (g:=ga) rfl).2.1
  have HYA:=aC YA
  clear hx hxt YA hdp
  go_upto_region 8 with fail
  have K2:=aC (show Below wr.heap.size wr (wr.alloc (.cells #[.int .i64 x.2.f.k,.int .i64 x.2.f.n,.int .i64 x.2.f.mn,.int .i64 x.2.f.mx,.slice x.2.f.rq x.2.f.rs.length x.2.f.rc,.slice x.2.f.kq x.2.f.kl x.2.f.kc,.int .i64 ((x.1.length:Int)+1),.int .i64 (arP x.1),.bool (fiP x.1),.bool (laP x.1),.bool (brP x.1),.int .i64 (o:Int)] 65)) from bz9)
  have P2:=aC (aE wr (.cells #[.int .i64 x.2.f.k,.int .i64 x.2.f.n,.int .i64 x.2.f.mn,.int .i64 x.2.f.mx,.slice x.2.f.rq x.2.f.rs.length x.2.f.rc,.slice x.2.f.kq x.2.f.kl x.2.f.kc,.int .i64 ((x.1.length:Int)+1),.int .i64 (arP x.1),.bool (fiP x.1),.bool (laP x.1),.bool (brP x.1),.int .i64 (o:Int)] 65))
  have M2:=aC ((K2.out.block _ (aB MW.out)).trans MW.out)
  have A2:=aC (HNA.out.ck (CK.of_below K2.out))
  clear x0 x1 x2 x3 x4 x5 x6 x7 x8 x9 x10 x11
  generalize (wr.alloc (.cells #[.int .i64 x.2.f.k,.int .i64 x.2.f.n,.int .i64 x.2.f.mn,.int .i64 x.2.f.mx,.slice x.2.f.rq x.2.f.rs.length x.2.f.rc,.slice x.2.f.kq x.2.f.kl x.2.f.kc,.int .i64 ((x.1.length:Int)+1),.int .i64 (arP x.1),.bool (fiP x.1),.bool (laP x.1),.bool (brP x.1),.int .i64 (o:Int)] 65))=W2 at K2 P2 M2 A2 ⊢
  obtain⟨b8,hb8⟩:∃ b8,wr.heap.size=b8:=⟨_,rfl⟩
  have HNB:=aC (show (Value.slice q gr ca).ownBlock≠some wr.heap.size from fun e=>absurd (aH HS.out.row e).2.1 (Nat.lt_irrefl _))
  rw [hb8] at P2 HNB ⊢
  clear hb8
  have B2:=aC (aJ BW.out K2.out lz9)
  have p0:W2.cell? ⟨b8,0,none⟩=some (.int .i64 x.2.f.k):=aA P2.out (i:=0) rfl
  have p1:W2.cell? ⟨b8,1,none⟩=some (.int .i64 x.2.f.n):=aA P2.out (i:=1) rfl
  have p2:W2.cell? ⟨b8,2,none⟩=some (.int .i64 x.2.f.mn):=aA P2.out (i:=2) rfl
  have p3:W2.cell? ⟨b8,3,none⟩=some (.int .i64 x.2.f.mx):=aA P2.out (i:=3) rfl
  have p4:W2.cell? ⟨b8,4,none⟩=some (.slice x.2.f.rq x.2.f.rs.length x.2.f.rc):=aA P2.out (i:=4) rfl
  have p5:W2.cell? ⟨b8,5,none⟩=some (.slice x.2.f.kq x.2.f.kl x.2.f.kc):=aA P2.out (i:=5) rfl
  have p6:W2.cell? ⟨b8,6,none⟩=some (.int .i64 ((x.1.length:Int)+1)):=aA P2.out (i:=6) rfl
  have p7:W2.cell? ⟨b8,7,none⟩=some (.int .i64 (arP x.1)):=aA P2.out (i:=7) rfl
  have p8:W2.cell? ⟨b8,8,none⟩=some (.bool (fiP x.1)):=aA P2.out (i:=8) rfl
  have p9:W2.cell? ⟨b8,9,none⟩=some (.bool (laP x.1)):=aA P2.out (i:=9) rfl
  have p10:W2.cell? ⟨b8,10,none⟩=some (.bool (brP x.1)):=aA P2.out (i:=10) rfl
  have p11:W2.cell? ⟨b8,11,none⟩=some (.int .i64 (o:Int)):=aA P2.out (i:=11) rfl
  have m0:W2.cell? ⟨bm,0,none⟩=some (.bool c):=aA M2.out (i:=0) rfl
  have m1:W2.cell? ⟨bm,1,none⟩=some (.bool f):=aA M2.out (i:=1) rfl
  by_cases h2000:j=2000
  ·have e1:(2000:Int)<=(j:Int):=by omega
   have HD:=aC (show R=42 from HST.out 42 (by unfold bU;rw [if_pos h2000]) (by decide))
   clear h2000
   go_wp2
   go_ret
   exact⟨congrArg (fun z=>Ending.returned (.int .i64 z)) HD.out.symm,B2.out⟩
  have e1:¬ (2000:Int)<=(j:Int):=by omega
  have hj3:j < 2000:=by omega
  by_cases h40:40 < x.1.length+1
  ·have e2:(40:Int) < (x.1.length:Int)+1:=by omega
   have HD:=aC (show R=43 from HST.out 43 (by unfold bU;rw [if_neg h2000,if_pos h40]) (by decide))
   clear h2000 h40
   go_wp2
   go_ret
   exact⟨congrArg (fun z=>Ending.returned (.int .i64 z)) HD.out.symm,B2.out⟩
  have e2:¬ (40:Int) < (x.1.length:Int)+1:=by omega
  have FM:=aC (aR0 x.1 x.2 o c f A2.out HSL.out)
  have HL:=aC (show bU c f x.1 x.2 j gr=_ by rw [aK2 HBR.out,if_neg h2000,if_neg h40])
  clear h2000 h40
  go_upto_region 13 with (go_at_call 37;(with_reducible refine(FM.out).mono ?_);rintro e W3 ⟨b3,rfl,hb3,h3⟩;have I3:=aC hb3;have B3:=aC h3;clear hb3 h3)
  have K3:=aC (aJ K2.out B3.out lz9)
  have BZ:=aC (aJ B2.out B3.out lz9)
  have P3:=aC ((B3.out.block _ (aB P2.out)).trans P2.out)
  clear m0 m1 p0 p1 p2 p3 p4 p5 p6 p7 p8 p9 p10 p11 FM e2
  have p0:W3.cell? ⟨b8,0,none⟩=some (.int .i64 x.2.f.k):=aA P3.out (i:=0) rfl
  have p1:W3.cell? ⟨b8,1,none⟩=some (.int .i64 x.2.f.n):=aA P3.out (i:=1) rfl
  cases b3 with
  | false=>
   have HD:=aC (show R=50 from HST.out 50 (by rw [HL.out,if_pos (fun z=>by cases I3.out.2 z.1)]) (by decide))
   go_wp2
   go_ret
   exact⟨congrArg (fun z=>Ending.returned (.int .i64 z)) HD.out.symm,BZ.out⟩
  | true=>
   have HF:=aC (I3.out.1 rfl)
   by_cases h7:x.2.f.k=7
   ·have e7:(x.2.f.k==7)=true:=beq_iff_eq.2 h7
    have e8:(x.2.f.k==8)=false:=beq_eq_false_iff_ne.2 (by omega)
    have H7:=aC h7
    clear h7
    by_cases hn:x.2.f.n=(gr:Int)+1
    case neg=>
     have en:(x.2.f.n != (gr:Int)+1)=true:=bne_iff_ne.2 hn
     have HD:=aC (show R=50 from HST.out 50 (by rw [HL.out,if_pos (fun z=>hn (z.2 H7.out))]) (by decide))
     clear hn
     go_wp2
     go_ret
     exact⟨congrArg (fun z=>Ending.returned (.int .i64 z)) HD.out.symm,BZ.out⟩
    have en:(x.2.f.n != (gr:Int)+1)=false:=by simpa using hn
    have HN:=aC hn
    clear hn
    have R3:=aC (aL HS.out.row (Fr.of_below (S:=fun _=>False) K3.out) (fun _ _ z=>z))
    have S3:=aC (show w5.heap.size<=W3.heap.size from Nat.le_trans HS.out.bel.size K3.out.size)
    obtain⟨t0,hi,hz0,hz1,hz2⟩:=bD vD
    generalize hgp:gC ((fV 0 ((pp [] t).take j)).map Int.ofNat)=GP at R3
    have HGP:=aC hgp
    clear hgp
    go_upto_region 18 with (at_builtin;refine wpList_append_own_at _ rfl _ _ 44 rfl w5.heap.size 3 t0 (.int .i64 0) 1 8 uX hi hz0 hz1 hz2 rfl (by decide) (.slice q gr ca) gr GP rfl (World.ownsRow.alloc R3.out (.cells #[.int .i64 (j:Int)] 3)) ⟨W3.heap.size,0,none⟩ 1 1 [.int .i64 (j:Int)] rfl rfl (bB8 _ _ _) (by simp [Value.oneCell']) (by unfold maxLen;omega) (by omega) (by have:=S3.out;simp;omega) ?_;intro v' w6 hown' hgrow _ hblk;obtain⟨g6,cap6,rfl⟩:=aM hown' (Nat.succ_pos _);have O6:=aC hown';have G6:=aC hgrow;clear hown' hgrow hblk)
    have L6:=aC (show Below w5.heap.size w5 w6 from aX (aJ HS.out.bel K3.out lz9) (((Fr.refl (fun z=>(Value.slice q gr ca).ownBlock=some z) W3).alloc (.cells #[.int .i64 (j:Int)] 3)).grown G6.out (fun z hz=>hz)) lz9 (fun z hz=>(aH R3.out hz).1))
    have P6:=aC (show w6.heap[b8]?=some (.cells #[.int .i64 x.2.f.k,.int .i64 x.2.f.n,.int .i64 x.2.f.mn,.int .i64 x.2.f.mx,.slice x.2.f.rq x.2.f.rs.length x.2.f.rc,.slice x.2.f.kq x.2.f.kl x.2.f.kc,.int .i64 ((x.1.length:Int)+1),.int .i64 (arP x.1),.bool (fiP x.1),.bool (laP x.1),.bool (brP x.1),.int .i64 (o:Int)] 65 (0,0)) from (G6.out.block _ (by simp;have:=aB P3.out;omega) (fun e=>HNB.out e.symm)).trans ((Below.heap_alloc _ _ _ (aB P3.out)).trans P3.out))
    have p0':w6.cell? ⟨b8,0,none⟩=some (.int .i64 x.2.f.k):=aA P6.out (i:=0) rfl
    clear p0 p1
    by_cases h30:30 < gr+1
    ·have e3:(30:Int) < (gr:Int)+1:=by omega
     have HD:=aC (show R=42 from HST.out 42 (by rw [HL.out,if_neg (fun z=>z ⟨HF.out,fun _=>HN.out⟩),if_pos ⟨H7.out,by rw [HN.out];exact e3⟩]) (by decide))
     have BX:=aC (aJ B6.out L6.out lz9)
     clear h30
     go_wp2
     go_ret
     exact⟨congrArg (fun z=>Ending.returned (.int .i64 z)) HD.out.symm,BX.out⟩
    have e3:¬ (30:Int) < (gr:Int)+1:=by omega
    have HD:=aC (show bU c f x.1 x.2 j gr=0 by rw [HL.out,if_neg (fun z=>z ⟨HF.out,fun _=>HN.out⟩),if_neg (fun z=>e3 (by have:=z.2;rw [HN.out] at this;exact this)),if_neg (fun z=>by have:=z.1;rw [H7.out] at this;cases this)])
    clear h30
    go_wp2
    go_roundw
    case rel=>exact⟨j+1,gr+1,_,_,by omega,by go_num,rfl,by go_num,HS.out.group HX.out hj3 HD.out H7.out (by rw [HGP.out];exact O6.out) L6.out⟩
    case measure=>simp only [intOf];omega
   have e7:(x.2.f.k==7)=false:=beq_eq_false_iff_ne.2 h7
   by_cases h8:x.2.f.k=8
   case neg=>
    have e8:(x.2.f.k==8)=false:=beq_eq_false_iff_ne.2 h8
    have HD:=aC (show bU c f x.1 x.2 j gr=0 by rw [HL.out,if_neg (fun z=>z ⟨HF.out,fun q=>absurd q h7⟩),if_neg (fun z=>h7 z.1),if_neg (fun z=>h8 z.1)])
    have H7:=aC h7
    clear h7 h8
    go_wp2
    go_roundw
    case rel=>exact⟨j+1,gr,_,_,by omega,by go_num,rfl,rfl,HS.out.next HX.out hj3 HD.out H7.out K3.out⟩
    case measure=>simp only [intOf];omega
   have e8:(x.2.f.k==8)=true:=beq_iff_eq.2 h8
   have HL8:=aC (show bU c f x.1 x.2 j gr=_ by rw [HL.out,if_neg (fun z=>z ⟨HF.out,fun q=>absurd q h7⟩),if_neg (fun z=>h7 z.1)])
   have hn1:1<=x.2.f.n:=by
    have:=HF.out.2
    unfold eL at this
    rw [if_neg (by omega),if_neg (by omega),if_neg (by omega),if_neg (by omega),if_pos h8] at this
    exact this.1.1
   have H7:=aC h7
   have H8:=aC h8
   clear h7 h8 HL
   by_cases hg:x.2.f.n<=(gr:Int)
   case neg=>
    have eg:(gr:Int) < x.2.f.n:=by omega
    have HD:=aC (show R=41 from HST.out 41 (by rw [HL8.out,if_pos ⟨H8.out,fun z=>hg z.2⟩]) (by decide))
    clear hg hn1
    go_wp2
    go_ret
    exact⟨congrArg (fun z=>Ending.returned (.int .i64 z)) HD.out.symm,BZ.out⟩
   have eg:¬ (gr:Int) < x.2.f.n:=by omega
   obtain⟨N,hN⟩:∃ N:Nat,x.2.f.n=(N:Int)+1:=⟨(x.2.f.n - 1).toNat,by omega⟩
   have HN:=aC hN
   have hNg:N < gr:=by omega
   have p1':W3.cell? ⟨b8,1,none⟩=some (.int .i64 ((N:Int)+1)):=by rw [<- hN];exact p1
   have eg':¬ (gr:Int) < (N:Int)+1:=by omega
   have hnn:x.2.f.n<=(gr:Int):=hg
   have HNN:=aC hnn
   clear p1 eg hg hn1 hN hnn
   obtain⟨jj,hjj,y,hy,hjj2,hiff⟩:=HS.out.back HX.out hj3 hNg
   have R3:=aL HS.out.row (Fr.of_below (S:=fun _=>False) K3.out) (fun _ _ z=>z)
   obtain⟨gb,cb,hqb⟩:=aM R3 (by omega)
   injection hqb with hqb1 _ hqb2
   subst hqb1 hqb2
   have a0:W3.cell? ⟨gb,N,none⟩=some (.int .i64 (jj:Int)):=by
    have:=aR R3 (j:=N) (u:=.int .i64 (jj:Int)) (aL0 (by rw [List.getElem?_map,hjj];rfl))
    exact this
   obtain⟨zz,hzz⟩:∃ zz,Z[jj]?=some zz:=⟨_,List.getElem?_eq_getElem (by omega)⟩
   have hyz:zz.1=y:=by
    have h1:(pp [] t)[jj]?=some zz.1:=tD (j:=2001) (by rw [<- HZM.out,List.getElem?_map,hzz];rfl)
    rw [hy] at h1
    exact(Option.some.inj h1).symm
   have hto:=HTO.out jj zz hzz
   rw [hyz] at hto
   rw [<- hto] at hiff
   have Y3:ZR W1.heap.size W3 (.slice (some ⟨ga,0,none⟩) Z.length k5) Z:=aL HYA.out (Fr.of_below (S:=fun _=>False) K3.out) (fun _ _ z=>z)
   have a1:W3.cell? ⟨ga,jj * 12+11,none⟩=some (.int .i64 (zz.2:Int)):=Y3.cells hzz (j:=11) rfl
   generalize zz.2=tt at a1 hto hiff
   have lgb:gb < W3.heap.size:=(aH R3 (g:=gb) rfl).2.1
   have HIF:=aC hiff
   have hjz:jj < Z.length:=by omega
   clear R3 Y3 hjj hy hzz hyz hto hiff
   by_cases hto:tt<=j
   ·have et:¬ (j:Int) < (tt:Int):=by omega
    have HD:=aC (show bU c f x.1 x.2 j gr=0 by rw [HL8.out,if_neg (fun z=>z.2 ⟨by rw [HN.out];exact HIF.out.2 hto,HNN.out⟩)])
    clear hto
    go_wp2
    go_roundw
    case rel=>exact⟨j+1,gr,_,_,by omega,by go_num,rfl,rfl,HS.out.next HX.out hj3 HD.out H7.out K3.out⟩
    case measure=>simp only [intOf];omega
   ·have et:(j:Int) < (tt:Int):=by omega
    have HD:=aC (show R=41 from HST.out 41 (by rw [HL8.out,if_pos ⟨H8.out,fun z=>hto (HIF.out.1 (by rw [<- HN.out];exact z.1))⟩]) (by decide))
    clear hto
    go_wp2
    go_ret
    exact⟨congrArg (fun z=>Ending.returned (.int .i64 z)) HD.out.symm,BZ.out⟩
end
def wsg(x:El):List (Sg × Nat) × Sg:=(x.1.map fun z=>(sig z.1,z.2),sig x.2)
theorem aG7(a:Tr):∀ (b:Tr) (p q:Way),(p.map fun z=>(sig z.1,z.2))=(q.map fun z=>(sig z.1,z.2))->er a=er b->(pp p a).map wsg=(pp q b).map wsg:=by
 refine Tr.ind (P:=fun a=>∀ (b:Tr) (p q:Way),(p.map fun z=>(sig z.1,z.2))=(q.map fun z=>(sig z.1,z.2))->er a=er b->(pp p a).map wsg=(pp q b).map wsg) (fun a ih b p q hp h=>?_) a
 have hs:=aI2 h
 obtain⟨-,-,-,-,-,h6⟩:=(lP a b).1 h
 have key:∀ (ks js:List Tr) (i:Nat),(∀ u∈ks,u∈a.ks)->ks.map er=js.map er->(pps a p i ks).map wsg=(pps b q i js).map wsg:=by
  intro ks
  induction ks with
  | nil=>
   intro js i _ hl
   cases js with
   | nil=>rw [bN,bN]
   | cons v js=>cases hl
  | cons u ks ihk=>
   intro js i hm hl
   cases js with
   | nil=>cases hl
   | cons v js=>
    rw [List.map_cons,List.map_cons] at hl
    injection hl with h1 h2
    rw [bF,bF,List.map_append,List.map_append,ih u (hm u List.mem_cons_self) v ((a,i) :: p) ((b,i) :: q) (by rw [List.map_cons,List.map_cons,hp,hs]) h1,ihk js _ (fun z hz=>hm z (List.mem_cons_of_mem _ hz)) h2]
 rw [bT,bT,List.map_cons,List.map_cons,key a.ks b.ks 0 (fun _ z=>z) h6]
 congr 1
 unfold wsg
 rw [hp,hs]
theorem sL{n:Int}:∀ {p q:Way},(p.map fun z=>(sig z.1,z.2))=(q.map fun z=>(sig z.1,z.2))->dP p n=dP q n
 | [],[],_=>rfl
 | [],_ :: _,h=>by cases h
 | _ :: _,[],h=>by cases h
 | x :: p,y :: q,h=>by
  rw [List.map_cons,List.map_cons] at h
  injection h with h1 h2
  have ih:=sL (n:=n) h2
  have hk:x.1.f.k=y.1.f.k:=congrArg (fun z:Sg × Nat=>z.1.1) h1
  have hn:x.1.f.n=y.1.f.n:=congrArg (fun z:Sg × Nat=>z.1.2.1) h1
  unfold dP at ih ⊢
  rw [List.any_cons,List.any_cons,ih,hk,hn]
theorem vA{k:Int}{p q:Way}(h:(p.map fun z=>(sig z.1,z.2))=(q.map fun z=>(sig z.1,z.2))):dA p k=dA q k:=by
 cases p with
 | nil=>
  cases q with
  | nil=>rfl
  | cons y q=>cases h
 | cons x p=>
  cases q with
  | nil=>cases h
  | cons y q=>
   rw [List.map_cons,List.map_cons] at h
   injection h with h1 h2
   obtain⟨a,i⟩:=x
   obtain⟨b,j⟩:=y
   have hk:a.f.k=b.f.k:=congrArg (fun z:Sg × Nat=>z.1.1) h1
   have hl:a.ks.length=b.ks.length:=congrArg (fun z:Sg × Nat=>z.1.2.2.2.2.2) h1
   have hi:i=j:=congrArg (fun z:Sg × Nat=>z.2) h1
   unfold dA
   simp only
   rw [hk,hl,hi]
theorem yJ{c f:Bool}{x y:El}{i g:Nat}(h:wsg x=wsg y):bU c f x.1 x.2 i g=bU c f y.1 y.2 i g:=by
 have hp:(x.1.map fun z=>(sig z.1,z.2))=(y.1.map fun z=>(sig z.1,z.2)):=congrArg (fun z:List (Sg × Nat) × Sg=>z.1) h
 have hs:sig x.2=sig y.2:=congrArg (fun z:List (Sg × Nat) × Sg=>z.2) h
 have hl:x.1.length=y.1.length:=by have:=congrArg List.length hp;rwa [List.length_map,List.length_map] at this
 have k1:x.2.f.k=y.2.f.k:=congrArg (fun z:Sg=>z.1) hs
 have k2:x.2.f.n=y.2.f.n:=congrArg (fun z:Sg=>z.2.1) hs
 have k3:x.2.f.mn=y.2.f.mn:=congrArg (fun z:Sg=>z.2.2.1) hs
 have k4:x.2.f.mx=y.2.f.mx:=congrArg (fun z:Sg=>z.2.2.2.1) hs
 have k5:x.2.f.rs=y.2.f.rs:=congrArg (fun z:Sg=>z.2.2.2.2.1) hs
 have k6:x.2.ks.length=y.2.ks.length:=congrArg (fun z:Sg=>z.2.2.2.2.2) hs
 have hf:bA c f ((g:Int)+1) x.2.f=bA c f ((g:Int)+1) y.2.f:=by
  unfold bA
  rw [k1,k2,k3,k4,k5]
 unfold bU
 rw [vA hp,sL hp,hf,hl,k1,k2,k6]
theorem oB{c f:Bool}:∀ {l m:List El} (i g:Nat),l.map wsg=m.map wsg->aU c f i g l=aU c f i g m
 | [],[],_,_,_=>rfl
 | [],_ :: _,_,_,h=>by cases h
 | _ :: _,[],_,_,h=>by cases h
 | x :: l,y :: m,i,g,h=>by
  rw [List.map_cons,List.map_cons] at h
  injection h with h1 h2
  have hk:x.2.f.k=y.2.f.k:=congrArg (fun z:List (Sg × Nat) × Sg=>z.2.1) h1
  simp only [aU]
  rw [yJ h1,hk,oB _ _ h2]
theorem wG{c f:Bool}{a b:Tr}(h:er a=er b):aU c f 0 0 (pp [] a)=aU c f 0 0 (pp [] b):=oB 0 0 (aG7 a b [] [] rfl h)
section
attribute [local go_sem] Oper.semAt_some
def aG(t:Tr):Bool × Bool:=evG cU (fun _=>(false,false)) t
theorem aO1(t:Tr):aG t=cU t.f t.ks (t.ks.map aG) (fun _=>(false,false)):=by
 have:=qI (ρ:=cU) (fun _=>(false,false)) t
 rw [qH] at this
 exact this
theorem uZ{α:Type}{l:List α}{p:α->Bool}{j:Nat}{x:α}(hx:l[j]?=some x)(h:(l.take j).all p=true):(l.take (j+1)).all p=p x:=by
 rw [List.take_add_one,hx,Option.toList_some,List.all_append,h]
 simp
def szOk(t:Tr):Prop:=t.sz<=1000000
theorem szOk.kid{t u:Tr}(h:szOk t)(hu:u∈t.ks):szOk u:=by have:=cX hu;unfold szOk at *;omega
theorem szOk.len{t:Tr}(h:szOk t):t.ks.length<=1000000:=by have h1:=eB t.ks;have h2:=iJ t;unfold szOk at h;omega
theorem wQ(c o:Bool):∀ (m:Nat) (t:Tr) (w:World),t.sz<=m->TB w t->bM (NP c o) t->szOk t->Calls Tryz.prog 61 #[.agg #[.int .i64 t.f.k,.int .i64 t.f.n,.int .i64 t.f.mn,.int .i64 t.f.mx,.slice t.f.rq t.f.rs.length t.f.rc,.slice t.f.kq t.f.kl t.f.kc]] w fun e w'=>e=.returned (.bool (aG t).1)/\Below w.heap.size w w'
 | 0,t,_,h,_,_,_=>absurd h (by have:=dK t;omega)
 | m+1,t,w,hm,hta,hev,hok=>by
  have IH:Hid (∀ (u:Tr) (W:World),u∈t.ks->Below w.heap.size w W->Calls Tryz.prog 61 #[.agg #[.int .i64 u.f.k,.int .i64 u.f.n,.int .i64 u.f.mn,.int .i64 u.f.mx,.slice u.f.rq u.f.rs.length u.f.rc,.slice u.f.kq u.f.kl u.f.kc]] W fun e w'=>e=.returned (.bool (aG u).1)/\Below W.heap.size W w'):=fun u W hu hW=>wQ c o m u W (by have:=cX hu;omega) ((hta.kept hW).kid hu) (bE hev hu) (hok.kid hu)
  have hnp:NP c o t:=((aW t).1 hev).1
  have hnb:=hta.node
  have HKL:=aC hnb.kl
  obtain⟨q1,cap1,eq1,-,-,hk3⟩:=hnb.k.slice
  injection eq1 with eq1 eq2 eq3
  subst eq1 eq3
  have HK3:=aC hk3
  have HSZ:=aC hok.len
  have B1:Hid (Below w.heap.size w (w.alloc (.cells #[.int .i64 t.f.k,.int .i64 t.f.n,.int .i64 t.f.mn,.int .i64 t.f.mx,.slice t.f.rq t.f.rs.length t.f.rc,.slice t.f.kq t.f.kl t.f.kc] 25))):=bz9
  have X1:Hid (BoxN (w.alloc (.cells #[.int .i64 t.f.k,.int .i64 t.f.n,.int .i64 t.f.mn,.int .i64 t.f.mx,.slice t.f.rq t.f.rs.length t.f.rc,.slice t.f.kq t.f.kl t.f.kc] 25)) w.heap.size t.f):=aE w _
  clear hta hev hnb hm hk3 eq2 hok
  go_enter Tryz.func61,Tryz.ntmps61
  go_upto_region 1 with fail
  generalize hV:w.alloc (.cells #[.int .i64 t.f.k,.int .i64 t.f.n,.int .i64 t.f.mn,.int .i64 t.f.mx,.slice t.f.rq t.f.rs.length t.f.rc,.slice t.f.kq t.f.kl t.f.kc] 25)=V at B1 X1 ⊢
  clear hV
  obtain⟨n0,n1,n2,n3,n4,n5⟩:=X1.out.six
  simp only [Nat.zero_add] at n1 n2 n3 n4 n5
  have hv0:=aO1 t
  unfold cU at hv0
  have HV0:=aC hv0
  clear hv0
  rcases fU hnp with hk | hk | hk | hk | hk | hk | hk | hk | hk
  ·have hv:Hid ((aG t).1=false):=aC (by rw [HV0.out,hk];rfl)
   have e3:(t.f.k==3)=false:=by rw [hk];rfl
   have e4:(t.f.k==4)=false:=by rw [hk];rfl
   have e5:(t.f.k==5)=false:=by rw [hk];rfl
   have e6:(t.f.k==6)=false:=by rw [hk];rfl
   have e7:(t.f.k==7)=false:=by rw [hk];rfl
   have e9:(t.f.k==9)=false:=by rw [hk];rfl
   clear hk hnp
   go_wp2
   go_ret
   exact⟨by rw [hv.out];rfl,B1.out⟩
  ·have hv:Hid ((aG t).1=false):=aC (by rw [HV0.out,hk];rfl)
   have e3:(t.f.k==3)=false:=by rw [hk];rfl
   have e4:(t.f.k==4)=false:=by rw [hk];rfl
   have e5:(t.f.k==5)=false:=by rw [hk];rfl
   have e6:(t.f.k==6)=false:=by rw [hk];rfl
   have e7:(t.f.k==7)=false:=by rw [hk];rfl
   have e9:(t.f.k==9)=false:=by rw [hk];rfl
   clear hk hnp
   go_wp2
   go_ret
   exact⟨by rw [hv.out];rfl,B1.out⟩
  ·have hv:Hid ((aG t).1=true):=aC (by rw [HV0.out,hk];rfl)
   have e3:(t.f.k==3)=true:=by rw [hk];rfl
   have e4:(t.f.k==4)=false:=by rw [hk];rfl
   have e5:(t.f.k==5)=false:=by rw [hk];rfl
   have e6:(t.f.k==6)=false:=by rw [hk];rfl
   have e7:(t.f.k==7)=false:=by rw [hk];rfl
   have e9:(t.f.k==9)=false:=by rw [hk];rfl
   clear hk hnp
   go_wp2
   go_ret
   exact⟨by rw [hv.out];rfl,B1.out⟩
  ·have hv:Hid ((aG t).1=false):=aC (by rw [HV0.out,hk];rfl)
   have e3:(t.f.k==3)=false:=by rw [hk];rfl
   have e4:(t.f.k==4)=true:=by rw [hk];rfl
   have e5:(t.f.k==5)=false:=by rw [hk];rfl
   have e6:(t.f.k==6)=false:=by rw [hk];rfl
   have e7:(t.f.k==7)=false:=by rw [hk];rfl
   have e9:(t.f.k==9)=false:=by rw [hk];rfl
   clear hk hnp
   go_wp2
   go_ret
   exact⟨by rw [hv.out];rfl,B1.out⟩
  ·have hlen:0 < t.ks.length:=by have:=mF hnp (.inl hk);omega
   obtain⟨u,hu⟩:∃ u,t.ks[0]?=some u:=⟨_,List.getElem?_eq_getElem hlen⟩
   have hi:(0:Int) < (t.f.kl:Int):=by rw [HKL.out];omega
   have hv:Hid ((aG t).1=(aG u).1):=aC (by rw [HV0.out,hk];show ((t.ks.map aG).headD _).1=_;rw [List.headD_eq_head?_getD,List.head?_eq_getElem?,List.getElem?_map,hu];rfl)
   obtain⟨gq,off,hq,hgl,six⟩:=HK3.out 0 u hu
   have hin:u∈t.ks:=List.mem_of_getElem? hu
   have CU:=aC (IH.out u V hin B1.out)
   rw [hq] at n5
   clear hq
   obtain⟨c0,c1,c2,c3,c4,c5⟩:=six.ck (CK.of_below B1.out) hgl
   simp only [Nat.zero_mul,Nat.add_zero] at c0 c1 c2 c3 c4 c5
   have e3:(t.f.k==3)=false:=by rw [hk];rfl
   have e4:(t.f.k==4)=false:=by rw [hk];rfl
   have e5:(t.f.k==5)=true:=by rw [hk];rfl
   have e6:(t.f.k==6)=false:=by rw [hk];rfl
   have e7:(t.f.k==7)=false:=by rw [hk];rfl
   have e9:(t.f.k==9)=false:=by rw [hk];rfl
   clear hk hnp hu hin
   go_wp2_with (go_at_call 61;refine CU.out.mono ?_;rintro e w5 ⟨rfl,h5⟩;have B5:=aC (aJ B1.out h5 lz9);clear h5)
   go_ret
   exact⟨by rw [hv.out];rfl,B5.out⟩
  ·have hv:Hid ((aG t).1=t.ks.all fun u=>(aG u).1):=aC (by rw [HV0.out,hk];show (t.ks.map aG).all (·.1)=_;rw [List.all_map];rfl)
   have e3:(t.f.k==3)=false:=by rw [hk];rfl
   have e4:(t.f.k==4)=false:=by rw [hk];rfl
   have e5:(t.f.k==5)=false:=by rw [hk];rfl
   have e6:(t.f.k==6)=true:=by rw [hk];rfl
   have e7:(t.f.k==7)=false:=by rw [hk];rfl
   have e9:(t.f.k==9)=false:=by rw [hk];rfl
   clear hk hnp
   go_upto_region 11 with fail
   clear n0 n1 n2 n3 n4 n5
   go_loopw [3] (fun i wr=>∃ j:Nat,j<=t.ks.length/\i=.int .i64 (j:Int)/\Below w.heap.size w wr/\BoxN wr w.heap.size t.f/\(t.ks.take j).all (fun u=>(aG u).1)=true) (fun i _=>t.ks.length - (intOf i).toNat)
   case atStart=>exact⟨0,Nat.zero_le _,rfl,B1.out,X1.out,rfl⟩
   case round=>
    obtain⟨j,hj,rfl,hb,hx,hall⟩:=hrel
    have BW:=aC hb
    have XW:=aC hx
    have HA:=aC hall
    clear hb hx hall
    obtain⟨n0,n1,n2,n3,n4,n5⟩:=XW.out.six
    simp only [Nat.zero_add] at n1 n2 n3 n4 n5
    by_cases hjl:j < t.ks.length
    ·obtain⟨u,hu⟩:∃ u,t.ks[j]?=some u:=⟨_,List.getElem?_eq_getElem hjl⟩
     have hi:(j:Int) < (t.f.kl:Int):=by rw [HKL.out];omega
     have DN:=aC (uZ (p:=fun u=>(aG u).1) hu HA.out)
     obtain⟨gq,off,hq,hgl,six⟩:=HK3.out j u hu
     have CU:=aC (IH.out u wr (List.mem_of_getElem? hu) BW.out)
     have HIN:=aC (List.mem_of_getElem? hu)
     rw [hq] at n5
     clear hq
     obtain⟨c0,c1,c2,c3,c4,c5⟩:=six.ck (CK.of_below BW.out) hgl
     have hsz:=HSZ.out
     obtain⟨b,hbu⟩:∃ b,(aG u).1=b:=⟨_,rfl⟩
     have HBU:=aC hbu
     rw [hbu] at CU
     clear hu hbu six
     cases b with
     | true=>
      go_wp2_with (go_at_call 61;refine CU.out.mono ?_;rintro e w5 ⟨rfl,h5⟩;have B5:=aC (aJ BW.out h5 lz9);have X5:Hid (BoxN w5 w.heap.size t.f):=(h5.block _ (aB XW.out)).trans XW.out;clear h5)
      go_roundw
      case rel=>exact⟨j+1,by omega,by go_num,B5.out,X5.out,by rw [DN.out];exact HBU.out⟩
      case measure=>simp only [intOf];omega
     | false=>
      have hv2:=aC (show (aG t).1=false by rw [hv.out,List.all_eq_false];exact⟨u,HIN.out,by simp [HBU.out]⟩)
      go_wp2_with (go_at_call 61;refine CU.out.mono ?_;rintro e w5 ⟨rfl,h5⟩;have B5:=aC (aJ BW.out h5 lz9);clear h5)
      go_ret
      exact⟨by rw [hv2.out];rfl,B5.out⟩
    ·have hi:¬ (j:Int) < (t.f.kl:Int):=by rw [HKL.out];omega
     have hv2:=aC (show (aG t).1=true by rw [hv.out];have:=HA.out;rwa [List.take_of_length_le (by omega)] at this)
     go_wp2
     go_ret
     exact⟨by rw [hv2.out];rfl,BW.out⟩
  ·have hlen:0 < t.ks.length:=by have:=dV hnp (.inl hk);omega
   obtain⟨u,hu⟩:∃ u,t.ks[0]?=some u:=⟨_,List.getElem?_eq_getElem hlen⟩
   have hi:(0:Int) < (t.f.kl:Int):=by rw [HKL.out];omega
   have hv:Hid ((aG t).1=(aG u).1):=aC (by rw [HV0.out,hk];show ((t.ks.map aG).headD _).1=_;rw [List.headD_eq_head?_getD,List.head?_eq_getElem?,List.getElem?_map,show t.ks[0]?=some u from hu];rfl)
   obtain⟨gq,off,hq,hgl,six⟩:=HK3.out 0 u hu
   have hin:u∈t.ks:=List.mem_of_getElem? hu
   have CU:=aC (IH.out u V hin B1.out)
   rw [hq] at n5
   clear hq
   obtain⟨c0,c1,c2,c3,c4,c5⟩:=six.ck (CK.of_below B1.out) hgl
   simp only [Nat.zero_mul,Nat.add_zero] at c0 c1 c2 c3 c4 c5
   have e3:(t.f.k==3)=false:=by rw [hk];rfl
   have e4:(t.f.k==4)=false:=by rw [hk];rfl
   have e5:(t.f.k==5)=false:=by rw [hk];rfl
   have e6:(t.f.k==6)=false:=by rw [hk];rfl
   have e7:(t.f.k==7)=true:=by rw [hk];rfl
   have e9:(t.f.k==9)=false:=by rw [hk];rfl
   clear hk hnp hu hin
   go_wp2_with (go_at_call 61;refine CU.out.mono ?_;rintro e w5 ⟨rfl,h5⟩;have B5:=aC (aJ B1.out h5 lz9);clear h5)
   go_ret
   exact⟨by rw [hv.out];rfl,B5.out⟩
  ·have hv:Hid ((aG t).1=false):=aC (by rw [HV0.out,hk];rfl)
   have e3:(t.f.k==3)=false:=by rw [hk];rfl
   have e4:(t.f.k==4)=false:=by rw [hk];rfl
   have e5:(t.f.k==5)=false:=by rw [hk];rfl
   have e6:(t.f.k==6)=false:=by rw [hk];rfl
   have e7:(t.f.k==7)=false:=by rw [hk];rfl
   have e9:(t.f.k==9)=false:=by rw [hk];rfl
   clear hk hnp
   go_wp2
   go_ret
   exact⟨by rw [hv.out];rfl,B1.out⟩
  ·have hlen:0 < t.ks.length:=by have:=dV hnp (.inr hk);omega
   obtain⟨u,hu⟩:∃ u,t.ks[0]?=some u:=⟨_,List.getElem?_eq_getElem hlen⟩
   have hi:(0:Int) < (t.f.kl:Int):=by rw [HKL.out];omega
   have hv:Hid ((aG t).1=(decide (0 < t.f.mn) && (aG u).1)):=aC (by
    rw [HV0.out,hk]
    show (if 0 < t.f.mn then (t.ks.map aG).headD _ else (false,false)).1=_
    rw [List.headD_eq_head?_getD,List.head?_eq_getElem?,List.getElem?_map,hu]
    by_cases h:0 < t.f.mn <;> simp [h])
   obtain⟨gq,off,hq,hgl,six⟩:=HK3.out 0 u hu
   have hin:u∈t.ks:=List.mem_of_getElem? hu
   have CU:=aC (IH.out u V hin B1.out)
   rw [hq] at n5
   clear hq
   obtain⟨c0,c1,c2,c3,c4,c5⟩:=six.ck (CK.of_below B1.out) hgl
   simp only [Nat.zero_mul,Nat.add_zero] at c0 c1 c2 c3 c4 c5
   have e3:(t.f.k==3)=false:=by rw [hk];rfl
   have e4:(t.f.k==4)=false:=by rw [hk];rfl
   have e5:(t.f.k==5)=false:=by rw [hk];rfl
   have e6:(t.f.k==6)=false:=by rw [hk];rfl
   have e7:(t.f.k==7)=false:=by rw [hk];rfl
   have e9:(t.f.k==9)=true:=by rw [hk];rfl
   by_cases hmn:0 < t.f.mn
   ·have hd:decide (0 < t.f.mn)=true:=by simpa using hmn
    rw [hd,Bool.true_and] at hv
    clear hk hnp hu hin
    go_wp2_with (go_at_call 61;refine CU.out.mono ?_;rintro e w5 ⟨rfl,h5⟩;have B5:=aC (aJ B1.out h5 lz9);clear h5)
    go_ret
    exact⟨by rw [hv.out];rfl,B5.out⟩
   ·have hd:decide (0 < t.f.mn)=false:=by simpa using hmn
    rw [hd,Bool.false_and] at hv
    clear hk hnp hu hin
    go_wp2
    go_ret
    exact⟨by rw [hv.out];rfl,B1.out⟩
theorem aM3(c o:Bool):∀ (m:Nat) (t:Tr) (w:World),t.sz<=m->TB w t->bM (NP c o) t->szOk t->Calls Tryz.prog 62 #[.agg #[.int .i64 t.f.k,.int .i64 t.f.n,.int .i64 t.f.mn,.int .i64 t.f.mx,.slice t.f.rq t.f.rs.length t.f.rc,.slice t.f.kq t.f.kl t.f.kc]] w fun e w'=>e=.returned (.bool (aG t).2)/\Below w.heap.size w w'
 | 0,t,_,h,_,_,_=>absurd h (by have:=dK t;omega)
 | m+1,t,w,hm,hta,hev,hok=>by
  have IH:Hid (∀ (u:Tr) (W:World),u∈t.ks->Below w.heap.size w W->Calls Tryz.prog 62 #[.agg #[.int .i64 u.f.k,.int .i64 u.f.n,.int .i64 u.f.mn,.int .i64 u.f.mx,.slice u.f.rq u.f.rs.length u.f.rc,.slice u.f.kq u.f.kl u.f.kc]] W fun e w'=>e=.returned (.bool (aG u).2)/\Below W.heap.size W w'):=fun u W hu hW=>aM3 c o m u W (by have:=cX hu;omega) ((hta.kept hW).kid hu) (bE hev hu) (hok.kid hu)
  have hnp:NP c o t:=((aW t).1 hev).1
  have hnb:=hta.node
  have HKL:=aC hnb.kl
  obtain⟨q1,cap1,eq1,-,-,hk3⟩:=hnb.k.slice
  injection eq1 with eq1 eq2 eq3
  subst eq1 eq3
  have HK3:=aC hk3
  have HSZ:=aC hok.len
  have B1:Hid (Below w.heap.size w (w.alloc (.cells #[.int .i64 t.f.k,.int .i64 t.f.n,.int .i64 t.f.mn,.int .i64 t.f.mx,.slice t.f.rq t.f.rs.length t.f.rc,.slice t.f.kq t.f.kl t.f.kc] 25))):=bz9
  have X1:Hid (BoxN (w.alloc (.cells #[.int .i64 t.f.k,.int .i64 t.f.n,.int .i64 t.f.mn,.int .i64 t.f.mx,.slice t.f.rq t.f.rs.length t.f.rc,.slice t.f.kq t.f.kl t.f.kc] 25)) w.heap.size t.f):=aE w _
  clear hta hev hnb hm hk3 eq2 hok
  go_enter Tryz.func62,Tryz.ntmps62
  go_upto_region 1 with fail
  generalize hV:w.alloc (.cells #[.int .i64 t.f.k,.int .i64 t.f.n,.int .i64 t.f.mn,.int .i64 t.f.mx,.slice t.f.rq t.f.rs.length t.f.rc,.slice t.f.kq t.f.kl t.f.kc] 25)=V at B1 X1 ⊢
  clear hV
  obtain⟨n0,n1,n2,n3,n4,n5⟩:=X1.out.six
  simp only [Nat.zero_add] at n1 n2 n3 n4 n5
  have hv0:=aO1 t
  unfold cU at hv0
  have HV0:=aC hv0
  clear hv0
  rcases fU hnp with hk | hk | hk | hk | hk | hk | hk | hk | hk
  ·have hv:Hid ((aG t).2=false):=aC (by rw [HV0.out,hk];rfl)
   have e3:(t.f.k==3)=false:=by rw [hk];rfl
   have e4:(t.f.k==4)=false:=by rw [hk];rfl
   have e5:(t.f.k==5)=false:=by rw [hk];rfl
   have e6:(t.f.k==6)=false:=by rw [hk];rfl
   have e7:(t.f.k==7)=false:=by rw [hk];rfl
   have e9:(t.f.k==9)=false:=by rw [hk];rfl
   clear hk hnp
   go_wp2
   go_ret
   exact⟨by rw [hv.out];rfl,B1.out⟩
  ·have hv:Hid ((aG t).2=false):=aC (by rw [HV0.out,hk];rfl)
   have e3:(t.f.k==3)=false:=by rw [hk];rfl
   have e4:(t.f.k==4)=false:=by rw [hk];rfl
   have e5:(t.f.k==5)=false:=by rw [hk];rfl
   have e6:(t.f.k==6)=false:=by rw [hk];rfl
   have e7:(t.f.k==7)=false:=by rw [hk];rfl
   have e9:(t.f.k==9)=false:=by rw [hk];rfl
   clear hk hnp
   go_wp2
   go_ret
   exact⟨by rw [hv.out];rfl,B1.out⟩
  ·have hv:Hid ((aG t).2=false):=aC (by rw [HV0.out,hk];rfl)
   have e3:(t.f.k==3)=true:=by rw [hk];rfl
   have e4:(t.f.k==4)=false:=by rw [hk];rfl
   have e5:(t.f.k==5)=false:=by rw [hk];rfl
   have e6:(t.f.k==6)=false:=by rw [hk];rfl
   have e7:(t.f.k==7)=false:=by rw [hk];rfl
   have e9:(t.f.k==9)=false:=by rw [hk];rfl
   clear hk hnp
   go_wp2
   go_ret
   exact⟨by rw [hv.out];rfl,B1.out⟩
  ·have hv:Hid ((aG t).2=true):=aC (by rw [HV0.out,hk];rfl)
   have e3:(t.f.k==3)=false:=by rw [hk];rfl
   have e4:(t.f.k==4)=true:=by rw [hk];rfl
   have e5:(t.f.k==5)=false:=by rw [hk];rfl
   have e6:(t.f.k==6)=false:=by rw [hk];rfl
   have e7:(t.f.k==7)=false:=by rw [hk];rfl
   have e9:(t.f.k==9)=false:=by rw [hk];rfl
   clear hk hnp
   go_wp2
   go_ret
   exact⟨by rw [hv.out];rfl,B1.out⟩
  ·have hlen:0 < t.ks.length:=by have:=mF hnp (.inl hk);omega
   obtain⟨p,hp⟩:∃ p,t.ks.length=p+1:=⟨t.ks.length - 1,by omega⟩
   obtain⟨u,hu⟩:∃ u,t.ks[p]?=some u:=⟨_,List.getElem?_eq_getElem (by omega)⟩
   have hkp:t.f.kl=p+1:=by rw [HKL.out,hp]
   have i1:IntKind.wrap .i64 ((p:Int)+1 - 1)=(p:Int):=by rw [IntKind.wrap_i64];have:=HSZ.out;omega
   have i2:wrap64 (p:Int)=(p:Int):=by have:=HSZ.out;first |(unfold wrap64;omega) |(rw [<- IntKind.wrap_i64'];omega)
   rw [hkp] at n5
   clear hkp
   have hv:Hid ((aG t).2=(aG u).2):=aC (by rw [HV0.out,hk];show ((t.ks.map aG).getLastD _).2=_;rw [List.getLastD_eq_getLast?,List.getLast?_eq_getElem?,List.length_map,hp,Nat.add_sub_cancel,List.getElem?_map,hu];rfl)
   obtain⟨gq,off,hq,hgl,six⟩:=HK3.out p u hu
   have hin:u∈t.ks:=List.mem_of_getElem? hu
   have CU:=aC (IH.out u V hin B1.out)
   rw [hq] at n5
   clear hq
   obtain⟨c0,c1,c2,c3,c4,c5⟩:=six.ck (CK.of_below B1.out) hgl
   skip
   have e3:(t.f.k==3)=false:=by rw [hk];rfl
   have e4:(t.f.k==4)=false:=by rw [hk];rfl
   have e5:(t.f.k==5)=true:=by rw [hk];rfl
   have e6:(t.f.k==6)=false:=by rw [hk];rfl
   have e7:(t.f.k==7)=false:=by rw [hk];rfl
   have e9:(t.f.k==9)=false:=by rw [hk];rfl
   clear hk hnp hu hin
   go_wp2_with (go_at_call 62;refine CU.out.mono ?_;rintro e w5 ⟨rfl,h5⟩;have B5:=aC (aJ B1.out h5 lz9);clear h5)
   go_ret
   exact⟨by rw [hv.out];rfl,B5.out⟩
  ·have hv:Hid ((aG t).2=t.ks.all fun u=>(aG u).2):=aC (by rw [HV0.out,hk];show (t.ks.map aG).all (·.2)=_;rw [List.all_map];rfl)
   have e3:(t.f.k==3)=false:=by rw [hk];rfl
   have e4:(t.f.k==4)=false:=by rw [hk];rfl
   have e5:(t.f.k==5)=false:=by rw [hk];rfl
   have e6:(t.f.k==6)=true:=by rw [hk];rfl
   have e7:(t.f.k==7)=false:=by rw [hk];rfl
   have e9:(t.f.k==9)=false:=by rw [hk];rfl
   clear hk hnp
   go_upto_region 11 with fail
   clear n0 n1 n2 n3 n4 n5
   go_loopw [3] (fun i wr=>∃ j:Nat,j<=t.ks.length/\i=.int .i64 (j:Int)/\Below w.heap.size w wr/\BoxN wr w.heap.size t.f/\(t.ks.take j).all (fun u=>(aG u).2)=true) (fun i _=>t.ks.length - (intOf i).toNat)
   case atStart=>exact⟨0,Nat.zero_le _,rfl,B1.out,X1.out,rfl⟩
   case round=>
    obtain⟨j,hj,rfl,hb,hx,hall⟩:=hrel
    have BW:=aC hb
    have XW:=aC hx
    have HA:=aC hall
    clear hb hx hall
    obtain⟨n0,n1,n2,n3,n4,n5⟩:=XW.out.six
    simp only [Nat.zero_add] at n1 n2 n3 n4 n5
    by_cases hjl:j < t.ks.length
    ·obtain⟨u,hu⟩:∃ u,t.ks[j]?=some u:=⟨_,List.getElem?_eq_getElem hjl⟩
     have hi:(j:Int) < (t.f.kl:Int):=by rw [HKL.out];omega
     have DN:=aC (uZ (p:=fun u=>(aG u).2) hu HA.out)
     obtain⟨gq,off,hq,hgl,six⟩:=HK3.out j u hu
     have CU:=aC (IH.out u wr (List.mem_of_getElem? hu) BW.out)
     have HIN:=aC (List.mem_of_getElem? hu)
     rw [hq] at n5
     clear hq
     obtain⟨c0,c1,c2,c3,c4,c5⟩:=six.ck (CK.of_below BW.out) hgl
     have hsz:=HSZ.out
     obtain⟨b,hbu⟩:∃ b,(aG u).2=b:=⟨_,rfl⟩
     have HBU:=aC hbu
     rw [hbu] at CU
     clear hu hbu six
     cases b with
     | true=>
      go_wp2_with (go_at_call 62;refine CU.out.mono ?_;rintro e w5 ⟨rfl,h5⟩;have B5:=aC (aJ BW.out h5 lz9);have X5:Hid (BoxN w5 w.heap.size t.f):=(h5.block _ (aB XW.out)).trans XW.out;clear h5)
      go_roundw
      case rel=>exact⟨j+1,by omega,by go_num,B5.out,X5.out,by rw [DN.out];exact HBU.out⟩
      case measure=>simp only [intOf];omega
     | false=>
      have hv2:=aC (show (aG t).2=false by rw [hv.out,List.all_eq_false];exact⟨u,HIN.out,by simp [HBU.out]⟩)
      go_wp2_with (go_at_call 62;refine CU.out.mono ?_;rintro e w5 ⟨rfl,h5⟩;have B5:=aC (aJ BW.out h5 lz9);clear h5)
      go_ret
      exact⟨by rw [hv2.out];rfl,B5.out⟩
    ·have hi:¬ (j:Int) < (t.f.kl:Int):=by rw [HKL.out];omega
     have hv2:=aC (show (aG t).2=true by rw [hv.out];have:=HA.out;rwa [List.take_of_length_le (by omega)] at this)
     go_wp2
     go_ret
     exact⟨by rw [hv2.out];rfl,BW.out⟩
  ·have hlen:0 < t.ks.length:=by have:=dV hnp (.inl hk);omega
   obtain⟨p,hp⟩:∃ p,t.ks.length=p+1:=⟨t.ks.length - 1,by omega⟩
   obtain⟨u,hu⟩:∃ u,t.ks[p]?=some u:=⟨_,List.getElem?_eq_getElem (by omega)⟩
   have hkp:t.f.kl=p+1:=by rw [HKL.out,hp]
   have i1:IntKind.wrap .i64 ((p:Int)+1 - 1)=(p:Int):=by rw [IntKind.wrap_i64];have:=HSZ.out;omega
   have i2:wrap64 (p:Int)=(p:Int):=by have:=HSZ.out;first |(unfold wrap64;omega) |(rw [<- IntKind.wrap_i64'];omega)
   rw [hkp] at n5
   clear hkp
   have hv:Hid ((aG t).2=(aG u).2):=aC (by rw [HV0.out,hk];show ((t.ks.map aG).headD _).2=_;rw [List.headD_eq_head?_getD,List.head?_eq_getElem?,List.getElem?_map,show t.ks[0]?=some u from (by have h1:=dV hnp (.inl hk);obtain rfl:p=0:=(by omega);exact hu)];rfl)
   obtain⟨gq,off,hq,hgl,six⟩:=HK3.out p u hu
   have hin:u∈t.ks:=List.mem_of_getElem? hu
   have CU:=aC (IH.out u V hin B1.out)
   rw [hq] at n5
   clear hq
   obtain⟨c0,c1,c2,c3,c4,c5⟩:=six.ck (CK.of_below B1.out) hgl
   skip
   have e3:(t.f.k==3)=false:=by rw [hk];rfl
   have e4:(t.f.k==4)=false:=by rw [hk];rfl
   have e5:(t.f.k==5)=false:=by rw [hk];rfl
   have e6:(t.f.k==6)=false:=by rw [hk];rfl
   have e7:(t.f.k==7)=true:=by rw [hk];rfl
   have e9:(t.f.k==9)=false:=by rw [hk];rfl
   clear hk hnp hu hin
   go_wp2_with (go_at_call 62;refine CU.out.mono ?_;rintro e w5 ⟨rfl,h5⟩;have B5:=aC (aJ B1.out h5 lz9);clear h5)
   go_ret
   exact⟨by rw [hv.out];rfl,B5.out⟩
  ·have hv:Hid ((aG t).2=false):=aC (by rw [HV0.out,hk];rfl)
   have e3:(t.f.k==3)=false:=by rw [hk];rfl
   have e4:(t.f.k==4)=false:=by rw [hk];rfl
   have e5:(t.f.k==5)=false:=by rw [hk];rfl
   have e6:(t.f.k==6)=false:=by rw [hk];rfl
   have e7:(t.f.k==7)=false:=by rw [hk];rfl
   have e9:(t.f.k==9)=false:=by rw [hk];rfl
   clear hk hnp
   go_wp2
   go_ret
   exact⟨by rw [hv.out];rfl,B1.out⟩
  ·have hlen:0 < t.ks.length:=by have:=dV hnp (.inr hk);omega
   obtain⟨u,hu⟩:∃ u,t.ks[0]?=some u:=⟨_,List.getElem?_eq_getElem hlen⟩
   have hi:(0:Int) < (t.f.kl:Int):=by rw [HKL.out];omega
   have hv:Hid ((aG t).2=(decide (0 < t.f.mn) && (aG u).2)):=aC (by
    rw [HV0.out,hk]
    show (if 0 < t.f.mn then (t.ks.map aG).headD _ else (false,false)).2=_
    rw [List.headD_eq_head?_getD,List.head?_eq_getElem?,List.getElem?_map,hu]
    by_cases h:0 < t.f.mn <;> simp [h])
   obtain⟨gq,off,hq,hgl,six⟩:=HK3.out 0 u hu
   have hin:u∈t.ks:=List.mem_of_getElem? hu
   have CU:=aC (IH.out u V hin B1.out)
   rw [hq] at n5
   clear hq
   obtain⟨c0,c1,c2,c3,c4,c5⟩:=six.ck (CK.of_below B1.out) hgl
   simp only [Nat.zero_mul,Nat.add_zero] at c0 c1 c2 c3 c4 c5
   have e3:(t.f.k==3)=false:=by rw [hk];rfl
   have e4:(t.f.k==4)=false:=by rw [hk];rfl
   have e5:(t.f.k==5)=false:=by rw [hk];rfl
   have e6:(t.f.k==6)=false:=by rw [hk];rfl
   have e7:(t.f.k==7)=false:=by rw [hk];rfl
   have e9:(t.f.k==9)=true:=by rw [hk];rfl
   by_cases hmn:0 < t.f.mn
   ·have hd:decide (0 < t.f.mn)=true:=by simpa using hmn
    rw [hd,Bool.true_and] at hv
    clear hk hnp hu hin
    go_wp2_with (go_at_call 62;refine CU.out.mono ?_;rintro e w5 ⟨rfl,h5⟩;have B5:=aC (aJ B1.out h5 lz9);clear h5)
    go_ret
    exact⟨by rw [hv.out];rfl,B5.out⟩
   ·have hd:decide (0 < t.f.mn)=false:=by simpa using hmn
    rw [hd,Bool.false_and] at hv
    clear hk hnp hu hin
    go_wp2
    go_ret
    exact⟨by rw [hv.out];rfl,B1.out⟩
end
section
attribute [local go_sem] Oper.semAt_some bB
theorem bA9(ks:List Tr)(h:∀ u∈ks,∀ g,(ev cU g u).1=aG u):∀ g,(evs cU g ks).1=ks.map aG:=by
 induction ks with
 | nil=>intro g;rw [cI];rfl
 | cons u ks ih=>
  intro g
  rw [dB,List.map_cons,h u (by simp) g]
  simp only
  rw [ih (fun v hv=>h v (by simp [hv]))]
theorem aV7:∀ (m:Nat) (t:Tr),t.sz<=m->∀ g,(ev cU g t).1=aG t
 | 0,t,h=>absurd h (by have:=dK t;omega)
 | m+1,t,h=>fun g=>by
  rw [gS,aO1,bA9 t.ks (fun u hu=>aV7 m u (by have:=cX hu;omega))]
  rfl
theorem aX1(c o:Bool)(t:Tr):tvA cU c o t=if aU c o 0 0 (pp [] t)=0 then aG t else (false,false):=by
 unfold tvA
 rw [aV7 t.sz t lz9]
def Sm(t:Tr):Prop:=∀ x∈pp [] t,x.2.f.rs.length<=1048580
theorem sA{w:World}{t:Tr}(c o:Bool)(hta:TB w t)(hsm:Sm t):Calls Tryz.prog 38 #[.agg #[.int .i64 t.f.k,.int .i64 t.f.n,.int .i64 t.f.mn,.int .i64 t.f.mx,.slice t.f.rq t.f.rs.length t.f.rc,.slice t.f.kq t.f.kl t.f.kc],.agg #[.bool c,.bool o]] w fun e w'=>e=.returned (.bool (decide (aU c o 0 0 (pp [] t)=0)))/\Below w.heap.size w w':=by
 have B1:Hid (Below w.heap.size w ((w.alloc (.cells #[.int .i64 t.f.k,.int .i64 t.f.n,.int .i64 t.f.mn,.int .i64 t.f.mx,.slice t.f.rq t.f.rs.length t.f.rc,.slice t.f.kq t.f.kl t.f.kc] 25)).alloc (.cells #[.bool c,.bool o] 27))):=(bz9).alloc (by simp) _
 have X1:Hid (BoxN ((w.alloc (.cells #[.int .i64 t.f.k,.int .i64 t.f.n,.int .i64 t.f.mn,.int .i64 t.f.mx,.slice t.f.rq t.f.rs.length t.f.rc,.slice t.f.kq t.f.kl t.f.kc] 25)).alloc (.cells #[.bool c,.bool o] 27)) w.heap.size t.f):=(Below.heap_alloc _ _ _ (by simp)).trans (aE w _)
 have X2:Hid (((w.alloc (.cells #[.int .i64 t.f.k,.int .i64 t.f.n,.int .i64 t.f.mn,.int .i64 t.f.mx,.slice t.f.rq t.f.rs.length t.f.rc,.slice t.f.kq t.f.kl t.f.kc] 25)).alloc (.cells #[.bool c,.bool o] 27)).heap[w.heap.size+1]?=some (.cells #[.bool c,.bool o] 27 (0,0))):=aK _ (by simp only [World.size_alloc])
 have HTA:=aC hta
 have HSM:=aC hsm
 clear hta hsm
 go_enter Tryz.func38,Tryz.ntmps38
 go_upto_region 1 with fail
 generalize ((w.alloc (.cells #[.int .i64 t.f.k,.int .i64 t.f.n,.int .i64 t.f.mn,.int .i64 t.f.mx,.slice t.f.rq t.f.rs.length t.f.rc,.slice t.f.kq t.f.kl t.f.kc] 25)).alloc (.cells #[.bool c,.bool o] 27))=w1 at B1 X1 X2 ⊢
 obtain⟨n0,n1,n2,n3,n4,n5⟩:=X1.out.six
 simp only [Nat.zero_add] at n1 n2 n3 n4 n5
 have a0:=aA X2.out (i:=0) rfl
 have a1:=aA X2.out (i:=1) rfl
 have RT:=aC (aQ5 c o (HTA.out.kept B1.out) HSM.out)
 obtain⟨r,hr⟩:∃ r,aU c o 0 0 (pp [] t)=r:=⟨_,rfl⟩
 have HR:=aC hr
 rw [hr] at RT
 clear hr
 go_wp2_with (go_at_call 10;refine(RT.out).mono ?_;rintro e w2 ⟨rfl,h2⟩;have B2:=aC (aJ B1.out h2 lz9);clear h2)
 go_ret
 refine⟨?_,B2.out⟩
 rw [HR.out]
 by_cases h:r=0
 ·subst h;rfl
 ·have h1:(r==0)=false:=by simpa using h
  simp [h,h1]
theorem vO{w:World}{t:Tr}(c o:Bool)(hta:TB w t)(hsm:Sm t):Calls Tryz.prog 31 #[.agg #[.int .i64 t.f.k,.int .i64 t.f.n,.int .i64 t.f.mn,.int .i64 t.f.mx,.slice t.f.rq t.f.rs.length t.f.rc,.slice t.f.kq t.f.kl t.f.kc],.agg #[.bool c,.bool o]] w fun e w'=>e=.returned (.tuple #[.bool (tvA cU c o t).1,.bool (tvA cU c o t).2])/\Below w.heap.size w w':=by
 have B1:Hid (Below w.heap.size w ((w.alloc (.cells #[.int .i64 t.f.k,.int .i64 t.f.n,.int .i64 t.f.mn,.int .i64 t.f.mx,.slice t.f.rq t.f.rs.length t.f.rc,.slice t.f.kq t.f.kl t.f.kc] 25)).alloc (.cells #[.bool c,.bool o] 27))):=(bz9).alloc (by simp) _
 have X1:Hid (BoxN ((w.alloc (.cells #[.int .i64 t.f.k,.int .i64 t.f.n,.int .i64 t.f.mn,.int .i64 t.f.mx,.slice t.f.rq t.f.rs.length t.f.rc,.slice t.f.kq t.f.kl t.f.kc] 25)).alloc (.cells #[.bool c,.bool o] 27)) w.heap.size t.f):=(Below.heap_alloc _ _ _ (by simp)).trans (aE w _)
 have X2:Hid (((w.alloc (.cells #[.int .i64 t.f.k,.int .i64 t.f.n,.int .i64 t.f.mn,.int .i64 t.f.mx,.slice t.f.rq t.f.rs.length t.f.rc,.slice t.f.kq t.f.kl t.f.kc] 25)).alloc (.cells #[.bool c,.bool o] 27)).heap[w.heap.size+1]?=some (.cells #[.bool c,.bool o] 27 (0,0))):=aK _ (by simp only [World.size_alloc])
 have HTA:=aC hta
 have HSM:=aC hsm
 have HV:=aC (aX1 c o t)
 clear hta hsm
 go_enter Tryz.func31,Tryz.ntmps31
 go_upto_region 1 with fail
 generalize ((w.alloc (.cells #[.int .i64 t.f.k,.int .i64 t.f.n,.int .i64 t.f.mn,.int .i64 t.f.mx,.slice t.f.rq t.f.rs.length t.f.rc,.slice t.f.kq t.f.kl t.f.kc] 25)).alloc (.cells #[.bool c,.bool o] 27))=w1 at B1 X1 X2 ⊢
 obtain⟨n0,n1,n2,n3,n4,n5⟩:=X1.out.six
 simp only [Nat.zero_add] at n1 n2 n3 n4 n5
 have a0:=aA X2.out (i:=0) rfl
 have a1:=aA X2.out (i:=1) rfl
 have RT:=aC (sA c o (HTA.out.kept B1.out) HSM.out)
 by_cases hr:aU c o 0 0 (pp [] t)=0
 ·have HR:=aC hr
  rw [decide_eq_true hr] at RT
  rw [if_pos hr] at HV
  clear hr
  have CB:Hid (∀ W,Below w.heap.size w W->Calls Tryz.prog 61 #[.agg #[.int .i64 t.f.k,.int .i64 t.f.n,.int .i64 t.f.mn,.int .i64 t.f.mx,.slice t.f.rq t.f.rs.length t.f.rc,.slice t.f.kq t.f.kl t.f.kc]] W fun e w'=>e=.returned (.bool (aG t).1)/\Below W.heap.size W w'):=fun W hW=>wQ c o t.sz t W lz9 (HTA.out.kept hW) (eJ HR.out) (by have:=gO HR.out;unfold szOk;omega)
  have CE:Hid (∀ W,Below w.heap.size w W->Calls Tryz.prog 62 #[.agg #[.int .i64 t.f.k,.int .i64 t.f.n,.int .i64 t.f.mn,.int .i64 t.f.mx,.slice t.f.rq t.f.rs.length t.f.rc,.slice t.f.kq t.f.kl t.f.kc]] W fun e w'=>e=.returned (.bool (aG t).2)/\Below W.heap.size W w'):=fun W hW=>aM3 c o t.sz t W lz9 (HTA.out.kept hW) (eJ HR.out) (by have:=gO HR.out;unfold szOk;omega)
  obtain⟨⟨xa,xb⟩,hx⟩:∃ x,aG t=x:=⟨_,rfl⟩
  rw [hx] at HV CB CE
  simp only at CB CE
  clear hx
  go_upto_region 4 with (go_at_call 38;refine(RT.out).mono ?_;rintro e w2 ⟨rfl,h2⟩;have B2:=aC (aJ B1.out h2 lz9);have Y1:Hid (BoxN w2 w.heap.size t.f):=(h2.block _ (aB X1.out)).trans X1.out;clear h2)
  clear n0 n1 n2 n3 n4 n5 a0 a1
  obtain⟨n0,n1,n2,n3,n4,n5⟩:=Y1.out.six
  simp only [Nat.zero_add] at n1 n2 n3 n4 n5
  have l0:w.heap.size < w2.heap.size:=aB Y1.out
  have CB2:Hid (∀ W,Below w2.heap.size w2 W->Calls Tryz.prog 61 #[.agg #[.int .i64 t.f.k,.int .i64 t.f.n,.int .i64 t.f.mn,.int .i64 t.f.mx,.slice t.f.rq t.f.rs.length t.f.rc,.slice t.f.kq t.f.kl t.f.kc]] W fun e w'=>e=.returned (.bool xa)/\Below W.heap.size W w'):=fun W hW=>CB.out W (aJ B2.out hW lz9)
  have CE2:Hid (∀ W,Below w2.heap.size w2 W->Calls Tryz.prog 62 #[.agg #[.int .i64 t.f.k,.int .i64 t.f.n,.int .i64 t.f.mn,.int .i64 t.f.mx,.slice t.f.rq t.f.rs.length t.f.rc,.slice t.f.kq t.f.kl t.f.kc]] W fun e w'=>e=.returned (.bool xb)/\Below W.heap.size W w'):=fun W hW=>CE.out W (aJ B2.out hW lz9)
  refine wx9 ?_
  repeat (go_big_quiet_step (first | exact rfl |(go_at_call 61;exact cP (CB2.out _ (kS _))) |(go_at_call 62;exact cP (CE2.out _ (kS _)))))
  refine wpQuiet_nil ?_
  intro w3 hw
  have B3:=aC (aJ B2.out (aQ hw) lz9)
  clear hw
  go_wp2
  go_ret2
  exact⟨by rw [HV.out];rfl,B3.out⟩
 ·rw [decide_eq_false hr] at RT
  rw [if_neg hr] at HV
  clear hr
  go_wp2_with (go_at_call 38;refine(RT.out).mono ?_;rintro e w2 ⟨rfl,h2⟩;have B2:=aC (aJ B1.out h2 lz9);clear h2)
  go_ret2
  exact⟨by rw [HV.out];rfl,B2.out⟩
end
section
attribute [local go_sem] Oper.semAt_some bB
def Bx2(w V:World)(f:Fl)(c o:Bool):Prop:=Below w.heap.size w V/\BoxN V w.heap.size f/\V.heap[w.heap.size+1]?=some (.cells #[.bool c,.bool o] 27 (0,0))
theorem Bx2.kept{w V V':World}{f:Fl}{c o:Bool}(h:Bx2 w V f c o)(hb:Below V.heap.size V V'):Bx2 w V' f c o:=⟨aJ h.1 hb lz9,(hb.block _ (aB h.2.1)).trans h.2.1,(hb.block _ (aB h.2.2)).trans h.2.2⟩
end
section
open Go Go.RowKit Go.Shelf
attribute [local go_sem] Oper.semAt_some bB
theorem pT{R:Ending->World->Prop}{a:Act}{W:World}{b:Nat}{f:Fl}(h:Six W b 0 f)(ha:a.tmps[2]?.getD undef=.pointer (some ⟨b,0,none⟩))(hd:a.defers=[])(hR:R (.returned (.agg #[.int .i64 f.k,.int .i64 f.n,.int .i64 f.mn,.int .i64 f.mx,.slice f.rq f.rs.length f.rc,.slice f.kq f.kl f.kc])) W):bodyPost Tryz.prog Tryz.f26 R .ret a W:=by
 obtain⟨z0,z1,z2,z3,z4,z5⟩:=h
 simp only [Nat.zero_add] at z1 z2 z3 z4 z5
 refine bodyPost_ret (v:=.agg #[.int .i64 f.k,.int .i64 f.n,.int .i64 f.mn,.int .i64 f.mx,.slice f.rq f.rs.length f.rc,.slice f.kq f.kl f.kc]) ?_ hd hR
 simp [results,Tryz.results26,go_sem,ha,z0,z1,z2,z3,z4,z5]
theorem aK3{w:World}{t:Tr}(hta:TB w t):Calls Tryz.prog 26 #[.agg #[.int .i64 t.f.k,.int .i64 t.f.n,.int .i64 t.f.mn,.int .i64 t.f.mx,.slice t.f.rq t.f.rs.length t.f.rc,.slice t.f.kq t.f.kl t.f.kc]] w fun e w'=>∃ x,e=.returned (.agg #[.int .i64 x.f.k,.int .i64 x.f.n,.int .i64 x.f.mn,.int .i64 x.f.mx,.slice x.f.rq x.f.rs.length x.f.rc,.slice x.f.kq x.f.kl x.f.kc])/\TB w' x/\er x=er t/\Below w.heap.size w w':=by
 have B0:Hid (Below w.heap.size w ((w.alloc (.cells #[.int .i64 t.f.k,.int .i64 t.f.n,.int .i64 t.f.mn,.int .i64 t.f.mx,.slice t.f.rq t.f.rs.length t.f.rc,.slice t.f.kq t.f.kl t.f.kc] 25)).alloc (.cells #[.int .i64 0,.int .i64 0,.int .i64 0,.int .i64 0,.slice none 0 0,.slice none 0 0] 25))):=(bz9).alloc (by simp) _
 have N0:Hid (BoxN ((w.alloc (.cells #[.int .i64 t.f.k,.int .i64 t.f.n,.int .i64 t.f.mn,.int .i64 t.f.mx,.slice t.f.rq t.f.rs.length t.f.rc,.slice t.f.kq t.f.kl t.f.kc] 25)).alloc (.cells #[.int .i64 0,.int .i64 0,.int .i64 0,.int .i64 0,.slice none 0 0,.slice none 0 0] 25)) w.heap.size t.f):=(Below.heap_alloc _ _ _ (by simp)).trans (aE w _)
 have R0:Hid (BoxN ((w.alloc (.cells #[.int .i64 t.f.k,.int .i64 t.f.n,.int .i64 t.f.mn,.int .i64 t.f.mx,.slice t.f.rq t.f.rs.length t.f.rc,.slice t.f.kq t.f.kl t.f.kc] 25)).alloc (.cells #[.int .i64 0,.int .i64 0,.int .i64 0,.int .i64 0,.slice none 0 0,.slice none 0 0] 25)) (w.heap.size+1) zFl):=aC (aK _ (by simp only [World.size_alloc]))
 have HTA:=aC hta
 clear hta
 go_enter Tryz.func26,Tryz.ntmps26
 go_upto_region 1 with fail
 generalize ((w.alloc (.cells #[.int .i64 t.f.k,.int .i64 t.f.n,.int .i64 t.f.mn,.int .i64 t.f.mx,.slice t.f.rq t.f.rs.length t.f.rc,.slice t.f.kq t.f.kl t.f.kc] 25)).alloc (.cells #[.int .i64 0,.int .i64 0,.int .i64 0,.int .i64 0,.slice none 0 0,.slice none 0 0] 25))=w1 at B0 N0 R0 ⊢
 obtain⟨bz,hbz⟩:∃ bz,w.heap.size+1=bz:=⟨_,rfl⟩
 rw [hbz] at R0 ⊢
 have hwz:w.heap.size<=bz:=by omega
 clear hbz
 obtain⟨n0,n1,n2,n3,n4,n5⟩:=N0.out.six
 simp only [Nat.zero_add] at n1 n2 n3 n4 n5
 have RC:=aC (zM (HTA.out.kept B0.out))
 obtain⟨C,hC⟩:∃ C,kA t=C:=⟨_,rfl⟩
 rw [hC] at RC
 have HC:=aC hC
 clear hC
 by_cases hb:(2000:Int) < (C:Int)
 ·go_upto_region 2 with (go_at_call 57;(with_reducible refine(RC.out).mono ?_);rintro e w5 ⟨rfl,h5⟩;have B5:=aC (aJ B0.out h5 lz9);have N5:Hid (BoxN w5 w.heap.size t.f):=(h5.block _ (aB N0.out)).trans N0.out;have R5:Hid (BoxN w5 bz zFl):=(h5.block _ (aB R0.out)).trans R0.out;clear h5)
  clear n0 n1 n2 n3 n4 n5
  obtain⟨n0,n1,n2,n3,n4,n5⟩:=N5.out.six
  simp only [Nat.zero_add] at n1 n2 n3 n4 n5
  obtain⟨r0,r1,r2,r3,r4,r5⟩:=R5.out.six
  simp only [Nat.zero_add] at r1 r2 r3 r4 r5
  have rz:=fun z=>aF R5.out z
  have P9:=aC (kO w5 bz 0 t.f)
  have X9:=aC (iK (g:=t.f) R5.out.six)
  have B9:Hid (Below w.heap.size w (iX w5 bz 0 t.f)):=aX B5.out P9.out lz9 (fun k e=>by omega)
  have T9:=aC (HTA.out.kept B9.out)
  unfold iX at X9 B9 T9
  go_wp2
  refine pT X9.out rfl rfl ?_
  exact⟨t,rfl,T9.out,rfl,B9.out⟩
 ·have hsz:t.sz<=2000:=by have:=HC.out;unfold kA at this;rw [dL] at this;omega
  have HSZ:=aC hsz
  clear hsz
  go_upto_region 3 with (go_at_call 57;(with_reducible refine(RC.out).mono ?_);rintro e w5 ⟨rfl,h5⟩;have B5:=aC (aJ B0.out h5 lz9);have N5:Hid (BoxN w5 w.heap.size t.f):=(h5.block _ (aB N0.out)).trans N0.out;have R5:Hid (BoxN w5 bz zFl):=(h5.block _ (aB R0.out)).trans R0.out;clear h5)
  clear n0 n1 n2 n3 n4 n5
  obtain⟨n0,n1,n2,n3,n4,n5⟩:=N5.out.six
  simp only [Nat.zero_add] at n1 n2 n3 n4 n5
  have CP:=aC (aU1 t.sz t w5 lz9 (by have:=HSZ.out;omega) (HTA.out.kept B5.out))
  have LZ:=aB R5.out
  go_wp2_with (go_at_call 58;(with_reducible refine(CP.out).mono ?_);rintro e w7 ⟨t7,rfl,h71,h72,h73,h74⟩;have R7:BoxN w7 bz zFl:=(h74.block _ LZ).trans R5.out;obtain⟨r0,r1,r2,r3,r4,r5⟩:=R7.six;simp only [Nat.zero_add] at r1 r2 r3 r4 r5;have rz:=fun z=>aF R7 z;have X9:=aC (iK (g:=t7.f) R7.six);have P9:=aC (kO w7 bz 0 t7.f);have T9:=aC (h71.ckN h73 (P9.out.ckeep (fun k e z=>by omega)));have E9:=aC h72;have B9:Hid (Below w.heap.size w (iX w7 bz 0 t7.f)):=aX (aJ B5.out h74 lz9) P9.out lz9 (fun k e=>by omega);unfold iX at X9 T9 B9;clear h71 h72 h73 h74 R7 P9)
  refine pT X9.out rfl rfl ?_
  exact⟨t7,rfl,T9.out,E9.out,B9.out⟩
theorem aK8{w:World}{x n:Tr}(hx:TB w x)(hn:TB w n)(he:er x=er n):Calls Tryz.prog 29 #[.agg #[.int .i64 x.f.k,.int .i64 x.f.n,.int .i64 x.f.mn,.int .i64 x.f.mx,.slice x.f.rq x.f.rs.length x.f.rc,.slice x.f.kq x.f.kl x.f.kc],.agg #[.int .i64 n.f.k,.int .i64 n.f.n,.int .i64 n.f.mn,.int .i64 n.f.mx,.slice n.f.rq n.f.rs.length n.f.rc,.slice n.f.kq n.f.kl n.f.kc]] w fun e w'=>e=.returned (.bool true)/\Below w.heap.size w w':=by
 have B1:Hid (Below w.heap.size w ((w.alloc (.cells #[.int .i64 x.f.k,.int .i64 x.f.n,.int .i64 x.f.mn,.int .i64 x.f.mx,.slice x.f.rq x.f.rs.length x.f.rc,.slice x.f.kq x.f.kl x.f.kc] 25)).alloc (.cells #[.int .i64 n.f.k,.int .i64 n.f.n,.int .i64 n.f.mn,.int .i64 n.f.mx,.slice n.f.rq n.f.rs.length n.f.rc,.slice n.f.kq n.f.kl n.f.kc] 25))):=(bz9).alloc (by simp) _
 have NX:Hid (BoxN ((w.alloc (.cells #[.int .i64 x.f.k,.int .i64 x.f.n,.int .i64 x.f.mn,.int .i64 x.f.mx,.slice x.f.rq x.f.rs.length x.f.rc,.slice x.f.kq x.f.kl x.f.kc] 25)).alloc (.cells #[.int .i64 n.f.k,.int .i64 n.f.n,.int .i64 n.f.mn,.int .i64 n.f.mx,.slice n.f.rq n.f.rs.length n.f.rc,.slice n.f.kq n.f.kl n.f.kc] 25)) w.heap.size x.f):=(Below.heap_alloc _ _ _ (by simp)).trans (aE w _)
 have NN:Hid (BoxN ((w.alloc (.cells #[.int .i64 x.f.k,.int .i64 x.f.n,.int .i64 x.f.mn,.int .i64 x.f.mx,.slice x.f.rq x.f.rs.length x.f.rc,.slice x.f.kq x.f.kl x.f.kc] 25)).alloc (.cells #[.int .i64 n.f.k,.int .i64 n.f.n,.int .i64 n.f.mn,.int .i64 n.f.mx,.slice n.f.rq n.f.rs.length n.f.rc,.slice n.f.kq n.f.kl n.f.kc] 25)) (w.heap.size+1) n.f):=aC (aK _ (by simp only [World.size_alloc]))
 have HX:=aC hx
 have HN:=aC hn
 have HE:=aC he
 clear hx hn he
 go_enter Tryz.func29,Tryz.ntmps29
 go_upto_region 1 with fail
 generalize ((w.alloc (.cells #[.int .i64 x.f.k,.int .i64 x.f.n,.int .i64 x.f.mn,.int .i64 x.f.mx,.slice x.f.rq x.f.rs.length x.f.rc,.slice x.f.kq x.f.kl x.f.kc] 25)).alloc (.cells #[.int .i64 n.f.k,.int .i64 n.f.n,.int .i64 n.f.mn,.int .i64 n.f.mx,.slice n.f.rq n.f.rs.length n.f.rc,.slice n.f.kq n.f.kl n.f.kc] 25))=w1 at B1 NX NN ⊢
 generalize w.heap.size+1=bb at NN ⊢
 obtain⟨c0,c1,c2,c3,c4,c5⟩:=NN.out.six
 simp only [Nat.zero_add] at c1 c2 c3 c4 c5
 have RC:=aC (zM (HN.out.kept B1.out))
 obtain⟨C,hC⟩:∃ C,kA n=C:=⟨_,rfl⟩
 rw [hC] at RC
 have HC:=aC hC
 clear hC
 by_cases hb:(2000:Int) < (C:Int)
 ·have db:decide ((2000:Int) < (C:Int))=true:=decide_eq_true hb
  go_wp2_with (go_at_call 57;(with_reducible refine(RC.out).mono ?_);rintro e w5 ⟨rfl,h5⟩;have B5:=aC (aJ B1.out h5 lz9);clear h5)
  go_ret
  exact⟨rfl,B5.out⟩
 ·have db:decide ((2000:Int) < (C:Int))=false:=decide_eq_false hb
  have hsz:n.sz<=2000:=by have:=HC.out;unfold kA at this;rw [dL] at this;omega
  have RS:Hid (rsB x n=true):=by
   refine aC ?_
   unfold rsB
   have hl:=congrArg List.length (aG7 x n [] [] rfl HE.out)
   rw [List.length_map,List.length_map,dL,dL] at hl
   rw [dL,dL,hl,HE.out,decide_eq_false (by omega),xU]
   rfl
  clear hsz
  go_wp2_with first
   |(go_at_call 57;(with_reducible refine(RC.out).mono ?_);rintro e w5 ⟨rfl,h5⟩;have B5:=aC (aJ B1.out h5 lz9);have X5:=aC ((HX.out.kept B1.out).kept h5);have N5:=aC ((HN.out.kept B1.out).kept h5);have BN5:BoxN w5 bb n.f:=(h5.block _ (aB NN.out)).trans NN.out;have BX5:BoxN w5 w.heap.size x.f:=(h5.block _ (aB NX.out)).trans NX.out;clear h5 c0 c1 c2 c3 c4 c5;obtain⟨c0,c1,c2,c3,c4,c5⟩:=BN5.six;obtain⟨d0,d1,d2,d3,d4,d5⟩:=BX5.six;simp only [Nat.zero_add] at c1 c2 c3 c4 c5 d1 d2 d3 d4 d5;have SM:=aC (aY8 X5.out N5.out);rw [RS.out] at SM;clear BN5 BX5)
   |(go_at_call 59;(with_reducible refine(SM.out).mono ?_);rintro e w6 ⟨rfl,h6⟩;have B6:=aC (aJ B5.out h6 lz9);clear h6)
  go_ret
  exact⟨by simp,B6.out⟩
end
section
open Go Go.RowKit Go.Shelf
def ErL{T:Type}(ρ:cR T):Prop:=∀ (a b:Tr) xs g,er a=er b->ρ a.f a.ks xs g=ρ b.f b.ks xs g
theorem aV6{T:Type}{ρ:cR T}(hρ:ErL ρ)(a:Tr):∀ (b:Tr) (g:Int->T),er a=er b->ev ρ g a=ev ρ g b:=by
 refine Tr.ind (P:=fun a=>∀ (b:Tr) (g:Int->T),er a=er b->ev ρ g a=ev ρ g b) (fun a ih b g h=>?_) a
 obtain⟨h1,h2,-,-,-,h6⟩:=(lP a b).1 h
 have key:∀ (ks js:List Tr) (g:Int->T),(∀ u∈ks,u∈a.ks)->ks.map er=js.map er->evs ρ g ks=evs ρ g js:=by
  intro ks
  induction ks with
  | nil=>
   intro js g _ hl
   cases js with
   | nil=>rfl
   | cons v js=>cases hl
  | cons u ks ihk=>
   intro js g hm hl
   cases js with
   | nil=>cases hl
   | cons v js=>
    rw [List.map_cons,List.map_cons] at hl
    injection hl with e1 e2
    rw [dB,dB,ih u (hm u List.mem_cons_self) v g e1,ihk js _ (fun z hz=>hm z (List.mem_cons_of_mem _ hz)) e2]
 have hk:=key a.ks b.ks g (fun _ z=>z) h6
 have hf:(ev ρ g a).1=(ev ρ g b).1:=by rw [gS,gS,hk,hρ a b _ _ h]
 refine Prod.ext hf ?_
 rw [iD,iD,hk,hf,h1,h2]
theorem aR8(c:Bool):ErL (bI c):=fun a b xs g h=>by
 obtain⟨h1,h2,h3,h4,h5,h6⟩:=(lP a b).1 h
 unfold bI
 rw [h1,h2,h3,h4,h5]
theorem aS0:ErL cU:=fun a b xs g h=>by
 obtain⟨h1,h2,h3,h4,h5,h6⟩:=(lP a b).1 h
 unfold cU
 rw [h1,h3]
theorem aX0{ρ:cR (Int × Int)}(hρ:ErL ρ){c o:Bool}{a b:Tr}(h:er a=er b):tvW ρ c o a=tvW ρ c o b:=by unfold tvW;rw [wG h,aV6 hρ a b _ h]
theorem aX2{ρ:cR (Bool × Bool)}(hρ:ErL ρ){c o:Bool}{a b:Tr}(h:er a=er b):tvA ρ c o a=tvA ρ c o b:=by unfold tvA;rw [wG h,aV6 hρ a b _ h]
structure LR(w:World)(t x:Tr)(c o:Bool)(bx:Nat)(W:World):Prop where
 nd:BoxN W w.heap.size t.f
 md:W.heap[w.heap.size+1]?=some (.cells #[.bool c,.bool o] 27 (0,0))
 xd:BoxN W bx x.f
 tt:TB W t
 tx:TB W x
 bel:Below w.heap.size w W
theorem LR.kept{w:World}{t x:Tr}{c o:Bool}{bx:Nat}{W W':World}(h:LR w t x c o bx W)(hb:Below W.heap.size W W'):LR w t x c o bx W':=
 ⟨(hb.block _ (aB h.nd)).trans h.nd,(hb.block _ (aB h.md)).trans h.md,(hb.block _ (aB h.xd)).trans h.xd,h.tt.kept hb,h.tx.kept hb,aJ h.bel hb lz9⟩
end
section
attribute [local go_sem] Oper.semAt_some
theorem aR2{R:Ending->World->Prop}{a:Act}{W:World}{b:Nat}{f:Fl}(h:Six W b 0 f)(ha:a.tmps[4]?.getD undef=.pointer (some ⟨b,0,none⟩))(hd:a.defers=[])(hR:R (.returned (.agg #[.int .i64 f.k,.int .i64 f.n,.int .i64 f.mn,.int .i64 f.mx,.slice f.rq f.rs.length f.rc,.slice f.kq f.kl f.kc])) W):bodyPost Tryz.prog Tryz.f111 R .ret a W:=by
 obtain⟨z0,z1,z2,z3,z4,z5⟩:=h
 simp only [Nat.zero_add] at z1 z2 z3 z4 z5
 refine bodyPost_ret (v:=.agg #[.int .i64 f.k,.int .i64 f.n,.int .i64 f.mn,.int .i64 f.mx,.slice f.rq f.rs.length f.rc,.slice f.kq f.kl f.kc]) ?_ hd hR
 simp [results,Tryz.results111,go_sem,ha,z0,z1,z2,z3,z4,z5]
abbrev uI:Fl:=⟨0,0,0,0,[],none,0,none,0,0⟩
def isG(n:Int)(x:El):Bool:=x.2.f.k==7 && x.2.f.n==n
theorem aT0{w:World}{t:Tr}(n:Int)(hta:TB w t)(hl:(pp [] t).length<=2000){j:Nat}{y:El}(hy:(pp [] t)[j]?=some y)(hyg:isG n y=true)(hfst:∀ (i:Nat) (x:El),i < j->(pp [] t)[i]?=some x->isG n x=false) :
  Calls Tryz.prog 111 #[.agg #[.int .i64 t.f.k,.int .i64 t.f.n,.int .i64 t.f.mn,.int .i64 t.f.mx,.slice t.f.rq t.f.rs.length t.f.rc,.slice t.f.kq t.f.kl t.f.kc],.int .i64 n] w fun e w'=>e=.returned (.agg #[.int .i64 y.2.f.k,.int .i64 y.2.f.n,.int .i64 y.2.f.mn,.int .i64 y.2.f.mx,.slice y.2.f.rq y.2.f.rs.length y.2.f.rc,.slice y.2.f.kq y.2.f.kl y.2.f.kc])/\Below w.heap.size w w':=by
 have B0:Hid (Below w.heap.size w ((w.alloc (.cells #[.int .i64 t.f.k,.int .i64 t.f.n,.int .i64 t.f.mn,.int .i64 t.f.mx,.slice t.f.rq t.f.rs.length t.f.rc,.slice t.f.kq t.f.kl t.f.kc] 25)).alloc (.cells #[.int .i64 0,.int .i64 0,.int .i64 0,.int .i64 0,.slice none 0 0,.slice none 0 0] 25))):=(bz9).alloc (by simp) _
 have N0:Hid (BoxN ((w.alloc (.cells #[.int .i64 t.f.k,.int .i64 t.f.n,.int .i64 t.f.mn,.int .i64 t.f.mx,.slice t.f.rq t.f.rs.length t.f.rc,.slice t.f.kq t.f.kl t.f.kc] 25)).alloc (.cells #[.int .i64 0,.int .i64 0,.int .i64 0,.int .i64 0,.slice none 0 0,.slice none 0 0] 25)) w.heap.size t.f):=(Below.heap_alloc _ _ _ (by simp)).trans (aE w _)
 have R0:Hid (BoxN ((w.alloc (.cells #[.int .i64 t.f.k,.int .i64 t.f.n,.int .i64 t.f.mn,.int .i64 t.f.mx,.slice t.f.rq t.f.rs.length t.f.rc,.slice t.f.kq t.f.kl t.f.kc] 25)).alloc (.cells #[.int .i64 0,.int .i64 0,.int .i64 0,.int .i64 0,.slice none 0 0,.slice none 0 0] 25)) (w.heap.size+1) uI):=aC (aK _ (by simp only [World.size_alloc]))
 have LD:Hid (∀ W,Below w.heap.size w W->Calls Tryz.prog 36 #[.agg #[.int .i64 t.f.k,.int .i64 t.f.n,.int .i64 t.f.mn,.int .i64 t.f.mx,.slice t.f.rq t.f.rs.length t.f.rc,.slice t.f.kq t.f.kl t.f.kc],.int .i64 2000] W (aO6 W (jM 2000 t))):=fun W hW=>qA 2000 (by omega) (hta.kept hW)
 have HMP:Hid ((jM 2000 t).map (·.1)=pp [] t):=aC (by rw [jU,List.take_of_length_le hl])
 have hZ:(jM 2000 t).length<=2000:=by have:=mK 2000 t;omega
 generalize jM 2000 t=Z at LD HMP hZ
 have HY:=aC hy
 have HG:=aC hyg
 have HF:=aC hfst
 have hjZ:j < Z.length:=by have h1:=congrArg List.length HMP.out;rw [List.length_map] at h1;rw [h1];exact(List.getElem?_eq_some_iff.1 hy).1
 clear hta hl hy hyg hfst
 go_enter Tryz.func111,Tryz.ntmps111
 go_upto_region 1 with fail
 generalize ((w.alloc (.cells #[.int .i64 t.f.k,.int .i64 t.f.n,.int .i64 t.f.mn,.int .i64 t.f.mx,.slice t.f.rq t.f.rs.length t.f.rc,.slice t.f.kq t.f.kl t.f.kc] 25)).alloc (.cells #[.int .i64 0,.int .i64 0,.int .i64 0,.int .i64 0,.slice none 0 0,.slice none 0 0] 25))=w1 at B0 N0 R0 ⊢
 obtain⟨n0,n1,n2,n3,n4,n5⟩:=N0.out.six
 simp only [Nat.zero_add] at n1 n2 n3 n4 n5
 go_upto_region 2 with (go_at_call 36;refine(LD.out _ B0.out).mono ?_;rintro e w5 ⟨q5,k5,rfl,h51,h52⟩;have Z5:=aC h51;have R5:Hid (BoxN w5 (w.heap.size+1) uI):=(h52.block _ (aB R0.out)).trans R0.out;have B5:=aC (aJ B0.out h52 lz9);clear h51 h52)
 clear n0 n1 n2 n3 n4 n5 N0 R0 B0 LD
 obtain⟨g,cc,hq⟩:=aM Z5.out (by omega)
 injection hq with hq1 _ hq2
 subst hq1 hq2
 go_upto_region 3 with fail
 go_loopw [6] (fun i wr=>∃ k:Nat,k<=j/\i=.int .i64 (k:Int)/\wr=w5) (fun i _=>j - (intOf i).toNat)
 case atStart=>exact⟨0,Nat.zero_le _,rfl,rfl⟩
 case round=>
  obtain⟨k,hk,rfl,rfl⟩:=hrel
  have i0:(k:Int) < (Z.length:Int):=by omega
  obtain⟨z,hz⟩:∃ z,Z[k]?=some z:=⟨_,List.getElem?_eq_getElem (by omega)⟩
  have hx:(pp [] t)[k]?=some z.1:=by rw [<- HMP.out,List.getElem?_map,hz];rfl
  have y0:=Z5.out.cells hz (j:=0) (v:=.int .i64 z.1.2.f.k) rfl
  rw [Nat.add_zero] at y0
  have y1:=Z5.out.cells hz (j:=1) (v:=.int .i64 z.1.2.f.n) rfl
  have y2:=Z5.out.cells hz (j:=2) (v:=.int .i64 z.1.2.f.mn) rfl
  have y3:=Z5.out.cells hz (j:=3) (v:=.int .i64 z.1.2.f.mx) rfl
  have y4:=Z5.out.cells hz (j:=4) (v:=.slice z.1.2.f.rq z.1.2.f.rs.length z.1.2.f.rc) rfl
  have y5:=Z5.out.cells hz (j:=5) (v:=.slice z.1.2.f.kq z.1.2.f.kl z.1.2.f.kc) rfl
  have hwr:IntKind.wrap .i64 ((k:Int)+1)=(k:Int)+1:=wrap_small _ (by omega) (by omega)
  by_cases hkj:k=j
  ·subst hkj
   have e:y=z.1:=Option.some.inj (HY.out.symm.trans hx)
   subst e
   have hg:=HG.out
   unfold isG at hg
   rw [Bool.and_eq_true] at hg
   obtain⟨e7,en⟩:=hg
   clear hz hx
   have RS:BoxN wr (w.heap.size+1) uI:=R5.out
   obtain⟨r0,r1,r2,r3,r4,r5⟩:=RS.six
   simp only [Nat.zero_add] at r1 r2 r3 r4 r5
   have rz:=fun z=>aF RS z
   have X9:=aC (iK (g:=z.1.2.f) RS.six)
   have F9:=aC (kO wr (w.heap.size+1) 0 z.1.2.f)
   have B9:Hid (Below w.heap.size w (iX wr (w.heap.size+1) 0 z.1.2.f)):=aX B5.out F9.out lz9 (fun k e=>by omega)
   unfold iX at X9 B9
   clear RS F9
   go_wp2
   refine aR2 X9.out rfl rfl ?_
   exact⟨rfl,B9.out⟩
  ·have hg:=HF.out k z.1 (by omega) hx
   unfold isG at hg
   clear hz hx
   by_cases h7:z.1.2.f.k=7
   ·have e7:(z.1.2.f.k==7)=true:=by rw [h7];rfl
    rw [e7,Bool.true_and] at hg
    clear h7
    go_wp2
    go_roundw
    case rel=>exact⟨k+1,by omega,by go_num,by trivial⟩
    case measure=>simp only [intOf];omega
   ·have e7:(z.1.2.f.k==7)=false:=by simpa using h7
    clear hg
    go_wp2
    go_roundw
    case rel=>exact⟨k+1,by omega,by go_num,by trivial⟩
    case measure=>simp only [intOf];omega
end
end Go.Proofs.YtjafnbjipgediaaGreatDoor
