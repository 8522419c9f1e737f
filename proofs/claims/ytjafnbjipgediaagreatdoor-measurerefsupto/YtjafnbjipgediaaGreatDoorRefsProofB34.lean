/-
  Parts of the proof.
-/
import Derived.Test.YtjafnbjipgediaaGreatDoorRefsProofB33
import Derived.Test.YtjafnbjipgediaaGreatDoorRefsProofB31
import Derived.Test.YtjafnbjipgediaaGreatDoorRefsProofB17
import Derived.Lib.SlicesCompact
import Derived.Test.YtjafnbjipgediaaGreatDoorRefsProofB20
import Derived.Test.YtjafnbjipgediaaGreatDoorRefsProofB26
set_option maxRecDepth 100000
set_option maxHeartbeats 8000000
namespace Go.Proofs.YtjafnbjipgediaaGreatDoor
open Go Go.RowKit
section
theorem aZ5(W:World)(a:Value)(t:TypeId):∀ (j:Nat) (u:Value),[a][j]?=some u->(W.alloc (.cells #[a] t)).cell? ((⟨W.heap.size,0,none⟩:Addr).add j)=some u:=by
 intro j u h
 match j,h with
 | 0,h=>simp at h;subst h;simp [Addr.add]
theorem aT8(most:Nat):∀ (a:List El) (k j:Nat) (z:Zl),(tl most k a)[j]?=some z->z.2=min (k+j+z.1.2.sz) most
 | [],k,j,z,h=>by simp [tl] at h
 | x :: a,k,0,z,h=>by
  rw [tl] at h
  simp at h
  subst h
  rfl
 | x :: a,k,j+1,z,h=>by
  rw [tl,List.getElem?_cons_succ] at h
  have:=aT8 most a (k+1) j z h
  omega
theorem aR0{t:Tr}{j:Nat}{z:Zl}(h:(jE 2001 t)[j]?=some z):z.2=min (j+z.1.2.sz) 2001:=by
 have h':((tl 2001 0 (pp [] t)).take 2001)[j]?=some z:=by
  unfold jE kO at h
  rw [List.nil_append,List.length_nil,Nat.sub_zero] at h
  exact h
 have hj:(tl 2001 0 (pp [] t))[j]?=some z:=by
  obtain⟨hl,hv⟩:=List.getElem?_eq_some_iff.1 h'
  rw [List.length_take] at hl
  rw [List.getElem_take] at hv
  exact List.getElem?_eq_some_iff.2 ⟨by omega,hv⟩
 have:=aT8 _ _ _ _ _ hj
 omega
theorem aI7{c f:Bool}{p:Way}{t:Tr}{i g:Nat}(h:bT c f p t i g=0)(hk:t.f.k=7):t.f.n=(g:Int)+1:=by
 obtain⟨h1,h2,h3⟩:=iR h
 exact(iB.1 ⟨(by rw [hk];rfl),h2,h3⟩).2 hk
def RG(c f:Bool)(pre:List El):Prop:=∀ (j:Nat) (y:El),pre[j]?=some y->bT c f y.1 y.2 j (cX (pre.take j))=0
theorem RG.nil(c f:Bool):RG c f []:=fun j y h=>by simp at h
theorem RG.step{c f:Bool}{pre:List El}{x:El}(h:RG c f pre)(hx:bT c f x.1 x.2 pre.length (cX pre)=0):RG c f (pre ++ [x]):=fun j y hy=>by
 rcases Nat.lt_or_ge j pre.length with hj | hj
 ·rw [List.getElem?_append_left hj] at hy
  rw [List.take_append_of_le_length (by omega)]
  exact h j y hy
 ·rw [List.getElem?_append_right hj] at hy
  have h0:j - pre.length=0:=by
   rcases Nat.eq_zero_or_pos (j - pre.length) with z | z
   ·exact z
   ·rw [show j - pre.length=(j - pre.length - 1)+1 by omega] at hy
    simp at hy
  rw [h0] at hy
  simp at hy
  subst hy
  have hj2:j=pre.length:=by omega
  subst hj2
  rw [List.take_left]
  exact hx
theorem kW{c f:Bool}:∀ (a b:List El) (i g:Nat),(∀ (j:Nat) (y:El),a[j]?=some y->bT c f y.1 y.2 (i+j) (g+cX (a.take j))=0)->aT c f i g (a ++ b)=aT c f (i+a.length) (g+cX a) b
 | [],b,i,g,_=>by simp [cX]
 | x :: a,b,i,g,h=>by
  have h0:=h 0 x rfl
  rw [List.take_zero,Nat.add_zero] at h0
  have h0':bT c f x.1 x.2 i g=0:=h0
  have ih:=kW a b (i+1) (g+(if x.2.f.k=7 then 1 else 0)) (fun j y hy=>by
   have:=h (j+1) y (by rw [List.getElem?_cons_succ];exact hy)
   rw [List.take_succ_cons,cX] at this
   rw [show i+1+j=i+(j+1) by omega,Nat.add_assoc]
   exact this)
  rw [List.cons_append]
  simp only [aT,h0',ne_eq,not_true,if_false]
  rw [ih,List.length_cons,cX,show i+1+a.length=i+(a.length+1) by omega,Nat.add_assoc]
theorem RG.stop{c f:Bool}{t:Tr}{j:Nat}{x:El}{m:Int}(h:RG c f ((pp [] t).take j))(hx:(pp [] t)[j]?=some x)(hm:bT c f x.1 x.2 j (cX ((pp [] t).take j))=m)(h0:m≠0):aT c f 0 0 (pp [] t)=m:=by
 have hj:=(List.getElem?_eq_some_iff.1 hx).1
 have e:pp [] t=(pp [] t).take j ++ x :: (pp [] t).drop (j+1):=by
  have:=List.take_append_drop j (pp [] t)
  rw [List.drop_eq_getElem_cons hj,(List.getElem?_eq_some_iff.1 hx).2] at this
  exact this.symm
 have hl:((pp [] t).take j).length=j:=by rw [List.length_take];omega
 have hs:=kW ((pp [] t).take j) (x :: (pp [] t).drop (j+1)) 0 0 (fun k y hy=>by rw [Nat.zero_add,Nat.zero_add];exact h k y hy)
 rw [<- e,Nat.zero_add,Nat.zero_add,hl] at hs
 rw [hs]
 simp only [aT,hm,ne_eq,h0,not_false_eq_true,if_true]
theorem RG.all{c f:Bool}{t:Tr}(h:RG c f (pp [] t)):aT c f 0 0 (pp [] t)=0:=by
 have hs:=kW (pp [] t) [] 0 0 (fun k y hy=>by rw [Nat.zero_add,Nat.zero_add];exact h k y hy)
 rw [List.append_nil] at hs
 rw [hs]
 rfl
theorem oW{t:Tr}{j:Nat}{x:El}(hx:(pp [] t)[j]?=some x):(pp [] t).take j ++ [x] <+: pp [] t:=by
 have:(pp [] t).take (j+1)=(pp [] t).take j ++ [x]:=by rw [List.take_add_one,hx];rfl
 rw [<- this]
 exact List.take_prefix _ _
theorem sH{t:Tr}{j k:Nat}{y:El}(h:((pp [] t).take j)[k]?=some y):(pp [] t)[k]?=some y:=by
 obtain⟨hl,hv⟩:=List.getElem?_eq_some_iff.1 h
 rw [List.length_take] at hl
 rw [List.getElem_take] at hv
 exact List.getElem?_eq_some_iff.2 ⟨by omega,hv⟩
open Classical in
theorem aI9{c f:Bool}{p:Way}{t:Tr}{i g:Nat}(hbr:∀ par i r,p=(par,i) :: r->par.f.k=5->brP r=true):bT c f p t i g=if i=2000 then 42 else if 40 < p.length+1 then 43 else if ¬ (bK c f p t/\(t.f.k=7->t.f.n=(g:Int)+1)) then 50 else if t.f.k=7/\30 < t.f.n then 42 else if t.f.k=8/\¬ (gM p t.f.n=false/\t.f.n<=(g:Int)) then 41 else 0:=by
 unfold bT
 simp only [xR hbr]
structure RS(w5:World)(t:Tr)(c f:Bool)(j gr:Nat)(v:Value)(W:World):Prop where
 le:j<=2000
 cnt:cX ((pp [] t).take j)=gr
 row:W.ownsRow w5.heap.size 3 1 v gr (fV ((fW 0 ((pp [] t).take j)).map Int.ofNat))
 bel:Below w5.heap.size w5 W
 ok:RG c f ((pp [] t).take j)
theorem RS.next{w5 W W':World}{t:Tr}{c f:Bool}{j gr:Nat}{v:Value}{x:El}(h:RS w5 t c f j gr v W)(hx:(pp [] t)[j]?=some x)(hj:j < 2000)(h0:bT c f x.1 x.2 j gr=0)(hk:x.2.f.k≠7)(hb:Below W.heap.size W W'):RS w5 t c f (j+1) gr v W':=by
 have hl:=(List.getElem?_eq_some_iff.1 hx).1
 have hlen:((pp [] t).take j).length=j:=by rw [List.length_take];omega
 have e:(pp [] t).take (j+1)=(pp [] t).take j ++ [x]:=by rw [List.take_add_one,hx];rfl
 refine⟨by omega,?_,?_,aI h.bel hb lz9,?_⟩
 ·rw [e,kH,if_neg hk,h.cnt];rfl
 ·rw [e,rM,if_neg hk,List.append_nil]
  exact aL h.row (Fr.of_below (S:=fun _=>False) hb) (fun _ _ z=>z)
 ·rw [e]
  refine h.ok.step ?_
  rw [hlen,h.cnt]
  exact h0
theorem RS.group{w5 W W':World}{t:Tr}{c f:Bool}{j gr:Nat}{v v':Value}{x:El}(h:RS w5 t c f j gr v W)(hx:(pp [] t)[j]?=some x)(hj:j < 2000)(h0:bT c f x.1 x.2 j gr=0)(hk:x.2.f.k=7)(hr:W'.ownsRow w5.heap.size 3 1 v' (gr+1) (fV ((fW 0 ((pp [] t).take j)).map Int.ofNat) ++ [.int .i64 (j:Int)]))(hb:Below w5.heap.size w5 W'):RS w5 t c f (j+1) (gr+1) v' W':=by
 have hl:=(List.getElem?_eq_some_iff.1 hx).1
 have hlen:((pp [] t).take j).length=j:=by rw [List.length_take];omega
 have e:(pp [] t).take (j+1)=(pp [] t).take j ++ [x]:=by rw [List.take_add_one,hx];rfl
 refine⟨by omega,?_,?_,hb,?_⟩
 ·rw [e,kH,if_pos hk,h.cnt]
 ·rw [e,rM,if_pos hk,hlen,List.map_append,uZ]
  exact hr
 ·rw [e]
  refine h.ok.step ?_
  rw [hlen,h.cnt]
  exact h0
theorem RS.back{w5 W:World}{t:Tr}{c f:Bool}{j gr:Nat}{v:Value}{x:El}(h:RS w5 t c f j gr v W)(hx:(pp [] t)[j]?=some x)(hj:j < 2000){N:Nat}(hN:N < gr):∃ jj:Nat,(fW 0 ((pp [] t).take j))[N]?=some jj/\∃ y,(pp [] t)[jj]?=some y/\jj < j/\(gM x.1 ((N:Int)+1)=false ↔ min (jj+y.2.sz) 2001<=j):=by
 have hl:=(List.getElem?_eq_some_iff.1 hx).1
 have hlen:((pp [] t).take j).length=j:=by rw [List.length_take];omega
 have hg:N < (fW 0 ((pp [] t).take j)).length:=by rw [mE,h.cnt];exact hN
 obtain⟨jj,hjj⟩:∃ jj,(fW 0 ((pp [] t).take j))[N]?=some jj:=⟨_,List.getElem?_eq_getElem hg⟩
 obtain⟨y,hy,hiff⟩:=bA2 (oW hx) (fun k z hz hk=>aI7 (h.ok k z hz) hk) (by omega) hjj
 rw [hlen] at hiff
 have:=(List.getElem?_eq_some_iff.1 hy).1
 exact⟨jj,hjj,y,sH hy,by omega,hiff⟩
theorem aP1{w:World}{t:Tr}(c f:Bool)(hta:TB w t)(hsm:∀ x∈pp [] t,x.2.f.rs.length<=1048580):Calls Tryz.prog 10 #[.agg #[.int .i64 t.f.k,.int .i64 t.f.n,.int .i64 t.f.mn,.int .i64 t.f.mx,.slice t.f.rq t.f.rs.length t.f.rc,.slice t.f.kq t.f.kl t.f.kc],.agg #[.bool c,.bool f]] w fun e w'=>e=.returned (.int .i64 (aT c f 0 0 (pp [] t)))/\Below w.heap.size w w':=by
 have B1:Hid (Below w.heap.size w ((w.alloc (.cells #[.int .i64 t.f.k,.int .i64 t.f.n,.int .i64 t.f.mn,.int .i64 t.f.mx,.slice t.f.rq t.f.rs.length t.f.rc,.slice t.f.kq t.f.kl t.f.kc] 25)).alloc (.cells #[.bool c,.bool f] 27))):=(bz9).alloc (by simp) _
 have N1:Hid (BoxN ((w.alloc (.cells #[.int .i64 t.f.k,.int .i64 t.f.n,.int .i64 t.f.mn,.int .i64 t.f.mx,.slice t.f.rq t.f.rs.length t.f.rc,.slice t.f.kq t.f.kl t.f.kc] 25)).alloc (.cells #[.bool c,.bool f] 27)) w.heap.size t.f):=(Below.heap_alloc _ _ _ (by simp)).trans (aE w _)
 have M1:Hid (((w.alloc (.cells #[.int .i64 t.f.k,.int .i64 t.f.n,.int .i64 t.f.mn,.int .i64 t.f.mx,.slice t.f.rq t.f.rs.length t.f.rc,.slice t.f.kq t.f.kl t.f.kc] 25)).alloc (.cells #[.bool c,.bool f] 27)).heap[w.heap.size+1]?=some (.cells #[.bool c,.bool f] 27 (0,0))):=(by
  have:=aE (w.alloc (.cells #[.int .i64 t.f.k,.int .i64 t.f.n,.int .i64 t.f.mn,.int .i64 t.f.mx,.slice t.f.rq t.f.rs.length t.f.rc,.slice t.f.kq t.f.kl t.f.kc] 25)) (.cells #[.bool c,.bool f] 27)
  rwa [World.size_alloc] at this)
 have HTA:=aC hta
 have HSM:=aC hsm
 obtain⟨R,hR⟩:∃ R,aT c f 0 0 (pp [] t)=R:=⟨_,rfl⟩
 rw [hR]
 have HR:=aC hR
 clear hta hsm hR
 go_enter Tryz.func10,Tryz.ntmps10
 go_upto_region 1 with fail
 generalize ((w.alloc (.cells #[.int .i64 t.f.k,.int .i64 t.f.n,.int .i64 t.f.mn,.int .i64 t.f.mx,.slice t.f.rq t.f.rs.length t.f.rc,.slice t.f.kq t.f.kl t.f.kc] 25)).alloc (.cells #[.bool c,.bool f] 27))=W1 at B1 N1 M1 ⊢
 generalize w.heap.size+1=bm at M1 ⊢
 obtain⟨c0,c1,c2,c3,c4,c5⟩:=N1.out.six
 simp only [Nat.zero_add] at c1 c2 c3 c4 c5
 have LA:=aC (pO (w:=W1) 2001 (by omega) (HTA.out.kept B1.out))
 have HZL:=aC (lX 2001 t)
 have HZM:=aC (jL 2001 t)
 have HTO:=aC (fun (j:Nat) (z:Zl) (h:(jE 2001 t)[j]?=some z)=>aR0 h)
 have hz:=lX 2001 t
 have hzl:(jE 2001 t).length<=2001:=by omega
 clear hz
 generalize jE 2001 t=Z at LA HZL HZM HTO hzl
 go_upto_region 5 with (go_at_call 36;refine(LA.out).mono ?_;rintro e w5 ⟨q5,k5,rfl,h51,h52⟩;have Z5:=aC h51;have B5:=aC h52;clear h51 h52)
 have M5:=aC ((B5.out.block _ (aB M1.out)).trans M1.out)
 have B6:=aC (aI B1.out B5.out lz9)
 clear c0 c1 c2 c3 c4 c5 LA B1 B5 N1 M1
 go_loopw [8,7,6] (fun i v g wr=>∃ (j gr:Nat) (q:Option Addr) (ca:Nat),j<=Z.length/\i=.int .i64 (j:Int)/\v=.slice q gr ca/\g=.int .i64 (gr:Int)/\RS w5 t c f j gr (.slice q gr ca) wr) (fun i _ _ _=>Z.length - (intOf i).toNat)
 case atStart=>exact⟨0,0,none,0,Nat.zero_le _,rfl,rfl,rfl,⟨Nat.zero_le _,rfl,World.ownsRow_nil _ _ _ _,Below.refl _ _,RG.nil c f⟩⟩
 case round=>
  obtain⟨j,gr,q,ca,hj,rfl,rfl,rfl,hs⟩:=hrel
  have HS:=aC hs
  have hgr:gr<=2000:=by
   have h1:=hs.cnt
   have h2:=zD ((pp [] t).take j)
   rw [List.length_take] at h2
   have:=hs.le
   omega
  have hj2:=hs.le
  clear hs
  by_cases hjl:j < Z.length
  case neg=>
   have i0:¬ (j:Int) < (Z.length:Int):=by omega
   have HD:=aC (show R=0 by
    rw [<- HR.out]
    have h1:=HZL.out
    have h2:=HS.out.ok
    rw [List.take_of_length_le (by omega)] at h2
    exact h2.all)
   have BX:=aC (aI B6.out HS.out.bel lz9)
   clear hjl
   go_wp2
   go_ret
   exact⟨congrArg (fun z=>Ending.returned (.int .i64 z)) HD.out.symm,BX.out⟩
  have i0:(j:Int) < (Z.length:Int):=by omega
  obtain⟨⟨x,o⟩,hx⟩:∃ z,Z[j]?=some z:=⟨_,List.getElem?_eq_getElem hjl⟩
  obtain⟨ga,cz,hq⟩:=aK Z5.out (by omega)
  injection hq with hq1 _ hq2
  subst hq1 hq2
  have YA:ZR W1.heap.size wr (.slice (some ⟨ga,0,none⟩) Z.length k5) Z:=aL Z5.out (Fr.of_below (S:=fun _=>False) HS.out.bel) (fun _ _ z=>z)
  have x0:wr.cell? ⟨ga,j * 12,none⟩=some (.int .i64 x.2.f.k):=YA.cells hx (j:=0) rfl
  have x1:wr.cell? ⟨ga,j * 12+1,none⟩=some (.int .i64 x.2.f.n):=YA.cells hx (j:=1) rfl
  have x2:wr.cell? ⟨ga,j * 12+2,none⟩=some (.int .i64 x.2.f.mn):=YA.cells hx (j:=2) rfl
  have x3:wr.cell? ⟨ga,j * 12+3,none⟩=some (.int .i64 x.2.f.mx):=YA.cells hx (j:=3) rfl
  have x4:wr.cell? ⟨ga,j * 12+4,none⟩=some (.slice x.2.f.rq x.2.f.rs.length x.2.f.rc):=YA.cells hx (j:=4) rfl
  have x5:wr.cell? ⟨ga,j * 12+5,none⟩=some (.slice x.2.f.kq x.2.f.kl x.2.f.kc):=YA.cells hx (j:=5) rfl
  have x6:wr.cell? ⟨ga,j * 12+6,none⟩=some (.int .i64 ((x.1.length:Int)+1)):=YA.cells hx (j:=6) rfl
  have x7:wr.cell? ⟨ga,j * 12+7,none⟩=some (.int .i64 (arP x.1)):=YA.cells hx (j:=7) rfl
  have x8:wr.cell? ⟨ga,j * 12+8,none⟩=some (.bool (fiP x.1)):=YA.cells hx (j:=8) rfl
  have x9:wr.cell? ⟨ga,j * 12+9,none⟩=some (.bool (laP x.1)):=YA.cells hx (j:=9) rfl
  have x10:wr.cell? ⟨ga,j * 12+10,none⟩=some (.bool (brP x.1)):=YA.cells hx (j:=10) rfl
  have x11:wr.cell? ⟨ga,j * 12+11,none⟩=some (.int .i64 (o:Int)):=YA.cells hx (j:=11) rfl
  have hxt:(pp [] t)[j]?=some x:=sH (j:=2001) (by rw [<- HZM.out,List.getElem?_map,hx];rfl)
  have HX:=aC hxt
  have HBR:=aC (bA4 (oW hxt) HS.out.ok)
  have HST:=aC (fun (m:Int) (h:bT c f x.1 x.2 j gr=m) (h0:m≠0)=>HR.out.symm.trans (HS.out.ok.stop hxt (by rw [HS.out.cnt];exact h) h0))
  have BW:=aC (aI B6.out HS.out.bel lz9)
  have HNA:=aC ((HTA.out.at (List.mem_of_getElem? hxt)).node.ck (CK.of_below BW.out))
  have HSL:=aC (HSM.out x (List.mem_of_getElem? hxt))
  have MW:=aC ((HS.out.bel.block _ (aB M5.out)).trans M5.out)
  have hdp:=rE (t:=t) (pre:=(pp [] t).take j) (x:=x) (oW hxt)
  rw [List.length_take] at hdp
  have hdp2:x.1.length<=2001:=by omega
  have lga:ga < wr.heap.size:=(aF YA (g:=ga) rfl).2.1
  have HYA:=aC YA
  clear hx hxt YA hdp
  go_upto_region 8 with fail
  have K2:=aC (show Below wr.heap.size wr (wr.alloc (.cells #[.int .i64 x.2.f.k,.int .i64 x.2.f.n,.int .i64 x.2.f.mn,.int .i64 x.2.f.mx,.slice x.2.f.rq x.2.f.rs.length x.2.f.rc,.slice x.2.f.kq x.2.f.kl x.2.f.kc,.int .i64 ((x.1.length:Int)+1),.int .i64 (arP x.1),.bool (fiP x.1),.bool (laP x.1),.bool (brP x.1),.int .i64 (o:Int)] 65)) from bz9)
  have P2:=aC (aE wr (.cells #[.int .i64 x.2.f.k,.int .i64 x.2.f.n,.int .i64 x.2.f.mn,.int .i64 x.2.f.mx,.slice x.2.f.rq x.2.f.rs.length x.2.f.rc,.slice x.2.f.kq x.2.f.kl x.2.f.kc,.int .i64 ((x.1.length:Int)+1),.int .i64 (arP x.1),.bool (fiP x.1),.bool (laP x.1),.bool (brP x.1),.int .i64 (o:Int)] 65))
  have M2:=aC ((K2.out.block _ (aB MW.out)).trans MW.out)
  have A2:=aC (HNA.out.ck (CK.of_below K2.out))
  clear x0 x1 x2 x3 x4 x5 x6 x7 x8 x9 x10 x11
  generalize (wr.alloc (.cells #[.int .i64 x.2.f.k,.int .i64 x.2.f.n,.int .i64 x.2.f.mn,.int .i64 x.2.f.mx,.slice x.2.f.rq x.2.f.rs.length x.2.f.rc,.slice x.2.f.kq x.2.f.kl x.2.f.kc,.int .i64 ((x.1.length:Int)+1),.int .i64 (arP x.1),.bool (fiP x.1),.bool (laP x.1),.bool (brP x.1),.int .i64 (o:Int)] 65))=W2 at K2 P2 M2 A2 ⊢
  obtain⟨b8,hb8⟩:∃ b8,wr.heap.size=b8:=⟨_,rfl⟩
  have HNB:=aC (show (Value.slice q gr ca).ownBlock≠some wr.heap.size from fun e=>absurd (aF HS.out.row e).2.1 (Nat.lt_irrefl _))
  rw [hb8] at P2 HNB ⊢
  clear hb8
  have B2:=aC (aI BW.out K2.out lz9)
  have p0:W2.cell? ⟨b8,0,none⟩=some (.int .i64 x.2.f.k):=aA P2.out (i:=0) rfl
  have p1:W2.cell? ⟨b8,1,none⟩=some (.int .i64 x.2.f.n):=aA P2.out (i:=1) rfl
  have p2:W2.cell? ⟨b8,2,none⟩=some (.int .i64 x.2.f.mn):=aA P2.out (i:=2) rfl
  have p3:W2.cell? ⟨b8,3,none⟩=some (.int .i64 x.2.f.mx):=aA P2.out (i:=3) rfl
  have p4:W2.cell? ⟨b8,4,none⟩=some (.slice x.2.f.rq x.2.f.rs.length x.2.f.rc):=aA P2.out (i:=4) rfl
  have p5:W2.cell? ⟨b8,5,none⟩=some (.slice x.2.f.kq x.2.f.kl x.2.f.kc):=aA P2.out (i:=5) rfl
  have p6:W2.cell? ⟨b8,6,none⟩=some (.int .i64 ((x.1.length:Int)+1)):=aA P2.out (i:=6) rfl
  have p7:W2.cell? ⟨b8,7,none⟩=some (.int .i64 (arP x.1)):=aA P2.out (i:=7) rfl
  have p8:W2.cell? ⟨b8,8,none⟩=some (.bool (fiP x.1)):=aA P2.out (i:=8) rfl
  have p9:W2.cell? ⟨b8,9,none⟩=some (.bool (laP x.1)):=aA P2.out (i:=9) rfl
  have p10:W2.cell? ⟨b8,10,none⟩=some (.bool (brP x.1)):=aA P2.out (i:=10) rfl
  have p11:W2.cell? ⟨b8,11,none⟩=some (.int .i64 (o:Int)):=aA P2.out (i:=11) rfl
  have m0:W2.cell? ⟨bm,0,none⟩=some (.bool c):=aA M2.out (i:=0) rfl
  have m1:W2.cell? ⟨bm,1,none⟩=some (.bool f):=aA M2.out (i:=1) rfl
  by_cases h2000:j=2000
  ·have e1:(2000:Int)<=(j:Int):=by omega
   have HD:=aC (show R=42 from HST.out 42 (by unfold bT;rw [if_pos h2000]) (by decide))
   clear h2000
   go_wp2
   go_ret
   exact⟨congrArg (fun z=>Ending.returned (.int .i64 z)) HD.out.symm,B2.out⟩
  have e1:¬ (2000:Int)<=(j:Int):=by omega
  have hj3:j < 2000:=by omega
  by_cases h40:40 < x.1.length+1
  ·have e2:(40:Int) < (x.1.length:Int)+1:=by omega
   have HD:=aC (show R=43 from HST.out 43 (by unfold bT;rw [if_neg h2000,if_pos h40]) (by decide))
   clear h2000 h40
   go_wp2
   go_ret
   exact⟨congrArg (fun z=>Ending.returned (.int .i64 z)) HD.out.symm,B2.out⟩
  have e2:¬ (40:Int) < (x.1.length:Int)+1:=by omega
  have FM:=aC (aP6 x.1 x.2 o c f A2.out HSL.out)
  have HL:=aC (show bT c f x.1 x.2 j gr=_ by rw [aI9 HBR.out,if_neg h2000,if_neg h40])
  clear h2000 h40
  go_upto_region 13 with (go_at_call 37;(with_reducible refine(FM.out).mono ?_);rintro e W3 ⟨b3,rfl,hb3,h3⟩;have I3:=aC hb3;have B3:=aC h3;clear hb3 h3)
  have K3:=aC (aI K2.out B3.out lz9)
  have BZ:=aC (aI B2.out B3.out lz9)
  have P3:=aC ((B3.out.block _ (aB P2.out)).trans P2.out)
  clear m0 m1 p0 p1 p2 p3 p4 p5 p6 p7 p8 p9 p10 p11 FM e2
  have p0:W3.cell? ⟨b8,0,none⟩=some (.int .i64 x.2.f.k):=aA P3.out (i:=0) rfl
  have p1:W3.cell? ⟨b8,1,none⟩=some (.int .i64 x.2.f.n):=aA P3.out (i:=1) rfl
  cases b3 with
  | false=>
   have HD:=aC (show R=50 from HST.out 50 (by rw [HL.out,if_pos (fun z=>by cases I3.out.2 z.1)]) (by decide))
   go_wp2
   go_ret
   exact⟨congrArg (fun z=>Ending.returned (.int .i64 z)) HD.out.symm,BZ.out⟩
  | true=>
   have HF:=aC (I3.out.1 rfl)
   by_cases h7:x.2.f.k=7
   ·have e7:(x.2.f.k==7)=true:=beq_iff_eq.2 h7
    have e8:(x.2.f.k==8)=false:=beq_eq_false_iff_ne.2 (by omega)
    have H7:=aC h7
    clear h7
    by_cases hn:x.2.f.n=(gr:Int)+1
    case neg=>
     have en:(x.2.f.n != (gr:Int)+1)=true:=bne_iff_ne.2 hn
     have HD:=aC (show R=50 from HST.out 50 (by rw [HL.out,if_pos (fun z=>hn (z.2 H7.out))]) (by decide))
     clear hn
     go_wp2
     go_ret
     exact⟨congrArg (fun z=>Ending.returned (.int .i64 z)) HD.out.symm,BZ.out⟩
    have en:(x.2.f.n != (gr:Int)+1)=false:=by simpa using hn
    have HN:=aC hn
    clear hn
    have R3:=aC (aL HS.out.row (Fr.of_below (S:=fun _=>False) K3.out) (fun _ _ z=>z))
    have S3:=aC (show w5.heap.size<=W3.heap.size from Nat.le_trans HS.out.bel.size K3.out.size)
    obtain⟨t0,hi,hz0,hz1,hz2⟩:=bB uD
    generalize hgp:fV ((fW 0 ((pp [] t).take j)).map Int.ofNat)=GP at R3
    have HGP:=aC hgp
    clear hgp
    go_upto_region 18 with (at_builtin;refine wpList_append_own_at _ rfl _ _ 44 rfl w5.heap.size 3 t0 (.int .i64 0) 1 8 tY hi hz0 hz1 hz2 rfl (by decide) (.slice q gr ca) gr GP rfl (World.ownsRow.alloc R3.out (.cells #[.int .i64 (j:Int)] 3)) ⟨W3.heap.size,0,none⟩ 1 1 [.int .i64 (j:Int)] rfl rfl (aZ5 _ _ _) (by simp [Value.oneCell']) (by unfold maxLen;omega) (by omega) (by have:=S3.out;simp;omega) ?_;intro v' w6 hown' hgrow _ hblk;obtain⟨g6,cap6,rfl⟩:=aK hown' (Nat.succ_pos _);have O6:=aC hown';have G6:=aC hgrow;clear hown' hgrow hblk)
    have L6:=aC (show Below w5.heap.size w5 w6 from aY (aI HS.out.bel K3.out lz9) (((Fr.refl (fun z=>(Value.slice q gr ca).ownBlock=some z) W3).alloc (.cells #[.int .i64 (j:Int)] 3)).grown G6.out (fun z hz=>hz)) lz9 (fun z hz=>(aF R3.out hz).1))
    have P6:=aC (show w6.heap[b8]?=some (.cells #[.int .i64 x.2.f.k,.int .i64 x.2.f.n,.int .i64 x.2.f.mn,.int .i64 x.2.f.mx,.slice x.2.f.rq x.2.f.rs.length x.2.f.rc,.slice x.2.f.kq x.2.f.kl x.2.f.kc,.int .i64 ((x.1.length:Int)+1),.int .i64 (arP x.1),.bool (fiP x.1),.bool (laP x.1),.bool (brP x.1),.int .i64 (o:Int)] 65 (0,0)) from (G6.out.block _ (by simp;have:=aB P3.out;omega) (fun e=>HNB.out e.symm)).trans ((Below.heap_alloc _ _ _ (aB P3.out)).trans P3.out))
    have p0':w6.cell? ⟨b8,0,none⟩=some (.int .i64 x.2.f.k):=aA P6.out (i:=0) rfl
    clear p0 p1
    by_cases h30:30 < gr+1
    ·have e3:(30:Int) < (gr:Int)+1:=by omega
     have HD:=aC (show R=42 from HST.out 42 (by rw [HL.out,if_neg (fun z=>z ⟨HF.out,fun _=>HN.out⟩),if_pos ⟨H7.out,by rw [HN.out];exact e3⟩]) (by decide))
     have BX:=aC (aI B6.out L6.out lz9)
     clear h30
     go_wp2
     go_ret
     exact⟨congrArg (fun z=>Ending.returned (.int .i64 z)) HD.out.symm,BX.out⟩
    have e3:¬ (30:Int) < (gr:Int)+1:=by omega
    have HD:=aC (show bT c f x.1 x.2 j gr=0 by rw [HL.out,if_neg (fun z=>z ⟨HF.out,fun _=>HN.out⟩),if_neg (fun z=>e3 (by have:=z.2;rw [HN.out] at this;exact this)),if_neg (fun z=>by have:=z.1;rw [H7.out] at this;cases this)])
    clear h30
    go_wp2
    go_roundw
    case rel=>exact⟨j+1,gr+1,_,_,by omega,by go_num,rfl,by go_num,HS.out.group HX.out hj3 HD.out H7.out (by rw [HGP.out];exact O6.out) L6.out⟩
    case measure=>simp only [intOf];omega
   have e7:(x.2.f.k==7)=false:=beq_eq_false_iff_ne.2 h7
   by_cases h8:x.2.f.k=8
   case neg=>
    have e8:(x.2.f.k==8)=false:=beq_eq_false_iff_ne.2 h8
    have HD:=aC (show bT c f x.1 x.2 j gr=0 by rw [HL.out,if_neg (fun z=>z ⟨HF.out,fun q=>absurd q h7⟩),if_neg (fun z=>h7 z.1),if_neg (fun z=>h8 z.1)])
    have H7:=aC h7
    clear h7 h8
    go_wp2
    go_roundw
    case rel=>exact⟨j+1,gr,_,_,by omega,by go_num,rfl,rfl,HS.out.next HX.out hj3 HD.out H7.out K3.out⟩
    case measure=>simp only [intOf];omega
   have e8:(x.2.f.k==8)=true:=beq_iff_eq.2 h8
   have HL8:=aC (show bT c f x.1 x.2 j gr=_ by rw [HL.out,if_neg (fun z=>z ⟨HF.out,fun q=>absurd q h7⟩),if_neg (fun z=>h7 z.1)])
   have hn1:1<=x.2.f.n:=by
    have:=HF.out.2
    unfold dV at this
    rw [if_neg (by omega),if_neg (by omega),if_neg (by omega),if_neg (by omega),if_pos h8] at this
    exact this.1.1
   have H7:=aC h7
   have H8:=aC h8
   clear h7 h8 HL
   by_cases hg:x.2.f.n<=(gr:Int)
   case neg=>
    have eg:(gr:Int) < x.2.f.n:=by omega
    have HD:=aC (show R=41 from HST.out 41 (by rw [HL8.out,if_pos ⟨H8.out,fun z=>hg z.2⟩]) (by decide))
    clear hg hn1
    go_wp2
    go_ret
    exact⟨congrArg (fun z=>Ending.returned (.int .i64 z)) HD.out.symm,BZ.out⟩
   have eg:¬ (gr:Int) < x.2.f.n:=by omega
   obtain⟨N,hN⟩:∃ N:Nat,x.2.f.n=(N:Int)+1:=⟨(x.2.f.n - 1).toNat,by omega⟩
   have HN:=aC hN
   have hNg:N < gr:=by omega
   have p1':W3.cell? ⟨b8,1,none⟩=some (.int .i64 ((N:Int)+1)):=by rw [<- hN];exact p1
   have eg':¬ (gr:Int) < (N:Int)+1:=by omega
   have hnn:x.2.f.n<=(gr:Int):=hg
   have HNN:=aC hnn
   clear p1 eg hg hn1 hN hnn
   obtain⟨jj,hjj,y,hy,hjj2,hiff⟩:=HS.out.back HX.out hj3 hNg
   have R3:=aL HS.out.row (Fr.of_below (S:=fun _=>False) K3.out) (fun _ _ z=>z)
   obtain⟨gb,cb,hqb⟩:=aK R3 (by omega)
   injection hqb with hqb1 _ hqb2
   subst hqb1 hqb2
   have a0:W3.cell? ⟨gb,N,none⟩=some (.int .i64 (jj:Int)):=by
    have:=aO R3 (j:=N) (u:=.int .i64 (jj:Int)) (aJ8 (by rw [List.getElem?_map,hjj];rfl))
    exact this
   obtain⟨zz,hzz⟩:∃ zz,Z[jj]?=some zz:=⟨_,List.getElem?_eq_getElem (by omega)⟩
   have hyz:zz.1=y:=by
    have h1:(pp [] t)[jj]?=some zz.1:=sH (j:=2001) (by rw [<- HZM.out,List.getElem?_map,hzz];rfl)
    rw [hy] at h1
    exact(Option.some.inj h1).symm
   have hto:=HTO.out jj zz hzz
   rw [hyz] at hto
   rw [<- hto] at hiff
   have Y3:ZR W1.heap.size W3 (.slice (some ⟨ga,0,none⟩) Z.length k5) Z:=aL HYA.out (Fr.of_below (S:=fun _=>False) K3.out) (fun _ _ z=>z)
   have a1:W3.cell? ⟨ga,jj * 12+11,none⟩=some (.int .i64 (zz.2:Int)):=Y3.cells hzz (j:=11) rfl
   generalize zz.2=tt at a1 hto hiff
   have lgb:gb < W3.heap.size:=(aF R3 (g:=gb) rfl).2.1
   have HIF:=aC hiff
   have hjz:jj < Z.length:=by omega
   clear R3 Y3 hjj hy hzz hyz hto hiff
   by_cases hto:tt<=j
   ·have et:¬ (j:Int) < (tt:Int):=by omega
    have HD:=aC (show bT c f x.1 x.2 j gr=0 by rw [HL8.out,if_neg (fun z=>z.2 ⟨by rw [HN.out];exact HIF.out.2 hto,HNN.out⟩)])
    clear hto
    go_wp2
    go_roundw
    case rel=>exact⟨j+1,gr,_,_,by omega,by go_num,rfl,rfl,HS.out.next HX.out hj3 HD.out H7.out K3.out⟩
    case measure=>simp only [intOf];omega
   ·have et:(j:Int) < (tt:Int):=by omega
    have HD:=aC (show R=41 from HST.out 41 (by rw [HL8.out,if_pos ⟨H8.out,fun z=>hto (HIF.out.1 (by rw [<- HN.out];exact z.1))⟩]) (by decide))
    clear hto
    go_wp2
    go_ret
    exact⟨congrArg (fun z=>Ending.returned (.int .i64 z)) HD.out.symm,BZ.out⟩
end
def wsg(x:El):List (Sg × Nat) × Sg:=(x.1.map fun z=>(sig z.1,z.2),sig x.2)
theorem wI(a:Tr):∀ (b:Tr) (p q:Way),(p.map fun z=>(sig z.1,z.2))=(q.map fun z=>(sig z.1,z.2))->er a=er b->(pp p a).map wsg=(pp q b).map wsg:=by
 refine Tr.ind (P:=fun a=>∀ (b:Tr) (p q:Way),(p.map fun z=>(sig z.1,z.2))=(q.map fun z=>(sig z.1,z.2))->er a=er b->(pp p a).map wsg=(pp q b).map wsg) (fun a ih b p q hp h=>?_) a
 have hs:=aG5 h
 obtain⟨-,-,-,-,-,h6⟩:=(nI a b).1 h
 have key:∀ (ks js:List Tr) (i:Nat),(∀ u∈ks,u∈a.ks)->ks.map er=js.map er->(pps a p i ks).map wsg=(pps b q i js).map wsg:=by
  intro ks
  induction ks with
  | nil=>
   intro js i _ hl
   cases js with
   | nil=>rw [bL,bL]
   | cons v js=>cases hl
  | cons u ks ihk=>
   intro js i hm hl
   cases js with
   | nil=>cases hl
   | cons v js=>
    rw [List.map_cons,List.map_cons] at hl
    injection hl with h1 h2
    rw [bH,bH,List.map_append,List.map_append,ih u (hm u List.mem_cons_self) v ((a,i) :: p) ((b,i) :: q) (by rw [List.map_cons,List.map_cons,hp,hs]) h1,ihk js _ (fun z hz=>hm z (List.mem_cons_of_mem _ hz)) h2]
 rw [cI,cI,List.map_cons,List.map_cons,key a.ks b.ks 0 (fun _ z=>z) h6]
 congr 1
 unfold wsg
 rw [hp,hs]
theorem rQ{n:Int}:∀ {p q:Way},(p.map fun z=>(sig z.1,z.2))=(q.map fun z=>(sig z.1,z.2))->gM p n=gM q n
 | [],[],_=>rfl
 | [],_ :: _,h=>by cases h
 | _ :: _,[],h=>by cases h
 | x :: p,y :: q,h=>by
  rw [List.map_cons,List.map_cons] at h
  injection h with h1 h2
  have ih:=rQ (n:=n) h2
  have hk:x.1.f.k=y.1.f.k:=congrArg (fun z:Sg × Nat=>z.1.1) h1
  have hn:x.1.f.n=y.1.f.n:=congrArg (fun z:Sg × Nat=>z.1.2.1) h1
  unfold gM at ih ⊢
  rw [List.any_cons,List.any_cons,ih,hk,hn]
theorem uA{k:Int}{p q:Way}(h:(p.map fun z=>(sig z.1,z.2))=(q.map fun z=>(sig z.1,z.2))):cW p k=cW q k:=by
 cases p with
 | nil=>
  cases q with
  | nil=>rfl
  | cons y q=>cases h
 | cons x p=>
  cases q with
  | nil=>cases h
  | cons y q=>
   rw [List.map_cons,List.map_cons] at h
   injection h with h1 h2
   obtain⟨a,i⟩:=x
   obtain⟨b,j⟩:=y
   have hk:a.f.k=b.f.k:=congrArg (fun z:Sg × Nat=>z.1.1) h1
   have hl:a.ks.length=b.ks.length:=congrArg (fun z:Sg × Nat=>z.1.2.2.2.2.2) h1
   have hi:i=j:=congrArg (fun z:Sg × Nat=>z.2) h1
   unfold cW
   simp only
   rw [hk,hl,hi]
theorem xO{c f:Bool}{x y:El}{i g:Nat}(h:wsg x=wsg y):bT c f x.1 x.2 i g=bT c f y.1 y.2 i g:=by
 have hp:(x.1.map fun z=>(sig z.1,z.2))=(y.1.map fun z=>(sig z.1,z.2)):=congrArg (fun z:List (Sg × Nat) × Sg=>z.1) h
 have hs:sig x.2=sig y.2:=congrArg (fun z:List (Sg × Nat) × Sg=>z.2) h
 have hl:x.1.length=y.1.length:=by have:=congrArg List.length hp;rwa [List.length_map,List.length_map] at this
 have k1:x.2.f.k=y.2.f.k:=congrArg (fun z:Sg=>z.1) hs
 have k2:x.2.f.n=y.2.f.n:=congrArg (fun z:Sg=>z.2.1) hs
 have k3:x.2.f.mn=y.2.f.mn:=congrArg (fun z:Sg=>z.2.2.1) hs
 have k4:x.2.f.mx=y.2.f.mx:=congrArg (fun z:Sg=>z.2.2.2.1) hs
 have k5:x.2.f.rs=y.2.f.rs:=congrArg (fun z:Sg=>z.2.2.2.2.1) hs
 have k6:x.2.ks.length=y.2.ks.length:=congrArg (fun z:Sg=>z.2.2.2.2.2) hs
 have hf:aZ c f ((g:Int)+1) x.2.f=aZ c f ((g:Int)+1) y.2.f:=by
  unfold aZ
  rw [k1,k2,k3,k4,k5]
 unfold bT
 rw [uA hp,rQ hp,hf,hl,k1,k2,k6]
theorem nP{c f:Bool}:∀ {l m:List El} (i g:Nat),l.map wsg=m.map wsg->aT c f i g l=aT c f i g m
 | [],[],_,_,_=>rfl
 | [],_ :: _,_,_,h=>by cases h
 | _ :: _,[],_,_,h=>by cases h
 | x :: l,y :: m,i,g,h=>by
  rw [List.map_cons,List.map_cons] at h
  injection h with h1 h2
  have hk:x.2.f.k=y.2.f.k:=congrArg (fun z:List (Sg × Nat) × Sg=>z.2.1) h1
  simp only [aT]
  rw [xO h1,hk,nP _ _ h2]
theorem pT{c f:Bool}{a b:Tr}(h:er a=er b):aT c f 0 0 (pp [] a)=aT c f 0 0 (pp [] b):=nP 0 0 (wI a b [] [] rfl h)
section
open Go Go.RowKit Go.Shelf Go.Lib
theorem aL7(d:Array Int)(hs:∀ j,j+1 < d.size->d[j]! <= d[j+1]!):∀ m,m<=d.size->(∀ x,x∈compactUpTo d m ↔ ∃ j,j < m/\d[j]! = x)/\(compactUpTo d m).Pairwise (· < ·)/\(∀ x∈compactUpTo d m,x<=d[m-1]!)
 | 0,_=>by simp [compactUpTo]
 | m+1,hm=>by
  obtain⟨h1,h2,h3⟩:=aL7 d hs m (by omega)
  rw [compactUpTo_succ]
  by_cases hk:keeps d m=true
  ·rw [if_pos hk]
   have hlt:∀ x∈compactUpTo d m,x < d[m]!:=by
    intro x hx
    cases m with
    | zero=>simp [compactUpTo] at hx
    | succ m=>
     have a:=h3 x hx
     have b:=hs m (by omega)
     have c:d[m+1]! ≠ d[m]!:=by
      unfold keeps at hk
      have:=of_decide_eq_true hk
      rcases this with e | e
      ·omega
      ·exact e
     simp only [Nat.add_sub_cancel] at a
     omega
   refine⟨fun x=>?_,?_,fun x hx=>?_⟩
   ·rw [List.mem_append,h1]
    constructor
    ·rintro (⟨j,a,b⟩ | hx)
     ·exact⟨j,by omega,b⟩
     ·exact⟨m,by omega,(List.mem_singleton.1 hx).symm⟩
    ·rintro ⟨j,a,b⟩
     by_cases e:j=m
     ·subst e;exact .inr (List.mem_singleton.2 b.symm)
     ·exact .inl ⟨j,by omega,b⟩
   ·rw [List.pairwise_append]
    exact⟨h2,List.pairwise_singleton _ _,fun x hx y hy=>by rw [List.mem_singleton.1 hy];exact hlt x hx⟩
   ·rw [Nat.add_sub_cancel]
    rcases List.mem_append.1 hx with e | e
    ·exact Int.le_of_lt (hlt x e)
    ·rw [List.mem_singleton.1 e];exact Int.le_refl _
  ·rw [if_neg hk,List.append_nil]
   have hm0:m≠0:=fun e=>hk (by subst e;simp [keeps])
   have he:d[m]! = d[m - 1]!:=by
    apply Classical.byContradiction
    intro e
    exact hk (by simp [keeps,e])
   refine⟨fun x=>?_,h2,fun x hx=>?_⟩
   ·rw [h1]
    constructor
    ·rintro ⟨j,a,b⟩;exact⟨j,by omega,b⟩
    ·rintro ⟨j,a,b⟩
     by_cases e:j=m
     ·subst e;exact⟨j - 1,by omega,by rw [<- he];exact b⟩
     ·exact⟨j,by omega,b⟩
   ·rw [Nat.add_sub_cancel,he];exact h3 x hx
theorem aI6:∀ (a b:List Int),a.Pairwise (· < ·)->b.Pairwise (· < ·)->(∀ x,x∈a ↔ x∈b)->a=b
 | [],[],_,_,_=>rfl
 | [],y :: b,_,_,h=>absurd ((h y).2 (by simp)) (by simp)
 | x :: a,[],_,_,h=>absurd ((h x).1 (by simp)) (by simp)
 | x :: a,y :: b,ha,hb,h=>by
  rw [List.pairwise_cons] at ha hb
  have e:x=y:=by
   have p:=(h x).1 (by simp)
   have q:=(h y).2 (by simp)
   rcases List.mem_cons.1 p with e | e
   ·exact e
   ·rcases List.mem_cons.1 q with f | f
    ·exact f.symm
    ·have:=hb.1 x e;have:=ha.1 y f;omega
  subst e
  rw [aI6 a b ha.2 hb.2 fun z=>?_]
  constructor
  ·intro hz
   have:=(h z).1 (List.mem_cons_of_mem _ hz)
   rcases List.mem_cons.1 this with e | e
   ·have:=ha.1 z hz;omega
   ·exact e
  ·intro hz
   have:=(h z).2 (List.mem_cons_of_mem _ hz)
   rcases List.mem_cons.1 this with e | e
   ·have:=hb.1 z hz;omega
   ·exact e
theorem vH(zs:List Int):(∀ x,x∈compact (zs.mergeSort fun x y=>decide (x<=y)) ↔ x∈zs)/\(compact (zs.mergeSort fun x y=>decide (x<=y))).Pairwise (· < ·):=by
 have hp:(zs.mergeSort fun x y=>decide (x<=y)).Pairwise (fun a b=>decide (a<=b)=true):=List.pairwise_mergeSort (le:=fun x y=>decide (x<=y)) (fun a b c=>by simp;omega) (fun a b=>by simp;omega) zs
 obtain⟨h1,h2,-⟩:=aL7 (zs.mergeSort fun x y=>decide (x<=y)).toArray (fun j hj=>by
  have hj':j+1 < (zs.mergeSort fun x y=>decide (x<=y)).length:=by simpa using hj
  have:=List.pairwise_iff_getElem.1 hp j (j+1) (by omega) hj' (by omega)
  have:=of_decide_eq_true this
  rw [getElem!_pos _ j (by simp at hj ⊢;omega),getElem!_pos _ (j+1) (by simpa using hj)]
  simpa using this) _ lz9
 refine⟨fun x=>?_,?_⟩
 ·unfold compact
  rw [show (zs.mergeSort fun x y=>decide (x<=y)).length=(zs.mergeSort fun x y=>decide (x<=y)).toArray.size by simp,h1]
  rw [<- List.mem_mergeSort (le:=fun x y=>decide (x<=y)) (l:=zs)]
  constructor
  ·rintro ⟨j,a,b⟩
   rw [<- b,getElem!_pos (zs.mergeSort fun x y=>decide (x<=y)).toArray j a]
   simp
  ·intro hx
   obtain⟨j,hj,e⟩:=List.getElem_of_mem hx
   exact⟨j,by simpa using hj,by rw [getElem!_pos _ _ (by simpa using hj)];simpa using e⟩
 ·unfold compact
  rw [show (zs.mergeSort fun x y=>decide (x<=y)).length=(zs.mergeSort fun x y=>decide (x<=y)).toArray.size by simp]
  exact h2
def usN(L:List El)(k:Nat):List Int:=((List.range k).map fun i:Nat=>((i:Int)+1)).filter fun i=>decide (i∈bks L)
theorem tX(L:List El)(k:Nat):usN L (k+1)=usN L k ++ (if ((k:Int)+1)∈bks L then [(k:Int)+1] else []):=by
 unfold usN
 rw [List.range_succ,List.map_append,List.filter_append]
 congr 1
 by_cases h:((k:Int)+1)∈bks L <;> simp [h]
theorem yE(L:List El)(k:Nat):(usN L k).length<=k:=by
 unfold usN
 refine Nat.le_trans (List.length_filter_le _ _) ?_
 simp
theorem aF3(L:List El):∀ k,(usN L k).Pairwise (· < ·)/\(∀ x,x∈usN L k ↔ x∈bks L/\1<=x/\x<=k)
 | 0=>by
  refine⟨by simp [usN],fun x=>?_⟩
  simp [usN]
  omega
 | k+1=>by
  obtain⟨h1,h2⟩:=aF3 L k
  rw [tX]
  by_cases h:((k:Int)+1)∈bks L
  ·rw [if_pos h,List.pairwise_append]
   refine⟨⟨h1,List.pairwise_singleton _ _,fun x hx y hy=>?_⟩,fun x=>?_⟩
   ·rw [List.mem_singleton.1 hy]
    have:=((h2 x).1 hx).2.2
    omega
   ·rw [List.mem_append,h2,List.mem_singleton]
    constructor
    ·rintro (⟨a,b,c⟩ | e)
     ·exact⟨a,b,by omega⟩
     ·subst e;exact⟨h,by omega,by omega⟩
    ·rintro ⟨a,b,c⟩
     by_cases e:x=(k:Int)+1
     ·exact .inr e
     ·exact .inl ⟨a,b,by omega⟩
  ·rw [if_neg h,List.append_nil]
   refine⟨h1,fun x=>?_⟩
   rw [h2]
   constructor
   ·rintro ⟨a,b,c⟩;exact⟨a,b,by omega⟩
   ·rintro ⟨a,b,c⟩
    refine⟨a,b,?_⟩
    have:x≠(k:Int)+1:=fun e=>h (e ▸ a)
    omega
theorem aQ9{L:List El}{x:Int}:x∈bks L ↔ ∃ z∈L,z.2.f.k=8/\z.2.f.n=x:=by
 unfold bks
 rw [List.mem_flatMap]
 constructor
 ·rintro ⟨z,hz,h⟩
  by_cases hk:z.2.f.k=8
  ·rw [if_pos hk] at h
   exact⟨z,hz,hk,(List.mem_singleton.1 h).symm⟩
  ·rw [if_neg hk] at h;cases h
 ·rintro ⟨z,hz,hk,e⟩
  exact⟨z,hz,by rw [if_pos hk,e];simp⟩
theorem aF1{c o:Bool}{t:Tr}(h:aT c o 0 0 (pp [] t)=0):usd t=usN (pp [] t) 9:=by
 obtain⟨a1,a2⟩:=vH (bks (pp [] t))
 obtain⟨b1,b2⟩:=aF3 (pp [] t) 9
 refine aI6 _ _ a2 b1 fun x=>?_
 show x∈compact ((bks (pp [] t)).mergeSort fun x y=>decide (x<=y)) ↔ _
 rw [a1,b2]
 constructor
 ·intro hx
  refine⟨hx,?_⟩
  obtain⟨z,hz,hk,e⟩:=aQ9.1 hx
  have:=(((aX z.2).1 (pS t [] (gI h) z hz)).1).1
  unfold dV at this
  rw [hk] at this
  simp at this
  subst e
  exact⟨this.1.1,this.1.2⟩
 ·exact fun h=>h.1
end
section
attribute [local go_sem] Oper.semAt_some bC
def Sm(t:Tr):Prop:=∀ x∈pp [] t,x.2.f.rs.length<=1048580
theorem nB{w:World}{t:Tr}(c o:Bool)(hta:TB w t)(hsm:Sm t):Calls Tryz.prog 38 #[.agg #[.int .i64 t.f.k,.int .i64 t.f.n,.int .i64 t.f.mn,.int .i64 t.f.mx,.slice t.f.rq t.f.rs.length t.f.rc,.slice t.f.kq t.f.kl t.f.kc],.agg #[.bool c,.bool o]] w fun e w'=>e=.returned (.bool (decide (aT c o 0 0 (pp [] t)=0)))/\Below w.heap.size w w':=by
 have B1:Hid (Below w.heap.size w ((w.alloc (.cells #[.int .i64 t.f.k,.int .i64 t.f.n,.int .i64 t.f.mn,.int .i64 t.f.mx,.slice t.f.rq t.f.rs.length t.f.rc,.slice t.f.kq t.f.kl t.f.kc] 25)).alloc (.cells #[.bool c,.bool o] 27))):=(bz9).alloc (by simp) _
 have X1:Hid (BoxN ((w.alloc (.cells #[.int .i64 t.f.k,.int .i64 t.f.n,.int .i64 t.f.mn,.int .i64 t.f.mx,.slice t.f.rq t.f.rs.length t.f.rc,.slice t.f.kq t.f.kl t.f.kc] 25)).alloc (.cells #[.bool c,.bool o] 27)) w.heap.size t.f):=(Below.heap_alloc _ _ _ (by simp)).trans (aE w _)
 have X2:Hid (((w.alloc (.cells #[.int .i64 t.f.k,.int .i64 t.f.n,.int .i64 t.f.mn,.int .i64 t.f.mx,.slice t.f.rq t.f.rs.length t.f.rc,.slice t.f.kq t.f.kl t.f.kc] 25)).alloc (.cells #[.bool c,.bool o] 27)).heap[w.heap.size+1]?=some (.cells #[.bool c,.bool o] 27 (0,0))):=aJ _ (by simp only [World.size_alloc])
 have HTA:=aC hta
 have HSM:=aC hsm
 clear hta hsm
 go_enter Tryz.func38,Tryz.ntmps38
 go_upto_region 1 with fail
 generalize ((w.alloc (.cells #[.int .i64 t.f.k,.int .i64 t.f.n,.int .i64 t.f.mn,.int .i64 t.f.mx,.slice t.f.rq t.f.rs.length t.f.rc,.slice t.f.kq t.f.kl t.f.kc] 25)).alloc (.cells #[.bool c,.bool o] 27))=w1 at B1 X1 X2 ⊢
 obtain⟨n0,n1,n2,n3,n4,n5⟩:=X1.out.six
 simp only [Nat.zero_add] at n1 n2 n3 n4 n5
 have a0:=aA X2.out (i:=0) rfl
 have a1:=aA X2.out (i:=1) rfl
 have RT:=aC (aP1 c o (HTA.out.kept B1.out) HSM.out)
 obtain⟨r,hr⟩:∃ r,aT c o 0 0 (pp [] t)=r:=⟨_,rfl⟩
 have HR:=aC hr
 rw [hr] at RT
 clear hr
 go_wp2_with (go_at_call 10;refine(RT.out).mono ?_;rintro e w2 ⟨rfl,h2⟩;have B2:=aC (aI B1.out h2 lz9);clear h2)
 go_ret
 refine⟨?_,B2.out⟩
 rw [HR.out]
 by_cases h:r=0
 ·subst h;rfl
 ·have h1:(r==0)=false:=by simpa using h
  simp [h,h1]
end
section
attribute [local go_sem] Oper.semAt_some bC
def sG(c:Bool)(t:Tr):Int:=evG (dY c) (fun _=>0) t
theorem aH0(c:Bool)(t:Tr):sG c t=min (bV c t.f (t.ks.map (sG c))) 10001:=by
 have:=aY7 (ρ:=dY c) (fun _=>0) t
 rw [aK8] at this
 exact this
theorem yG(c o:Bool):∀ (m:Nat) (t:Tr),t.sz<=m->t.sz<=2000->bM (NP c o) t->eV (sG c t)
 | 0,t,h,_,_=>absurd h (by have:=eJ t;omega)
 | m+1,t,h,h2,hev=>by
  have hx:∀ x∈t.ks.map (sG c),eV x:=fun x hx=>by
   obtain⟨u,hu,rfl⟩:=List.mem_map.1 hx
   exact yG c o m u (by have:=cM hu;omega) (by have:=cM hu;omega) (bD hev hu)
  have:=rF t (t.ks.map (sG c)) (fun _=>0) ((aX t).1 hev).1 (by simp) hx (fun _=>⟨by omega,by omega⟩)
  rw [aH0]
  exact this
theorem aG0{l:List Tr}{p:Tr->Int}{j:Nat}{x:Tr}(hx:l[j]?=some x):((l.take (j+1)).map p).sum=((l.take j).map p).sum+p x:=by
 rw [List.take_add_one,hx,Option.toList_some,List.map_append,List.sum_append]
 simp
theorem aT9(c:Bool):∀ (m:Nat) (t:Tr),t.sz<=m->∀ g,(ev (dY c) g t).1=sG c t
 | 0,t,h=>absurd h (by have:=eJ t;omega)
 | m+1,t,h=>fun g=>by
  have hs:∀ (ks:List Tr),(∀ u∈ks,∀ g,(ev (dY c) g u).1=sG c u)->∀ g,(evs (dY c) g ks).1=ks.map (sG c):=fun ks=>by
   induction ks with
   | nil=>intro _ g;rw [cV];rfl
   | cons u ks ih=>
    intro h g
    rw [eR,List.map_cons,h u (by simp) g]
    simp only
    rw [ih (fun v hv=>h v (by simp [hv]))]
  rw [iW,aH0,hs t.ks (fun u hu=>aT9 c m u (by have:=cM hu;omega))]
  rfl
theorem aV2(c o:Bool)(t:Tr):tvI (dY c) c o t=if aT c o 0 0 (pp [] t)=0 then sG c t else 0:=by
 unfold tvI
 rw [aT9 c t.sz t lz9]
def wN(c:Bool)(l:List (Int × Int)):Int:=if c then wide l else 0
def nN(c:Bool)(l:List (Int × Int)):Int:=if c then fP l else if l.length=0 then 0 else 1
def hiN(c:Bool)(r:Int × Int):Bool:=c && decide (127 < r.2)
theorem aN5(c:Bool)(l:List (Int × Int))(r:Int × Int):wN c (l ++ [r])=if hiN c r then wN c l+16 else wN c l:=by
 unfold wN wide hiN
 cases c
 ·simp
 ·by_cases h:127 < r.2 <;> simp [h,List.filter_append];omega
theorem aQ8(c:Bool)(l:List (Int × Int))(r:Int × Int):nN c (l ++ [r])=if hiN c r then nN c l else 1:=by
 unfold nN fP hiN
 cases c
 ·simp
 ·by_cases h:127 < r.2
  ·have h2:decide (r.2<=127)=false:=by simp;omega
   have h3:decide (127 < r.2)=true:=by simpa using h
   simp only [if_true,Bool.true_and,h3,List.any_append,List.any_cons,List.any_nil,h2,Bool.or_false]
  ·have:r.2<=127:=by omega
   simp [h,this]
theorem aZ3(c:Bool)(l:List (Int × Int)):0<=wN c l/\wN c l<=16 * (l.length:Int):=by
 unfold wN wide
 cases c
 ·simp;omega
 ·have:=List.length_filter_le (fun r:Int × Int=>decide (127 < r.2)) l
  simp only [if_true]
  omega
theorem aZ6(c:Bool)(l:List (Int × Int)):0<=nN c l/\nN c l<=1:=by
 unfold nN fP
 repeat' split
 all_goals omega
theorem aO7(c:Bool)(l:List (Int × Int)):max (wN c l+nN c l) 1=lJ c l:=by
 unfold wN nN lJ
 cases c
 ·simp only [Bool.false_eq_true,if_false];split <;> omega
 ·rfl
def Bx2(w V:World)(f:Fl)(c o:Bool):Prop:=Below w.heap.size w V/\BoxN V w.heap.size f/\V.heap[w.heap.size+1]?=some (.cells #[.bool c,.bool o] 27 (0,0))
theorem Bx2.kept{w V V':World}{f:Fl}{c o:Bool}(h:Bx2 w V f c o)(hb:Below V.heap.size V V'):Bx2 w V' f c o:=⟨aI h.1 hb lz9,(hb.block _ (aB h.2.1)).trans h.2.1,(hb.block _ (aB h.2.2)).trans h.2.2⟩
theorem zJ(c o:Bool):∀ (m:Nat) (t:Tr) (w:World),t.sz<=m->t.sz<=2000->TB w t->bM (NP c o) t->Calls Tryz.prog 39 #[.agg #[.int .i64 t.f.k,.int .i64 t.f.n,.int .i64 t.f.mn,.int .i64 t.f.mx,.slice t.f.rq t.f.rs.length t.f.rc,.slice t.f.kq t.f.kl t.f.kc],.agg #[.bool c,.bool o]] w fun e w'=>e=.returned (.int .i64 (sG c t))/\Below w.heap.size w w'
 | 0,t,_,h,_,_,_=>absurd h (by have:=eJ t;omega)
 | m+1,t,w,hm,hsz,hta,hev=>by
  have IH:Hid (∀ (u:Tr) (W:World),u∈t.ks->Below w.heap.size w W->Calls Tryz.prog 39 #[.agg #[.int .i64 u.f.k,.int .i64 u.f.n,.int .i64 u.f.mn,.int .i64 u.f.mx,.slice u.f.rq u.f.rs.length u.f.rc,.slice u.f.kq u.f.kl u.f.kc],.agg #[.bool c,.bool o]] W fun e w'=>e=.returned (.int .i64 (sG c u))/\Below W.heap.size W w'):=fun u W hu hW=>zJ c o m u W (by have:=cM hu;omega) (by have:=cM hu;omega) ((hta.kept hW).kid hu) (bD hev hu)
  have GD:Hid (∀ u∈t.ks,eV (sG c u)):=fun u hu=>yG c o m u (by have:=cM hu;omega) (by have:=cM hu;omega) (bD hev hu)
  have hnp:NP c o t:=((aX t).1 hev).1
  have hnb:=hta.node
  have HNB:=aC hnb
  have HKL:=aC hnb.kl
  have HLN:Hid (t.ks.length<=2000):=by have h1:=eB t.ks;have h2:=jH t;exact aC (by omega)
  obtain⟨q1,cap1,eq1,-,-,hk3⟩:=hnb.k.slice
  injection eq1 with eq1 eq2 eq3
  subst eq1 eq3
  have HK3:=aC hk3
  have SM:Hid (∀ j,0<=((t.ks.take j).map (sG c)).sum/\((t.ks.take j).map (sG c)).sum<=20002000):=fun j=>by
   have h1:=oZ (l:=(t.ks.take j).map (sG c)) (fun x hx=>by
    obtain⟨u,hu,rfl⟩:=List.mem_map.1 hx
    exact GD.out u (List.mem_of_mem_take hu))
   have h2:((t.ks.take j).map (sG c)).length<=2000:=by rw [List.length_map,List.length_take];have:=HLN.out;omega
   omega
  have X1:Hid (Bx2 w ((w.alloc (.cells #[.int .i64 t.f.k,.int .i64 t.f.n,.int .i64 t.f.mn,.int .i64 t.f.mx,.slice t.f.rq t.f.rs.length t.f.rc,.slice t.f.kq t.f.kl t.f.kc] 25)).alloc (.cells #[.bool c,.bool o] 27)) t.f c o):=⟨(bz9).alloc (by simp) _,(Below.heap_alloc _ _ _ (by simp)).trans (aE w _),aJ _ (by simp only [World.size_alloc])⟩
  clear hta hev hnb hm hk3 eq2 hsz
  go_enter Tryz.func39,Tryz.ntmps39
  go_upto_region 3 with fail
  generalize hV:(w.alloc (.cells #[.int .i64 t.f.k,.int .i64 t.f.n,.int .i64 t.f.mn,.int .i64 t.f.mx,.slice t.f.rq t.f.rs.length t.f.rc,.slice t.f.kq t.f.kl t.f.kc] 25)).alloc (.cells #[.bool c,.bool o] 27)=V at X1 ⊢
  clear hV
  go_loopw [5,6] (fun s i wr=>∃ j:Nat,j<=t.ks.length/\s=.int .i64 ((t.ks.take j).map (sG c)).sum/\i=.int .i64 (j:Int)/\Bx2 w wr t.f c o) (fun _ i _=>t.ks.length - (intOf i).toNat)
  case atStart=>exact⟨0,Nat.zero_le _,rfl,rfl,X1.out⟩
  case round=>
   obtain⟨j,hj,rfl,rfl,hx⟩:=hrel
   have XW:=aC hx
   clear hx
   have hln:=HLN.out
   obtain⟨S,hS⟩:∃ S,((t.ks.take j).map (sG c)).sum=S:=⟨_,rfl⟩
   have hS1:=SM.out j
   rw [hS] at hS1 ⊢
   have HS:=aC hS
   clear hS
   obtain⟨n0,n1,n2,n3,n4,n5⟩:=XW.out.2.1.six
   simp only [Nat.zero_add] at n1 n2 n3 n4 n5
   have a0:=aA XW.out.2.2 (i:=0) rfl
   have a1:=aA XW.out.2.2 (i:=1) rfl
   by_cases hjl:j < t.ks.length
   ·obtain⟨u,hu⟩:∃ u,t.ks[j]?=some u:=⟨_,List.getElem?_eq_getElem hjl⟩
    have hi:(j:Int) < (t.f.kl:Int):=by rw [HKL.out];omega
    have DN:=aC (aG0 (p:=sG c) hu)
    have hin:=List.mem_of_getElem? hu
    have hg:=GD.out u hin
    obtain⟨X,hX⟩:∃ X,sG c u=X:=⟨_,rfl⟩
    have CU:Hid (∀ W,Below wr.heap.size wr W->Calls Tryz.prog 39 #[.agg #[.int .i64 u.f.k,.int .i64 u.f.n,.int .i64 u.f.mn,.int .i64 u.f.mx,.slice u.f.rq u.f.rs.length u.f.rc,.slice u.f.kq u.f.kl u.f.kc],.agg #[.bool c,.bool o]] W fun e w'=>e=.returned (.int .i64 X)/\Below W.heap.size W w'):=fun W hW=>by
     have:=IH.out u W hin (aI XW.out.1 hW lz9)
     rw [hX] at this
     exact this
    rw [hX] at DN hg
    rw [HS.out] at DN
    unfold eV at hg
    obtain⟨gq,off,hq,hgl,six⟩:=HK3.out j u hu
    rw [hq] at n5
    clear hq
    obtain⟨c0,c1,c2,c3,c4,c5⟩:=six.ck (CK.of_below XW.out.1) hgl
    have l0:w.heap.size < wr.heap.size:=aB XW.out.2.1
    have l1:w.heap.size+1 < wr.heap.size:=aB XW.out.2.2
    have l2:gq < wr.heap.size:=by omega
    have w1:wrap64 (S+X)=S+X:=by unfold wrap64;omega
    have w2:IntKind.wrap .i64 (S+X)=S+X:=by rw [IntKind.wrap_i64];omega
    clear hu six hX
    go_upto_region 5 with fail
    refine wx9 ?_
    repeat (go_big_quiet_step (first | exact rfl |(go_at_call 39;exact cB (CU.out _ (eZ _)))))
    refine wpQuiet_nil ?_
    intro w3 hw
    have X3:=aC (XW.out.kept (aP hw))
    clear hw
    go_wp2
    go_roundw
    case rel=>exact⟨j+1,by omega,by rw [DN.out],by go_num,X3.out⟩
    case measure=>simp only [intOf];omega
   ·have hi:¬ (j:Int) < (t.f.kl:Int):=by rw [HKL.out];omega
    have HSE:Hid ((t.ks.map (sG c)).sum=S):=by have:=HS.out;rw [List.take_of_length_le (by omega)] at this;exact aC this
    have HKI:(t.f.kl:Int)=(t.ks.length:Int):=by rw [HKL.out]
    have hv0:=aC (aH0 c t)
    clear HS
    rcases iE hnp with hk | hk | hk | hk | hk | hk | hk | hk | hk
    ·have hv:Hid (sG c t=1):=aC (by rw [hv0.out,show bV c t.f (t.ks.map (sG c))=1 by unfold bV;rw [hk];simp];decide)
     have e2:(t.f.k==2)=false:=by rw [hk];rfl
     have e5:(t.f.k==5)=false:=by rw [hk];rfl
     have e6:(t.f.k==6)=false:=by rw [hk];rfl
     have e7:(t.f.k==7)=false:=by rw [hk];rfl
     have e9:(t.f.k==9)=false:=by rw [hk];rfl
     clear hk hnp
     go_wp2
     go_ret
     exact⟨by rw [hv.out];rfl,XW.out.1⟩
    ·have hset:=pM hnp hk
     have hk0:t.ks.length=0:=by have:=hnp.1;unfold dV at this;rw [hk] at this;simp at this;simp [this.2.2.2.2]
     have hS0:S=0:=by rw [<- HSE.out,List.length_eq_zero_iff.1 hk0];rfl
     subst hS0
     have hrl:=lK hset.1
     have hv:Hid (sG c t=min (max (wN c t.f.rs+nN c t.f.rs) 1) 10001):=aC (by rw [hv0.out,aO7];unfold bV;rw [hk];rfl)
     have HRL:=aC hrl
     have e2:(t.f.k==2)=true:=by rw [hk];rfl
     have e5:(t.f.k==5)=false:=by rw [hk];rfl
     have e6:(t.f.k==6)=false:=by rw [hk];rfl
     have e7:(t.f.k==7)=false:=by rw [hk];rfl
     have e9:(t.f.k==9)=false:=by rw [hk];rfl
     clear hk hnp HKI hset hk0 hrl
     go_upto_region 21 with fail
     clear n0 n1 n2 n3 n4 n5 a0 a1
     go_loopw [5,8,9] (fun s l i wr=>∃ j:Nat,j<=t.f.rs.length/\s=.int .i64 (wN c (t.f.rs.take j))/\l=.int .i64 (nN c (t.f.rs.take j))/\i=.int .i64 (j:Int)/\Bx2 w wr t.f c o) (fun _ _ i _=>t.f.rs.length - (intOf i).toNat)
     case atStart=>exact⟨0,Nat.zero_le _,by cases c <;> rfl,by cases c <;> rfl,rfl,XW.out⟩
     case round=>
      obtain⟨k,hkj,rfl,rfl,rfl,hx2⟩:=hrel
      have XV:=aC hx2
      clear hx2
      have hrl:=HRL.out
      obtain⟨A,hA⟩:∃ A,wN c (t.f.rs.take k)=A:=⟨_,rfl⟩
      obtain⟨N,hN⟩:∃ N,nN c (t.f.rs.take k)=N:=⟨_,rfl⟩
      have hA1:=aZ3 c (t.f.rs.take k)
      have hN1:=aZ6 c (t.f.rs.take k)
      have hlt:((t.f.rs.take k).length:Int)<=600000:=by rw [List.length_take];omega
      rw [hA] at hA1 ⊢
      rw [hN] at hN1 ⊢
      have HA:=aC hA
      have HN:=aC hN
      clear hA hN
      obtain⟨n0,n1,n2,n3,n4,n5⟩:=XV.out.2.1.six
      simp only [Nat.zero_add] at n1 n2 n3 n4 n5
      have a0:=aA XV.out.2.2 (i:=0) rfl
      have a1:=aA XV.out.2.2 (i:=1) rfl
      by_cases hkl:k < t.f.rs.length
      ·obtain⟨⟨ra,rb⟩,hr⟩:∃ r,t.f.rs[k]?=some r:=⟨_,List.getElem?_eq_getElem hkl⟩
       have hi2:(k:Int) < (t.f.rs.length:Int):=by omega
       have ht1:t.f.rs.take (k+1)=t.f.rs.take k ++ [(ra,rb)]:=by rw [List.take_add_one,hr];rfl
       have D1:=aC (show wN c (t.f.rs.take (k+1))=if hiN c (ra,rb) then A+16 else A by rw [ht1,aN5,HA.out])
       have D2:=aC (show nN c (t.f.rs.take (k+1))=if hiN c (ra,rb) then N else 1 by rw [ht1,aQ8,HN.out])
       have HAR:=aC (HNB.out.r.kept XV.out.1)
       obtain⟨q2,cap2,eq2,-,-,hcell⟩:=HAR.out.slice
       injection eq2 with eq2 eq3 eq4
       subst eq2 eq4
       obtain⟨gr,off,hq,hgr,r0,r1⟩:=hcell k _ hr
       rw [Nat.mul_comm] at r0 r1
       simp only at r0 r1
       rw [hq] at n4
       have w1:wrap64 (A+16)=A+16:=by unfold wrap64;omega
       have w2:IntKind.wrap .i64 (A+16)=A+16:=by rw [IntKind.wrap_i64];omega
       clear hq hcell hr eq3 ht1
       cases c with
       | false=>
        rw [show hiN false (ra,rb)=false from rfl] at D1 D2
        simp only [Bool.false_eq_true,if_false] at D1 D2
        go_wp2
        go_roundw
        case rel=>exact⟨k+1,by omega,by rw [D1.out],by rw [D2.out],by go_num,XV.out⟩
        case measure=>simp only [intOf];omega
       | true=>
        by_cases hh:127 < rb
        ·have hd:decide (127 < rb)=true:=by simpa using hh
         rw [show hiN true (ra,rb)=true by unfold hiN;rw [hd];rfl,if_pos rfl] at D1 D2
         go_wp2
         go_roundw
         case rel=>exact⟨k+1,by omega,by rw [D1.out],by rw [D2.out],by go_num,XV.out⟩
         case measure=>simp only [intOf];omega
        ·have hd:decide (127 < rb)=false:=by simpa using hh
         rw [show hiN true (ra,rb)=false by unfold hiN;rw [hd];rfl] at D1 D2
         simp only [Bool.false_eq_true,if_false] at D1 D2
         go_wp2
         go_roundw
         case rel=>exact⟨k+1,by omega,by rw [D1.out],by rw [D2.out],by go_num,XV.out⟩
         case measure=>simp only [intOf];omega
      ·have hi2:¬ (k:Int) < (t.f.rs.length:Int):=by omega
       have hv2:Hid (sG c t=min (max (A+N) 1) 10001):=by
        have h1:=HA.out
        have h2:=HN.out
        rw [List.take_of_length_le (by omega)] at h1 h2
        exact aC (by rw [hv.out,h1,h2])
       have w1:wrap64 (A+N)=A+N:=by unfold wrap64;omega
       have w2:IntKind.wrap .i64 (A+N)=A+N:=by rw [IntKind.wrap_i64];omega
       go_wp2
       go_ret
       exact⟨by rw [hv2.out];rfl,XV.out.1⟩
    ·have hv:Hid (sG c t=1):=aC (by rw [hv0.out,show bV c t.f (t.ks.map (sG c))=1 by unfold bV;rw [hk];simp];decide)
     have e2:(t.f.k==2)=false:=by rw [hk];rfl
     have e5:(t.f.k==5)=false:=by rw [hk];rfl
     have e6:(t.f.k==6)=false:=by rw [hk];rfl
     have e7:(t.f.k==7)=false:=by rw [hk];rfl
     have e9:(t.f.k==9)=false:=by rw [hk];rfl
     clear hk hnp
     go_wp2
     go_ret
     exact⟨by rw [hv.out];rfl,XW.out.1⟩
    ·have hv:Hid (sG c t=1):=aC (by rw [hv0.out,show bV c t.f (t.ks.map (sG c))=1 by unfold bV;rw [hk];simp];decide)
     have e2:(t.f.k==2)=false:=by rw [hk];rfl
     have e5:(t.f.k==5)=false:=by rw [hk];rfl
     have e6:(t.f.k==6)=false:=by rw [hk];rfl
     have e7:(t.f.k==7)=false:=by rw [hk];rfl
     have e9:(t.f.k==9)=false:=by rw [hk];rfl
     clear hk hnp
     go_wp2
     go_ret
     exact⟨by rw [hv.out];rfl,XW.out.1⟩
    ·have hv:Hid (sG c t=min (S+(t.f.kl:Int)) 10001):=aC (by rw [hv0.out];unfold bV;rw [hk,HSE.out,List.length_map,HKI,Int.add_comm];rfl)
     have e2:(t.f.k==2)=false:=by rw [hk];rfl
     have e5:(t.f.k==5)=true:=by rw [hk];rfl
     have e6:(t.f.k==6)=false:=by rw [hk];rfl
     have e7:(t.f.k==7)=false:=by rw [hk];rfl
     have e9:(t.f.k==9)=false:=by rw [hk];rfl
     have w1:wrap64 (S+(t.f.kl:Int))=S+(t.f.kl:Int):=by unfold wrap64;omega
     have w2:IntKind.wrap .i64 (S+(t.f.kl:Int))=S+(t.f.kl:Int):=by rw [IntKind.wrap_i64];omega
     clear hk hnp HKI
     go_wp2
     go_ret
     exact⟨by rw [hv.out];rfl,XW.out.1⟩
    ·have hv:Hid (sG c t=min (S+(t.f.kl:Int)) 10001):=aC (by rw [hv0.out];unfold bV;rw [hk,HSE.out,List.length_map,HKI,Int.add_comm];rfl)
     have e2:(t.f.k==2)=false:=by rw [hk];rfl
     have e5:(t.f.k==5)=false:=by rw [hk];rfl
     have e6:(t.f.k==6)=true:=by rw [hk];rfl
     have e7:(t.f.k==7)=false:=by rw [hk];rfl
     have e9:(t.f.k==9)=false:=by rw [hk];rfl
     have w1:wrap64 (S+(t.f.kl:Int))=S+(t.f.kl:Int):=by unfold wrap64;omega
     have w2:IntKind.wrap .i64 (S+(t.f.kl:Int))=S+(t.f.kl:Int):=by rw [IntKind.wrap_i64];omega
     clear hk hnp HKI
     go_wp2
     go_ret
     exact⟨by rw [hv.out];rfl,XW.out.1⟩
    ·have hone:=fO hnp (.inl hk)
     have hv:Hid (sG c t=min (S+2) 10001):=aC (by
      rw [hv0.out];unfold bV;rw [hk,<- HSE.out]
      obtain⟨u,hu⟩:=List.length_eq_one_iff.1 hone
      rw [hu];simp)
     have e2:(t.f.k==2)=false:=by rw [hk];rfl
     have e5:(t.f.k==5)=false:=by rw [hk];rfl
     have e6:(t.f.k==6)=false:=by rw [hk];rfl
     have e7:(t.f.k==7)=true:=by rw [hk];rfl
     have e9:(t.f.k==9)=false:=by rw [hk];rfl
     have w1:wrap64 (S+2)=S+2:=by unfold wrap64;omega
     have w2:IntKind.wrap .i64 (S+2)=S+2:=by rw [IntKind.wrap_i64];omega
     clear hk hnp HKI
     go_wp2
     go_ret
     exact⟨by rw [hv.out];rfl,XW.out.1⟩
    ·have hv:Hid (sG c t=1):=aC (by rw [hv0.out,show bV c t.f (t.ks.map (sG c))=1 by unfold bV;rw [hk];simp];decide)
     have e2:(t.f.k==2)=false:=by rw [hk];rfl
     have e5:(t.f.k==5)=false:=by rw [hk];rfl
     have e6:(t.f.k==6)=false:=by rw [hk];rfl
     have e7:(t.f.k==7)=false:=by rw [hk];rfl
     have e9:(t.f.k==9)=false:=by rw [hk];rfl
     clear hk hnp
     go_wp2
     go_ret
     exact⟨by rw [hv.out];rfl,XW.out.1⟩
    ·have hone:=fO hnp (.inr hk)
     have hbd:=kY hnp hk
     have hb2:0<=t.f.mn/\t.f.mn<=255/\-1<=t.f.mx/\t.f.mx<=255:=by
      simp only [eT,Bool.and_eq_true,Bool.or_eq_true,decide_eq_true_eq,beq_iff_eq] at hbd
      omega
     have hS9:S<=10001:=by
      rw [<- HSE.out]
      obtain⟨u,hu⟩:=List.length_eq_one_iff.1 hone
      rw [hu]
      have:=GD.out u (by rw [hu];simp)
      unfold eV at this
      simp
      omega
     have hv:Hid (sG c t=min ((S+2) * eX t.f) 10001):=aC (by
      rw [hv0.out];unfold bV;rw [hk,<- HSE.out]
      obtain⟨u,hu⟩:=List.length_eq_one_iff.1 hone
      rw [hu];simp)
     have e2:(t.f.k==2)=false:=by rw [hk];rfl
     have e5:(t.f.k==5)=false:=by rw [hk];rfl
     have e6:(t.f.k==6)=false:=by rw [hk];rfl
     have e7:(t.f.k==7)=false:=by rw [hk];rfl
     have e9:(t.f.k==9)=true:=by rw [hk];rfl
     clear hk hnp HKI hbd hone
     have w1:wrap64 (S+2)=S+2:=by unfold wrap64;omega
     have w2:IntKind.wrap .i64 (S+2)=S+2:=by rw [IntKind.wrap_i64];omega
     by_cases hmx:t.f.mx=-1
     ·have q9:(t.f.mx==-1)=true:=by rw [hmx];rfl
      have hv2:Hid (sG c t=min ((S+2) * max (t.f.mn+1) 1) 10001):=aC (by rw [hv.out];unfold eX;rw [if_pos hmx,show max (t.f.mn+1) 1=t.f.mn+1 by omega])
      have w3:wrap64 (t.f.mn+1)=t.f.mn+1:=by unfold wrap64;omega
      have w4:IntKind.wrap .i64 (t.f.mn+1)=t.f.mn+1:=by rw [IntKind.wrap_i64];omega
      have hm1:0<=(S+2) * max (t.f.mn+1) 1:=Int.mul_nonneg (by omega) (by omega)
      have hm2:(S+2) * max (t.f.mn+1) 1<=10003 * 256:=Int.mul_le_mul (by omega) (by omega) (by omega) (by omega)
      have w5:wrap64 ((S+2) * max (t.f.mn+1) 1)=(S+2) * max (t.f.mn+1) 1:=by unfold wrap64;omega
      have w6:IntKind.wrap .i64 ((S+2) * max (t.f.mn+1) 1)=(S+2) * max (t.f.mn+1) 1:=by rw [IntKind.wrap_i64];omega
      clear hmx hm1 hm2
      go_wp2
      go_ret
      exact⟨by rw [hv2.out];rfl,XW.out.1⟩
     ·have q9:(t.f.mx==-1)=false:=by simpa using hmx
      have hv2:Hid (sG c t=min ((S+2) * max t.f.mx 1) 10001):=aC (by rw [hv.out];unfold eX;rw [if_neg hmx])
      have hm1:0<=(S+2) * max t.f.mx 1:=Int.mul_nonneg (by omega) (by omega)
      have hm2:(S+2) * max t.f.mx 1<=10003 * 256:=Int.mul_le_mul (by omega) (by omega) (by omega) (by omega)
      have w5:wrap64 ((S+2) * max t.f.mx 1)=(S+2) * max t.f.mx 1:=by unfold wrap64;omega
      have w6:IntKind.wrap .i64 ((S+2) * max t.f.mx 1)=(S+2) * max t.f.mx 1:=by rw [IntKind.wrap_i64];omega
      clear hmx hm1 hm2
      go_wp2
      go_ret
      exact⟨by rw [hv2.out];rfl,XW.out.1⟩
end
section
attribute [local go_sem] Oper.semAt_some
theorem aS3{w:World}{t:Tr}(c o:Bool)(hta:TB w t)(hsm:Sm t):Calls Tryz.prog 11 #[.agg #[.int .i64 t.f.k,.int .i64 t.f.n,.int .i64 t.f.mn,.int .i64 t.f.mx,.slice t.f.rq t.f.rs.length t.f.rc,.slice t.f.kq t.f.kl t.f.kc],.agg #[.bool c,.bool o]] w fun e w'=>e=.returned (.int .i64 (tvI (dY c) c o t))/\Below w.heap.size w w':=by
 have X1:Hid (Bx2 w ((w.alloc (.cells #[.int .i64 t.f.k,.int .i64 t.f.n,.int .i64 t.f.mn,.int .i64 t.f.mx,.slice t.f.rq t.f.rs.length t.f.rc,.slice t.f.kq t.f.kl t.f.kc] 25)).alloc (.cells #[.bool c,.bool o] 27)) t.f c o):=⟨(bz9).alloc (by simp) _,(Below.heap_alloc _ _ _ (by simp)).trans (aE w _),aJ _ (by simp only [World.size_alloc])⟩
 have HTA:=aC hta
 have HSM:=aC hsm
 have HV:=aC (aV2 c o t)
 clear hta hsm
 go_enter Tryz.func11,Tryz.ntmps11
 go_upto_region 1 with fail
 generalize ((w.alloc (.cells #[.int .i64 t.f.k,.int .i64 t.f.n,.int .i64 t.f.mn,.int .i64 t.f.mx,.slice t.f.rq t.f.rs.length t.f.rc,.slice t.f.kq t.f.kl t.f.kc] 25)).alloc (.cells #[.bool c,.bool o] 27))=w1 at X1 ⊢
 obtain⟨n0,n1,n2,n3,n4,n5⟩:=X1.out.2.1.six
 simp only [Nat.zero_add] at n1 n2 n3 n4 n5
 have a0:=aA X1.out.2.2 (i:=0) rfl
 have a1:=aA X1.out.2.2 (i:=1) rfl
 have RT:=aC (nB c o (HTA.out.kept X1.out.1) HSM.out)
 by_cases hr:aT c o 0 0 (pp [] t)=0
 ·have HR:=aC hr
  rw [decide_eq_true hr] at RT
  rw [if_pos hr] at HV
  clear hr
  have CS:Hid (∀ W,Below w.heap.size w W->Calls Tryz.prog 39 #[.agg #[.int .i64 t.f.k,.int .i64 t.f.n,.int .i64 t.f.mn,.int .i64 t.f.mx,.slice t.f.rq t.f.rs.length t.f.rc,.slice t.f.kq t.f.kl t.f.kc],.agg #[.bool c,.bool o]] W fun e w'=>e=.returned (.int .i64 (sG c t))/\Below W.heap.size W w'):=fun W hW=>zJ c o t.sz t W lz9 (iC HR.out) (HTA.out.kept hW) (gI HR.out)
  obtain⟨X,hX⟩:∃ X,sG c t=X:=⟨_,rfl⟩
  rw [hX] at HV CS
  clear hX
  go_upto_region 4 with (go_at_call 38;refine(RT.out).mono ?_;rintro e w2 ⟨rfl,h2⟩;have X2:=aC (X1.out.kept h2);clear h2)
  clear n0 n1 n2 n3 n4 n5 a0 a1
  obtain⟨n0,n1,n2,n3,n4,n5⟩:=X2.out.2.1.six
  simp only [Nat.zero_add] at n1 n2 n3 n4 n5
  have a0:=aA X2.out.2.2 (i:=0) rfl
  have a1:=aA X2.out.2.2 (i:=1) rfl
  go_wp2_with (go_at_call 39;refine(CS.out _ X2.out.1).mono ?_;rintro e w3 ⟨rfl,h3⟩;have B3:=aC (aI X2.out.1 h3 lz9);clear h3)
  go_ret
  exact⟨by rw [HV.out];rfl,B3.out⟩
 ·rw [decide_eq_false hr] at RT
  rw [if_neg hr] at HV
  clear hr
  go_wp2_with (go_at_call 38;refine(RT.out).mono ?_;rintro e w2 ⟨rfl,h2⟩;have B2:=aC (aI X1.out.1 h2 lz9);clear h2)
  go_ret
  exact⟨by rw [HV.out];rfl,B2.out⟩
end
section
open Go Go.RowKit Go.Shelf
attribute [local go_sem] Oper.semAt_some
theorem aM4(L:List El)(j:Nat)(x:El)(h:L[j]?=some x):bks (L.take (j+1))=bks (L.take j) ++ (if x.2.f.k=8 then [x.2.f.n] else []):=by rw [List.take_add_one,h];exact mO _ _
def isU(L:List El)(k:Nat):Bool:=decide (((k:Int)+1)∈bks L)
theorem aJ6(L:List El)(j k:Nat)(x:El)(h:L[j]?=some x):isU (L.take (j+1)) k=(isU (L.take j) k ||(x.2.f.k==8 && x.2.f.n==(k:Int)+1)):=by
 unfold isU
 rw [aM4 L j x h]
 by_cases h8:x.2.f.k=8
 ·rw [if_pos h8]
  have e8:(x.2.f.k==8)=true:=by rw [h8];rfl
  rw [e8,Bool.true_and]
  by_cases hn:x.2.f.n=(k:Int)+1
  ·rw [hn];simp
  ·have:(x.2.f.n==(k:Int)+1)=false:=by simpa using hn
   rw [this,Bool.or_false]
   refine decide_eq_decide.2 ?_
   rw [List.mem_append,List.mem_singleton]
   exact⟨fun q=>q.resolve_right (fun e=>hn e.symm),.inl⟩
 ·rw [if_neg h8,List.append_nil]
  have e8:(x.2.f.k==8)=false:=by simpa using h8
  rw [e8,Bool.false_and,Bool.or_false]
theorem aN7(L:List El)(k:Nat):usN L (k+1)=usN L k ++ (if isU L k then [(k:Int)+1] else []):=by
 rw [tX]
 unfold isU
 by_cases h:((k:Int)+1)∈bks L <;> simp [h]
structure UD(w:World)(Z:List Zl)(qz:Option Addr)(cz:Nat)(q:Option Addr)(c:Nat)(l:List Int)(V:World):Prop where
 z:ZR w.heap.size V (.slice qz Z.length cz) Z
 l:jX w.heap.size V q c l
 bel:Below w.heap.size w V
theorem UD.snoc{w V w6:World}{Z:List Zl}{qz q q6:Option Addr}{cz c c6:Nat}{l:List Int}{x:Int}{ob:Obj}(h:UD w Z qz cz q c l V)
  (o6:w6.ownsRow w.heap.size 3 1 (.slice q6 (l.length+1) c6) (l.length+1) (l.map (Value.int .i64) ++ [.int .i64 x])) (hg:(V.alloc ob).grownBy w6 (Value.slice q l.length c).ownBlock):UD w Z qz cz q6 c6 (l ++ [x]) w6:=by
 have F6:Fr (fun z=>(Value.slice q l.length c).ownBlock=some z) V w6:=((Fr.refl _ V).alloc ob).grown hg fun k hk=>hk
 refine⟨aL h.z F6 (fun k hk e=>iP h.z h.l (by decide) hk e),?_,h.bel.trans (F6.below h.bel.size fun k hk=>(aF h.l hk).1)⟩
 unfold jX
 rw [List.length_append,List.map_append]
 exact o6
theorem zK{w:World}{t:Tr}(c o:Bool)(hta:TB w t)(hsm:Sm t):Calls Tryz.prog 27 #[.agg #[.int .i64 t.f.k,.int .i64 t.f.n,.int .i64 t.f.mn,.int .i64 t.f.mx,.slice t.f.rq t.f.rs.length t.f.rc,.slice t.f.kq t.f.kl t.f.kc],.agg #[.bool c,.bool o]] w (UsIs w (usV c o t)):=by
 have X1:Hid (Bx2 w ((w.alloc (.cells #[.int .i64 t.f.k,.int .i64 t.f.n,.int .i64 t.f.mn,.int .i64 t.f.mx,.slice t.f.rq t.f.rs.length t.f.rc,.slice t.f.kq t.f.kl t.f.kc] 25)).alloc (.cells #[.bool c,.bool o] 27)) t.f c o):=⟨(bz9).alloc (by simp) _,(Below.heap_alloc _ _ _ (by simp)).trans (aE w _),aJ _ (by simp only [World.size_alloc])⟩
 have HTA:=aC hta
 have HSM:=aC hsm
 clear hta hsm
 go_enter Tryz.func27,Tryz.ntmps27
 go_upto_region 1 with fail
 generalize ((w.alloc (.cells #[.int .i64 t.f.k,.int .i64 t.f.n,.int .i64 t.f.mn,.int .i64 t.f.mx,.slice t.f.rq t.f.rs.length t.f.rc,.slice t.f.kq t.f.kl t.f.kc] 25)).alloc (.cells #[.bool c,.bool o] 27))=w1 at X1 ⊢
 obtain⟨n0,n1,n2,n3,n4,n5⟩:=X1.out.2.1.six
 simp only [Nat.zero_add] at n1 n2 n3 n4 n5
 have a0:=aA X1.out.2.2 (i:=0) rfl
 have a1:=aA X1.out.2.2 (i:=1) rfl
 have RT:=aC (nB c o (HTA.out.kept X1.out.1) HSM.out)
 by_cases hr:aT c o 0 0 (pp [] t)=0
 ·have HE:Hid (usV c o t=usN (pp [] t) 9):=aC (by unfold usV;rw [if_pos hr];exact aF1 hr)
  have HL:=kD hr
  rw [decide_eq_true hr] at RT
  clear hr
  have LD:Hid (∀ W,Below w.heap.size w W->Calls Tryz.prog 36 #[.agg #[.int .i64 t.f.k,.int .i64 t.f.n,.int .i64 t.f.mn,.int .i64 t.f.mx,.slice t.f.rq t.f.rs.length t.f.rc,.slice t.f.kq t.f.kl t.f.kc],.int .i64 2000] W (aN0 W (jE 2000 t))):=fun W hW=>pO 2000 (by omega) (HTA.out.kept hW)
  have HMP:Hid ((jE 2000 t).map (·.1)=pp [] t):=aC (by rw [jL,List.take_of_length_le HL])
  have hZ:(jE 2000 t).length<=2000:=by have:=lX 2000 t;omega
  generalize jE 2000 t=Z at LD HMP hZ
  clear HL
  go_upto_region 4 with (go_at_call 38;refine(RT.out).mono ?_;rintro e w2 ⟨rfl,h2⟩;have X2:=aC (X1.out.kept h2);clear h2)
  clear n0 n1 n2 n3 n4 n5 a0 a1
  obtain⟨n0,n1,n2,n3,n4,n5⟩:=X2.out.2.1.six
  simp only [Nat.zero_add] at n1 n2 n3 n4 n5
  go_upto_region 5 with (go_at_call 36;refine(LD.out _ X2.out.1).mono ?_;rintro e w5 ⟨q5,k5,rfl,h51,h52⟩;have Z5:=aC h51;have B5:=aC (aI X2.out.1 h52 lz9);have S5:=aC X2.out.1.size;clear h51 h52)
  clear n0 n1 n2 n3 n4 n5
  have U5:Hid (UD w Z q5 k5 none 0 [] w5):=⟨cY Z5.out S5.out,World.ownsRow_nil _ _ _ _,B5.out⟩
  clear Z5 B5 S5
  go_upto_region 7 with fail
  go_loopw [7,8] (fun l i wr=>∃ (k:Nat) (q:Option Addr) (cc:Nat),k<=9/\i=.int .i64 ((k:Int)+1)/\l=.slice q (usN (pp [] t) k).length cc/\UD w Z q5 k5 q cc (usN (pp [] t) k) wr) (fun _ i _=>10 - (intOf i).toNat)
  case atStart=>exact⟨0,none,0,by omega,rfl,rfl,U5.out⟩
  case round=>
   obtain⟨k,q,cc,hk,rfl,rfl,hu⟩:=hrel
   have HU:=aC hu
   have HN:=aC (aN7 (pp [] t) k)
   have hlen:=yE (pp [] t) k
   obtain⟨l,hl⟩:∃ l,usN (pp [] t) k=l:=⟨_,rfl⟩
   have HQ:=aC hl
   rw [hl] at hu HU HN hlen ⊢
   clear hl
   clear hu
   rename World=>W1
   by_cases hk9:k < 9
   ·have i0:(k:Int)+1 < 10:=by omega
    have hwr:IntKind.wrap .i64 ((k:Int)+1+1)=(k:Int)+1+1:=wrap_small _ (by omega) (by omega)
    go_upto_region 11 with fail
    go_loopw [9,10] (fun b i wr=>∃ j:Nat,j<=Z.length/\b=.bool (isU ((pp [] t).take j) k)/\i=.int .i64 (j:Int)/\wr=W1) (fun _ i _=>Z.length - (intOf i).toNat)
    case atStart=>exact⟨0,Nat.zero_le _,rfl,rfl,rfl⟩
    case round=>
     obtain⟨j,hj,rfl,rfl,rfl⟩:=hrel
     by_cases hjl:j < Z.length
     ·have i1:(j:Int) < (Z.length:Int):=by omega
      obtain⟨z,hz⟩:∃ z,Z[j]?=some z:=⟨_,List.getElem?_eq_getElem hjl⟩
      obtain⟨g,cz,hq⟩:=aK HU.out.z (by omega)
      injection hq with hq1 _ hq2
      subst hq1 hq2
      have hx:(pp [] t)[j]?=some z.1:=by rw [<- HMP.out,List.getElem?_map,hz];rfl
      have y0:=HU.out.z.cells hz (j:=0) (v:=.int .i64 z.1.2.f.k) rfl
      rw [Nat.add_zero] at y0
      have y1:=HU.out.z.cells hz (j:=1) (v:=.int .i64 z.1.2.f.n) rfl
      have HI:=aC (aJ6 (pp [] t) j k z.1 hx)
      have hw2:IntKind.wrap .i64 ((j:Int)+1)=(j:Int)+1:=wrap_small _ (by omega) (by omega)
      obtain⟨x,hxb⟩:∃ x,isU ((pp [] t).take j) k=x:=⟨_,rfl⟩
      rw [hxb] at HI ⊢
      clear hz hx hxb
      cases x with
      | true=>
       go_wp2
       go_roundw
       case rel=>exact⟨j+1,by omega,by rw [HI.out];rfl,by go_num,by trivial⟩
       case measure=>simp only [intOf];omega
      | false=>
       by_cases h8:z.1.2.f.k=8
       ·have e8:(z.1.2.f.k==8)=true:=by rw [h8];rfl
        rw [e8] at HI
        obtain⟨n,hn⟩:∃ n,z.1.2.f.n=n:=⟨_,rfl⟩
        rw [hn] at HI y1
        clear h8 hn
        by_cases hn:n=(k:Int)+1
        ·have en:(n==(k:Int)+1)=true:=by rw [hn];simp
         rw [en] at HI
         clear hn
         go_wp2
         go_roundw
         case rel=>exact⟨j+1,by omega,by rw [HI.out];rfl,by go_num,by trivial⟩
         case measure=>simp only [intOf];omega
        ·have en:(n==(k:Int)+1)=false:=by simpa using hn
         rw [en] at HI
         clear hn
         go_wp2
         go_roundw
         case rel=>exact⟨j+1,by omega,by rw [HI.out];rfl,by go_num,by trivial⟩
         case measure=>simp only [intOf];omega
       ·have e8:(z.1.2.f.k==8)=false:=by simpa using h8
        rw [e8] at HI
        clear h8
        go_wp2
        go_roundw
        case rel=>exact⟨j+1,by omega,by rw [HI.out];rfl,by go_num,by trivial⟩
        case measure=>simp only [intOf];omega
     ·have i1:¬ (j:Int) < (Z.length:Int):=by omega
      have h1:=congrArg List.length HMP.out
      rw [List.length_map] at h1
      rw [List.take_of_length_le (by omega)]
      clear h1
      obtain⟨x,hxb⟩:∃ x,isU (pp [] t) k=x:=⟨_,rfl⟩
      rw [hxb] at HN ⊢
      clear hxb
      cases x with
      | true=>
       obtain⟨t0,hi,hz0,hz1,hz2⟩:=bB wY
       have Y7:Hid ((wr.alloc (.cells #[.int .i64 ((k:Int)+1)] 3)).ownsRow w.heap.size 3 1 (.slice q l.length cc) l.length (l.map (Value.int .i64))):=World.ownsRow.alloc HU.out.l _
       have HNEW:Hid (∀ j u,([.int .i64 ((k:Int)+1)]:List Value)[j]?=some u->(wr.alloc (.cells #[.int .i64 ((k:Int)+1)] 3)).cell? ((⟨wr.heap.size,0,none⟩:Addr).add j)=some u):=bU wr [.int .i64 ((k:Int)+1)] _
       have HB8:Hid (w.heap.size<=(wr.alloc (.cells #[.int .i64 ((k:Int)+1)] 3)).heap.size):=Nat.le_trans HU.out.bel.size (by simp)
       go_wp2_with (at_builtin;refine wpList_append_own_at _ rfl _ _ 44 rfl w.heap.size 3 t0 (.int .i64 0) 1 8 oT hi hz0 hz1 hz2 rfl (by decide) (.slice q l.length cc) l.length (l.map (Value.int .i64)) rfl Y7.out ⟨wr.heap.size,0,none⟩ 1 1 [.int .i64 ((k:Int)+1)] rfl rfl HNEW.out (by simp [Value.oneCell']) (by unfold maxLen;omega) (by omega) HB8.out ?_;intro v' w6 hown' hgrow _ _;obtain⟨q6,c6,rfl⟩:=aR hown';have U6:=aC (HU.out.snoc hown' hgrow);clear hown' hgrow)
       go_roundw
       case rel=>exact⟨k+1,q6,c6,by omega,by go_num,by rw [HN.out];simp,by rw [HN.out];exact U6.out⟩
       case measure=>simp only [intOf];omega
      | false=>
       go_wp2
       go_roundw
       case rel=>exact⟨k+1,q,cc,by omega,by go_num,by rw [HN.out];simp,by rw [HN.out];simpa using HU.out⟩
       case measure=>simp only [intOf];omega
   ·have hk10:k=9:=by omega
    subst hk10
    go_wp2
    go_ret
    rw [HE.out,HQ.out]
    exact⟨q,cc,rfl,HU.out.l,HU.out.bel⟩
 ·have HE:Hid (usV c o t=[]):=aC (by unfold usV;rw [if_neg hr])
  rw [decide_eq_false hr] at RT
  clear hr
  go_wp2_with (go_at_call 38;refine(RT.out).mono ?_;rintro e w2 ⟨rfl,h2⟩;have B2:=aC (aI X1.out.1 h2 lz9);clear h2)
  go_ret
  rw [HE.out]
  exact⟨none,0,rfl,World.ownsRow_nil _ _ _ _,B2.out⟩
end
end Go.Proofs.YtjafnbjipgediaaGreatDoor
