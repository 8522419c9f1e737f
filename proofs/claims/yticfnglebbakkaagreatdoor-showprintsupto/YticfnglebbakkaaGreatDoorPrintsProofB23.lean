/-
  Parts of the proof.
-/
import Derived.Test.YticfnglebbakkaaGreatDoorPrintsProofB22
import Derived.Test.YticfnglebbakkaaGreatDoorPrintsProofB12
import Derived.Test.YticfnglebbakkaaGreatDoorPrintsProofB18
import Derived.Test.YticfnglebbakkaaGreatDoorPrintsProofB19
import Derived.Test.YticfnglebbakkaaGreatDoorPrintsProofB16
set_option maxRecDepth 100000
set_option maxHeartbeats 8000000
namespace Go.Proofs.YticfnglebbakkaaGreatDoor
open Go Go.RowKit
section
theorem aG0(most:Nat):∀ (a:List El) (k j:Nat) (z:Zl),(tl most k a)[j]?=some z->z.2=min (k+j+z.1.2.sz) most
 | [],k,j,z,h=>by simp [tl] at h
 | x :: a,k,0,z,h=>by
  rw [tl] at h
  simp at h
  subst h
  rfl
 | x :: a,k,j+1,z,h=>by
  rw [tl,List.getElem?_cons_succ] at h
  have:=aG0 most a (k+1) j z h
  omega
theorem aD2{t:Tr}{j:Nat}{z:Zl}(h:(gD 2001 t)[j]?=some z):z.2=min (j+z.1.2.sz) 2001:=by
 have h':((tl 2001 0 (pp [] t)).take 2001)[j]?=some z:=by
  unfold gD iE at h
  rw [List.nil_append,List.length_nil,Nat.sub_zero] at h
  exact h
 have hj:(tl 2001 0 (pp [] t))[j]?=some z:=by
  obtain⟨hl,hv⟩:=List.getElem?_eq_some_iff.1 h'
  rw [List.length_take] at hl
  rw [List.getElem_take] at hv
  exact List.getElem?_eq_some_iff.2 ⟨by omega,hv⟩
 have:=aG0 _ _ _ _ _ hj
 omega
theorem yF{c f:Bool}{p:Way}{t:Tr}{i g:Nat}(h:bI c f p t i g=0)(hk:t.f.k=7):t.f.n=(g:Int)+1:=by
 obtain⟨h1,h2,h3⟩:=iT h
 exact(gR.1 ⟨(by rw [hk];rfl),h2,h3⟩).2 hk
def RG(c f:Bool)(pre:List El):Prop:=∀ (j:Nat) (y:El),pre[j]?=some y->bI c f y.1 y.2 j (aW (pre.take j))=0
theorem RG.nil(c f:Bool):RG c f []:=fun j y h=>by simp at h
theorem RG.step{c f:Bool}{pre:List El}{x:El}(h:RG c f pre)(hx:bI c f x.1 x.2 pre.length (aW pre)=0):RG c f (pre ++ [x]):=fun j y hy=>by
 rcases Nat.lt_or_ge j pre.length with hj | hj
 ·rw [List.getElem?_append_left hj] at hy
  rw [List.take_append_of_le_length (by omega)]
  exact h j y hy
 ·rw [List.getElem?_append_right hj] at hy
  have h0:j - pre.length=0:=by
   rcases Nat.eq_zero_or_pos (j - pre.length) with z | z
   ·exact z
   ·rw [show j - pre.length=(j - pre.length - 1)+1 by omega] at hy
    simp at hy
  rw [h0] at hy
  simp at hy
  subst hy
  have hj2:j=pre.length:=by omega
  subst hj2
  rw [List.take_left]
  exact hx
theorem iO{c f:Bool}:∀ (a b:List El) (i g:Nat),(∀ (j:Nat) (y:El),a[j]?=some y->bI c f y.1 y.2 (i+j) (g+aW (a.take j))=0)->aS c f i g (a ++ b)=aS c f (i+a.length) (g+aW a) b
 | [],b,i,g,_=>by simp [aW]
 | x :: a,b,i,g,h=>by
  have h0:=h 0 x rfl
  rw [List.take_zero,Nat.add_zero] at h0
  have h0':bI c f x.1 x.2 i g=0:=h0
  have ih:=iO a b (i+1) (g+(if x.2.f.k=7 then 1 else 0)) (fun j y hy=>by
   have:=h (j+1) y (by rw [List.getElem?_cons_succ];exact hy)
   rw [List.take_succ_cons,aW] at this
   rw [show i+1+j=i+(j+1) by omega,Nat.add_assoc]
   exact this)
  rw [List.cons_append]
  simp only [aS,h0',ne_eq,not_true,if_false]
  rw [ih,List.length_cons,aW,show i+1+a.length=i+(a.length+1) by omega,Nat.add_assoc]
theorem RG.stop{c f:Bool}{t:Tr}{j:Nat}{x:El}{m:Int}(h:RG c f ((pp [] t).take j))(hx:(pp [] t)[j]?=some x)(hm:bI c f x.1 x.2 j (aW ((pp [] t).take j))=m)(h0:m≠0):aS c f 0 0 (pp [] t)=m:=by
 have hj:=(List.getElem?_eq_some_iff.1 hx).1
 have e:pp [] t=(pp [] t).take j ++ x :: (pp [] t).drop (j+1):=by
  have:=List.take_append_drop j (pp [] t)
  rw [List.drop_eq_getElem_cons hj,(List.getElem?_eq_some_iff.1 hx).2] at this
  exact this.symm
 have hl:((pp [] t).take j).length=j:=by rw [List.length_take];omega
 have hs:=iO ((pp [] t).take j) (x :: (pp [] t).drop (j+1)) 0 0 (fun k y hy=>by rw [Nat.zero_add,Nat.zero_add];exact h k y hy)
 rw [<- e,Nat.zero_add,Nat.zero_add,hl] at hs
 rw [hs]
 simp only [aS,hm,ne_eq,h0,not_false_eq_true,if_true]
theorem RG.all{c f:Bool}{t:Tr}(h:RG c f (pp [] t)):aS c f 0 0 (pp [] t)=0:=by
 have hs:=iO (pp [] t) [] 0 0 (fun k y hy=>by rw [Nat.zero_add,Nat.zero_add];exact h k y hy)
 rw [List.append_nil] at hs
 rw [hs]
 rfl
theorem lV{t:Tr}{j:Nat}{x:El}(hx:(pp [] t)[j]?=some x):(pp [] t).take j ++ [x] <+: pp [] t:=by
 have:(pp [] t).take (j+1)=(pp [] t).take j ++ [x]:=by rw [List.take_add_one,hx];rfl
 rw [<- this]
 exact List.take_prefix _ _
theorem oS{t:Tr}{j k:Nat}{y:El}(h:((pp [] t).take j)[k]?=some y):(pp [] t)[k]?=some y:=by
 obtain⟨hl,hv⟩:=List.getElem?_eq_some_iff.1 h
 rw [List.length_take] at hl
 rw [List.getElem_take] at hv
 exact List.getElem?_eq_some_iff.2 ⟨by omega,hv⟩
open Classical in
theorem yG{c f:Bool}{p:Way}{t:Tr}{i g:Nat}(hbr:∀ par i r,p=(par,i) :: r->par.f.k=5->brP r=true):bI c f p t i g=if i=2000 then 42 else if 40 < p.length+1 then 43 else if ¬ (bF c f p t/\(t.f.k=7->t.f.n=(g:Int)+1)) then 50 else if t.f.k=7/\30 < t.f.n then 42 else if t.f.k=8/\¬ (dP p t.f.n=false/\t.f.n<=(g:Int)) then 41 else 0:=by
 unfold bI
 simp only [tK hbr]
structure RS(w5:World)(t:Tr)(c f:Bool)(j gr:Nat)(v:Value)(W:World):Prop where
 le:j<=2000
 cnt:aW ((pp [] t).take j)=gr
 row:W.ownsRow w5.heap.size 3 1 v gr (eC ((eD 0 ((pp [] t).take j)).map Int.ofNat))
 bel:Below w5.heap.size w5 W
 ok:RG c f ((pp [] t).take j)
theorem RS.next{w5 W W':World}{t:Tr}{c f:Bool}{j gr:Nat}{v:Value}{x:El}(h:RS w5 t c f j gr v W)(hx:(pp [] t)[j]?=some x)(hj:j < 2000)(h0:bI c f x.1 x.2 j gr=0)(hk:x.2.f.k≠7)(hb:Below W.heap.size W W'):RS w5 t c f (j+1) gr v W':=by
 have hl:=(List.getElem?_eq_some_iff.1 hx).1
 have hlen:((pp [] t).take j).length=j:=by rw [List.length_take];omega
 have e:(pp [] t).take (j+1)=(pp [] t).take j ++ [x]:=by rw [List.take_add_one,hx];rfl
 refine⟨by omega,?_,?_,aG h.bel hb lz9,?_⟩
 ·rw [e,gX,if_neg hk,h.cnt];rfl
 ·rw [e,oI,if_neg hk,List.append_nil]
  exact aO h.row (Fr.of_below (S:=fun _=>False) hb) (fun _ _ z=>z)
 ·rw [e]
  refine h.ok.step ?_
  rw [hlen,h.cnt]
  exact h0
theorem RS.group{w5 W W':World}{t:Tr}{c f:Bool}{j gr:Nat}{v v':Value}{x:El}(h:RS w5 t c f j gr v W)(hx:(pp [] t)[j]?=some x)(hj:j < 2000)(h0:bI c f x.1 x.2 j gr=0)(hk:x.2.f.k=7)(hr:W'.ownsRow w5.heap.size 3 1 v' (gr+1) (eC ((eD 0 ((pp [] t).take j)).map Int.ofNat) ++ [.int .i64 (j:Int)]))(hb:Below w5.heap.size w5 W'):RS w5 t c f (j+1) (gr+1) v' W':=by
 have hl:=(List.getElem?_eq_some_iff.1 hx).1
 have hlen:((pp [] t).take j).length=j:=by rw [List.length_take];omega
 have e:(pp [] t).take (j+1)=(pp [] t).take j ++ [x]:=by rw [List.take_add_one,hx];rfl
 refine⟨by omega,?_,?_,hb,?_⟩
 ·rw [e,gX,if_pos hk,h.cnt]
 ·rw [e,oI,if_pos hk,hlen,List.map_append,rB]
  exact hr
 ·rw [e]
  refine h.ok.step ?_
  rw [hlen,h.cnt]
  exact h0
theorem RS.back{w5 W:World}{t:Tr}{c f:Bool}{j gr:Nat}{v:Value}{x:El}(h:RS w5 t c f j gr v W)(hx:(pp [] t)[j]?=some x)(hj:j < 2000){N:Nat}(hN:N < gr):∃ jj:Nat,(eD 0 ((pp [] t).take j))[N]?=some jj/\∃ y,(pp [] t)[jj]?=some y/\jj < j/\(dP x.1 ((N:Int)+1)=false ↔ min (jj+y.2.sz) 2001<=j):=by
 have hl:=(List.getElem?_eq_some_iff.1 hx).1
 have hlen:((pp [] t).take j).length=j:=by rw [List.length_take];omega
 have hg:N < (eD 0 ((pp [] t).take j)).length:=by rw [jV,h.cnt];exact hN
 obtain⟨jj,hjj⟩:∃ jj,(eD 0 ((pp [] t).take j))[N]?=some jj:=⟨_,List.getElem?_eq_getElem hg⟩
 obtain⟨y,hy,hiff⟩:=aM3 (lV hx) (fun k z hz hk=>yF (h.ok k z hz) hk) (by omega) hjj
 rw [hlen] at hiff
 have:=(List.getElem?_eq_some_iff.1 hy).1
 exact⟨jj,hjj,y,oS hy,by omega,hiff⟩
theorem uA{w:World}{t:Tr}(c f:Bool)(hta:TB w t)(hsm:∀ x∈pp [] t,x.2.f.rs.length<=1048580):Calls Tryz.prog 44 #[.agg #[.int .i64 t.f.k,.int .i64 t.f.n,.int .i64 t.f.mn,.int .i64 t.f.mx,.slice t.f.rq t.f.rs.length t.f.rc,.slice t.f.kq t.f.kl t.f.kc],.agg #[.bool c,.bool f]] w fun e w'=>e=.returned (.int .i64 (aS c f 0 0 (pp [] t)))/\Below w.heap.size w w':=by
 have B1:Hid (Below w.heap.size w ((w.alloc (.cells #[.int .i64 t.f.k,.int .i64 t.f.n,.int .i64 t.f.mn,.int .i64 t.f.mx,.slice t.f.rq t.f.rs.length t.f.rc,.slice t.f.kq t.f.kl t.f.kc] 25)).alloc (.cells #[.bool c,.bool f] 27))):=(bz9).alloc (by simp) _
 have N1:Hid (BoxN ((w.alloc (.cells #[.int .i64 t.f.k,.int .i64 t.f.n,.int .i64 t.f.mn,.int .i64 t.f.mx,.slice t.f.rq t.f.rs.length t.f.rc,.slice t.f.kq t.f.kl t.f.kc] 25)).alloc (.cells #[.bool c,.bool f] 27)) w.heap.size t.f):=(Below.heap_alloc _ _ _ (by simp)).trans (aF w _)
 have M1:Hid (((w.alloc (.cells #[.int .i64 t.f.k,.int .i64 t.f.n,.int .i64 t.f.mn,.int .i64 t.f.mx,.slice t.f.rq t.f.rs.length t.f.rc,.slice t.f.kq t.f.kl t.f.kc] 25)).alloc (.cells #[.bool c,.bool f] 27)).heap[w.heap.size+1]?=some (.cells #[.bool c,.bool f] 27 (0,0))):=(by
  have:=aF (w.alloc (.cells #[.int .i64 t.f.k,.int .i64 t.f.n,.int .i64 t.f.mn,.int .i64 t.f.mx,.slice t.f.rq t.f.rs.length t.f.rc,.slice t.f.kq t.f.kl t.f.kc] 25)) (.cells #[.bool c,.bool f] 27)
  rwa [World.size_alloc] at this)
 have HTA:=aB hta
 have HSM:=aB hsm
 obtain⟨R,hR⟩:∃ R,aS c f 0 0 (pp [] t)=R:=⟨_,rfl⟩
 rw [hR]
 have HR:=aB hR
 clear hta hsm hR
 go_enter Tryz.func44,Tryz.ntmps44
 go_upto_region 1 with fail
 generalize ((w.alloc (.cells #[.int .i64 t.f.k,.int .i64 t.f.n,.int .i64 t.f.mn,.int .i64 t.f.mx,.slice t.f.rq t.f.rs.length t.f.rc,.slice t.f.kq t.f.kl t.f.kc] 25)).alloc (.cells #[.bool c,.bool f] 27))=W1 at B1 N1 M1 ⊢
 generalize w.heap.size+1=bm at M1 ⊢
 obtain⟨c0,c1,c2,c3,c4,c5⟩:=N1.out.six
 simp only [Nat.zero_add] at c1 c2 c3 c4 c5
 have LA:=aB (mL (w:=W1) 2001 (by omega) (HTA.out.kept B1.out))
 have HZL:=aB (jP 2001 t)
 have HZM:=aB (gC 2001 t)
 have HTO:=aB (fun (j:Nat) (z:Zl) (h:(gD 2001 t)[j]?=some z)=>aD2 h)
 have hz:=jP 2001 t
 have hzl:(gD 2001 t).length<=2001:=by omega
 clear hz
 generalize gD 2001 t=Z at LA HZL HZM HTO hzl
 go_upto_region 5 with (go_at_call 43;refine(LA.out).mono ?_;rintro e w5 ⟨q5,k5,rfl,h51,h52⟩;have Z5:=aB h51;have B5:=aB h52;clear h51 h52)
 have M5:=aB ((B5.out.block _ (aC M1.out)).trans M1.out)
 have B6:=aB (aG B1.out B5.out lz9)
 clear c0 c1 c2 c3 c4 c5 LA B1 B5 N1 M1
 go_loopw [8,7,6] (fun i v g wr=>∃ (j gr:Nat) (q:Option Addr) (ca:Nat),j<=Z.length/\i=.int .i64 (j:Int)/\v=.slice q gr ca/\g=.int .i64 (gr:Int)/\RS w5 t c f j gr (.slice q gr ca) wr) (fun i _ _ _=>Z.length - (intOf i).toNat)
 case atStart=>exact⟨0,0,none,0,Nat.zero_le _,rfl,rfl,rfl,⟨Nat.zero_le _,rfl,World.ownsRow_nil _ _ _ _,Below.refl _ _,RG.nil c f⟩⟩
 case round=>
  obtain⟨j,gr,q,ca,hj,rfl,rfl,rfl,hs⟩:=hrel
  have HS:=aB hs
  have hgr:gr<=2000:=by
   have h1:=hs.cnt
   have h2:=uN ((pp [] t).take j)
   rw [List.length_take] at h2
   have:=hs.le
   omega
  have hj2:=hs.le
  clear hs
  by_cases hjl:j < Z.length
  case neg=>
   have i0:¬ (j:Int) < (Z.length:Int):=by omega
   have HD:=aB (show R=0 by
    rw [<- HR.out]
    have h1:=HZL.out
    have h2:=HS.out.ok
    rw [List.take_of_length_le (by omega)] at h2
    exact h2.all)
   have BX:=aB (aG B6.out HS.out.bel lz9)
   clear hjl
   go_wp2
   go_ret
   exact⟨congrArg (fun z=>Ending.returned (.int .i64 z)) HD.out.symm,BX.out⟩
  have i0:(j:Int) < (Z.length:Int):=by omega
  obtain⟨⟨x,o⟩,hx⟩:∃ z,Z[j]?=some z:=⟨_,List.getElem?_eq_getElem hjl⟩
  obtain⟨ga,cz,hq⟩:=aJ Z5.out (by omega)
  injection hq with hq1 _ hq2
  subst hq1 hq2
  have YA:ZR W1.heap.size wr (.slice (some ⟨ga,0,none⟩) Z.length k5) Z:=aO Z5.out (Fr.of_below (S:=fun _=>False) HS.out.bel) (fun _ _ z=>z)
  have x0:wr.cell? ⟨ga,j * 12,none⟩=some (.int .i64 x.2.f.k):=YA.cells hx (j:=0) rfl
  have x1:wr.cell? ⟨ga,j * 12+1,none⟩=some (.int .i64 x.2.f.n):=YA.cells hx (j:=1) rfl
  have x2:wr.cell? ⟨ga,j * 12+2,none⟩=some (.int .i64 x.2.f.mn):=YA.cells hx (j:=2) rfl
  have x3:wr.cell? ⟨ga,j * 12+3,none⟩=some (.int .i64 x.2.f.mx):=YA.cells hx (j:=3) rfl
  have x4:wr.cell? ⟨ga,j * 12+4,none⟩=some (.slice x.2.f.rq x.2.f.rs.length x.2.f.rc):=YA.cells hx (j:=4) rfl
  have x5:wr.cell? ⟨ga,j * 12+5,none⟩=some (.slice x.2.f.kq x.2.f.kl x.2.f.kc):=YA.cells hx (j:=5) rfl
  have x6:wr.cell? ⟨ga,j * 12+6,none⟩=some (.int .i64 ((x.1.length:Int)+1)):=YA.cells hx (j:=6) rfl
  have x7:wr.cell? ⟨ga,j * 12+7,none⟩=some (.int .i64 (arP x.1)):=YA.cells hx (j:=7) rfl
  have x8:wr.cell? ⟨ga,j * 12+8,none⟩=some (.bool (fiP x.1)):=YA.cells hx (j:=8) rfl
  have x9:wr.cell? ⟨ga,j * 12+9,none⟩=some (.bool (laP x.1)):=YA.cells hx (j:=9) rfl
  have x10:wr.cell? ⟨ga,j * 12+10,none⟩=some (.bool (brP x.1)):=YA.cells hx (j:=10) rfl
  have x11:wr.cell? ⟨ga,j * 12+11,none⟩=some (.int .i64 (o:Int)):=YA.cells hx (j:=11) rfl
  have hxt:(pp [] t)[j]?=some x:=oS (j:=2001) (by rw [<- HZM.out,List.getElem?_map,hx];rfl)
  have HX:=aB hxt
  have HBR:=aB (aN0 (lV hxt) HS.out.ok)
  have HST:=aB (fun (m:Int) (h:bI c f x.1 x.2 j gr=m) (h0:m≠0)=>HR.out.symm.trans (HS.out.ok.stop hxt (by rw [HS.out.cnt];exact h) h0))
  have BW:=aB (aG B6.out HS.out.bel lz9)
  have HNA:=aB ((HTA.out.at (List.mem_of_getElem? hxt)).node.ck (CK.of_below BW.out))
  have HSL:=aB (HSM.out x (List.mem_of_getElem? hxt))
  have MW:=aB ((HS.out.bel.block _ (aC M5.out)).trans M5.out)
  have hdp:=nV (t:=t) (pre:=(pp [] t).take j) (x:=x) (lV hxt)
  rw [List.length_take] at hdp
  have hdp2:x.1.length<=2001:=by omega
  have lga:ga < wr.heap.size:=(aH YA (g:=ga) rfl).2.1
  have HYA:=aB YA
  clear hx hxt YA hdp
  go_upto_region 8 with fail
  have K2:=aB (show Below wr.heap.size wr (wr.alloc (.cells #[.int .i64 x.2.f.k,.int .i64 x.2.f.n,.int .i64 x.2.f.mn,.int .i64 x.2.f.mx,.slice x.2.f.rq x.2.f.rs.length x.2.f.rc,.slice x.2.f.kq x.2.f.kl x.2.f.kc,.int .i64 ((x.1.length:Int)+1),.int .i64 (arP x.1),.bool (fiP x.1),.bool (laP x.1),.bool (brP x.1),.int .i64 (o:Int)] 94)) from bz9)
  have P2:=aB (aF wr (.cells #[.int .i64 x.2.f.k,.int .i64 x.2.f.n,.int .i64 x.2.f.mn,.int .i64 x.2.f.mx,.slice x.2.f.rq x.2.f.rs.length x.2.f.rc,.slice x.2.f.kq x.2.f.kl x.2.f.kc,.int .i64 ((x.1.length:Int)+1),.int .i64 (arP x.1),.bool (fiP x.1),.bool (laP x.1),.bool (brP x.1),.int .i64 (o:Int)] 94))
  have M2:=aB ((K2.out.block _ (aC MW.out)).trans MW.out)
  have A2:=aB (HNA.out.ck (CK.of_below K2.out))
  clear x0 x1 x2 x3 x4 x5 x6 x7 x8 x9 x10 x11
  generalize (wr.alloc (.cells #[.int .i64 x.2.f.k,.int .i64 x.2.f.n,.int .i64 x.2.f.mn,.int .i64 x.2.f.mx,.slice x.2.f.rq x.2.f.rs.length x.2.f.rc,.slice x.2.f.kq x.2.f.kl x.2.f.kc,.int .i64 ((x.1.length:Int)+1),.int .i64 (arP x.1),.bool (fiP x.1),.bool (laP x.1),.bool (brP x.1),.int .i64 (o:Int)] 94))=W2 at K2 P2 M2 A2 ⊢
  obtain⟨b8,hb8⟩:∃ b8,wr.heap.size=b8:=⟨_,rfl⟩
  have HNB:=aB (show (Value.slice q gr ca).ownBlock≠some wr.heap.size from fun e=>absurd (aH HS.out.row e).2.1 (Nat.lt_irrefl _))
  rw [hb8] at P2 HNB ⊢
  clear hb8
  have B2:=aB (aG BW.out K2.out lz9)
  have p0:W2.cell? ⟨b8,0,none⟩=some (.int .i64 x.2.f.k):=aA P2.out (i:=0) rfl
  have p1:W2.cell? ⟨b8,1,none⟩=some (.int .i64 x.2.f.n):=aA P2.out (i:=1) rfl
  have p2:W2.cell? ⟨b8,2,none⟩=some (.int .i64 x.2.f.mn):=aA P2.out (i:=2) rfl
  have p3:W2.cell? ⟨b8,3,none⟩=some (.int .i64 x.2.f.mx):=aA P2.out (i:=3) rfl
  have p4:W2.cell? ⟨b8,4,none⟩=some (.slice x.2.f.rq x.2.f.rs.length x.2.f.rc):=aA P2.out (i:=4) rfl
  have p5:W2.cell? ⟨b8,5,none⟩=some (.slice x.2.f.kq x.2.f.kl x.2.f.kc):=aA P2.out (i:=5) rfl
  have p6:W2.cell? ⟨b8,6,none⟩=some (.int .i64 ((x.1.length:Int)+1)):=aA P2.out (i:=6) rfl
  have p7:W2.cell? ⟨b8,7,none⟩=some (.int .i64 (arP x.1)):=aA P2.out (i:=7) rfl
  have p8:W2.cell? ⟨b8,8,none⟩=some (.bool (fiP x.1)):=aA P2.out (i:=8) rfl
  have p9:W2.cell? ⟨b8,9,none⟩=some (.bool (laP x.1)):=aA P2.out (i:=9) rfl
  have p10:W2.cell? ⟨b8,10,none⟩=some (.bool (brP x.1)):=aA P2.out (i:=10) rfl
  have p11:W2.cell? ⟨b8,11,none⟩=some (.int .i64 (o:Int)):=aA P2.out (i:=11) rfl
  have m0:W2.cell? ⟨bm,0,none⟩=some (.bool c):=aA M2.out (i:=0) rfl
  have m1:W2.cell? ⟨bm,1,none⟩=some (.bool f):=aA M2.out (i:=1) rfl
  by_cases h2000:j=2000
  ·have e1:(2000:Int)<=(j:Int):=by omega
   have HD:=aB (show R=42 from HST.out 42 (by unfold bI;rw [if_pos h2000]) (by decide))
   clear h2000
   go_wp2
   go_ret
   exact⟨congrArg (fun z=>Ending.returned (.int .i64 z)) HD.out.symm,B2.out⟩
  have e1:¬ (2000:Int)<=(j:Int):=by omega
  have hj3:j < 2000:=by omega
  by_cases h40:40 < x.1.length+1
  ·have e2:(40:Int) < (x.1.length:Int)+1:=by omega
   have HD:=aB (show R=43 from HST.out 43 (by unfold bI;rw [if_neg h2000,if_pos h40]) (by decide))
   clear h2000 h40
   go_wp2
   go_ret
   exact⟨congrArg (fun z=>Ending.returned (.int .i64 z)) HD.out.symm,B2.out⟩
  have e2:¬ (40:Int) < (x.1.length:Int)+1:=by omega
  have FM:=aB (aB2 x.1 x.2 o c f A2.out HSL.out)
  have HL:=aB (show bI c f x.1 x.2 j gr=_ by rw [yG HBR.out,if_neg h2000,if_neg h40])
  clear h2000 h40
  go_upto_region 13 with (go_at_call 93;(with_reducible refine(FM.out).mono ?_);rintro e W3 ⟨b3,rfl,hb3,h3⟩;have I3:=aB hb3;have B3:=aB h3;clear hb3 h3)
  have K3:=aB (aG K2.out B3.out lz9)
  have BZ:=aB (aG B2.out B3.out lz9)
  have P3:=aB ((B3.out.block _ (aC P2.out)).trans P2.out)
  clear m0 m1 p0 p1 p2 p3 p4 p5 p6 p7 p8 p9 p10 p11 FM e2
  have p0:W3.cell? ⟨b8,0,none⟩=some (.int .i64 x.2.f.k):=aA P3.out (i:=0) rfl
  have p1:W3.cell? ⟨b8,1,none⟩=some (.int .i64 x.2.f.n):=aA P3.out (i:=1) rfl
  cases b3 with
  | false=>
   have HD:=aB (show R=50 from HST.out 50 (by rw [HL.out,if_pos (fun z=>by cases I3.out.2 z.1)]) (by decide))
   go_wp2
   go_ret
   exact⟨congrArg (fun z=>Ending.returned (.int .i64 z)) HD.out.symm,BZ.out⟩
  | true=>
   have HF:=aB (I3.out.1 rfl)
   by_cases h7:x.2.f.k=7
   ·have e7:(x.2.f.k==7)=true:=beq_iff_eq.2 h7
    have e8:(x.2.f.k==8)=false:=beq_eq_false_iff_ne.2 (by omega)
    have H7:=aB h7
    clear h7
    by_cases hn:x.2.f.n=(gr:Int)+1
    case neg=>
     have en:(x.2.f.n != (gr:Int)+1)=true:=bne_iff_ne.2 hn
     have HD:=aB (show R=50 from HST.out 50 (by rw [HL.out,if_pos (fun z=>hn (z.2 H7.out))]) (by decide))
     clear hn
     go_wp2
     go_ret
     exact⟨congrArg (fun z=>Ending.returned (.int .i64 z)) HD.out.symm,BZ.out⟩
    have en:(x.2.f.n != (gr:Int)+1)=false:=by simpa using hn
    have HN:=aB hn
    clear hn
    have R3:=aB (aO HS.out.row (Fr.of_below (S:=fun _=>False) K3.out) (fun _ _ z=>z))
    have S3:=aB (show w5.heap.size<=W3.heap.size from Nat.le_trans HS.out.bel.size K3.out.size)
    obtain⟨t0,hi,hz0,hz1,hz2⟩:=aQ qF
    generalize hgp:eC ((eD 0 ((pp [] t).take j)).map Int.ofNat)=GP at R3
    have HGP:=aB hgp
    clear hgp
    go_upto_region 18 with (at_builtin;refine wpList_append_own_at _ rfl _ _ 158 rfl w5.heap.size 3 t0 (.int .i64 0) 1 8 qA hi hz0 hz1 hz2 rfl (by decide) (.slice q gr ca) gr GP rfl (World.ownsRow.alloc R3.out (.cells #[.int .i64 (j:Int)] 3)) ⟨W3.heap.size,0,none⟩ 1 1 [.int .i64 (j:Int)] rfl rfl (aL5 _ _ _) (by simp [Value.oneCell']) (by unfold maxLen;omega) (by omega) (by have:=S3.out;simp;omega) ?_;intro v' w6 hown' hgrow _ hblk;obtain⟨g6,cap6,rfl⟩:=aJ hown' (Nat.succ_pos _);have O6:=aB hown';have G6:=aB hgrow;clear hown' hgrow hblk)
    have L6:=aB (show Below w5.heap.size w5 w6 from cL (aG HS.out.bel K3.out lz9) (((Fr.refl (fun z=>(Value.slice q gr ca).ownBlock=some z) W3).alloc (.cells #[.int .i64 (j:Int)] 3)).grown G6.out (fun z hz=>hz)) lz9 (fun z hz=>(aH R3.out hz).1))
    have P6:=aB (show w6.heap[b8]?=some (.cells #[.int .i64 x.2.f.k,.int .i64 x.2.f.n,.int .i64 x.2.f.mn,.int .i64 x.2.f.mx,.slice x.2.f.rq x.2.f.rs.length x.2.f.rc,.slice x.2.f.kq x.2.f.kl x.2.f.kc,.int .i64 ((x.1.length:Int)+1),.int .i64 (arP x.1),.bool (fiP x.1),.bool (laP x.1),.bool (brP x.1),.int .i64 (o:Int)] 94 (0,0)) from (G6.out.block _ (by simp;have:=aC P3.out;omega) (fun e=>HNB.out e.symm)).trans ((Below.heap_alloc _ _ _ (aC P3.out)).trans P3.out))
    have p0':w6.cell? ⟨b8,0,none⟩=some (.int .i64 x.2.f.k):=aA P6.out (i:=0) rfl
    clear p0 p1
    by_cases h30:30 < gr+1
    ·have e3:(30:Int) < (gr:Int)+1:=by omega
     have HD:=aB (show R=42 from HST.out 42 (by rw [HL.out,if_neg (fun z=>z ⟨HF.out,fun _=>HN.out⟩),if_pos ⟨H7.out,by rw [HN.out];exact e3⟩]) (by decide))
     have BX:=aB (aG B6.out L6.out lz9)
     clear h30
     go_wp2
     go_ret
     exact⟨congrArg (fun z=>Ending.returned (.int .i64 z)) HD.out.symm,BX.out⟩
    have e3:¬ (30:Int) < (gr:Int)+1:=by omega
    have HD:=aB (show bI c f x.1 x.2 j gr=0 by rw [HL.out,if_neg (fun z=>z ⟨HF.out,fun _=>HN.out⟩),if_neg (fun z=>e3 (by have:=z.2;rw [HN.out] at this;exact this)),if_neg (fun z=>by have:=z.1;rw [H7.out] at this;cases this)])
    clear h30
    go_wp2
    go_roundw
    case rel=>exact⟨j+1,gr+1,_,_,by omega,by go_num,rfl,by go_num,HS.out.group HX.out hj3 HD.out H7.out (by rw [HGP.out];exact O6.out) L6.out⟩
    case measure=>simp only [intOf];omega
   have e7:(x.2.f.k==7)=false:=beq_eq_false_iff_ne.2 h7
   by_cases h8:x.2.f.k=8
   case neg=>
    have e8:(x.2.f.k==8)=false:=beq_eq_false_iff_ne.2 h8
    have HD:=aB (show bI c f x.1 x.2 j gr=0 by rw [HL.out,if_neg (fun z=>z ⟨HF.out,fun q=>absurd q h7⟩),if_neg (fun z=>h7 z.1),if_neg (fun z=>h8 z.1)])
    have H7:=aB h7
    clear h7 h8
    go_wp2
    go_roundw
    case rel=>exact⟨j+1,gr,_,_,by omega,by go_num,rfl,rfl,HS.out.next HX.out hj3 HD.out H7.out K3.out⟩
    case measure=>simp only [intOf];omega
   have e8:(x.2.f.k==8)=true:=beq_iff_eq.2 h8
   have HL8:=aB (show bI c f x.1 x.2 j gr=_ by rw [HL.out,if_neg (fun z=>z ⟨HF.out,fun q=>absurd q h7⟩),if_neg (fun z=>h7 z.1)])
   have hn1:1<=x.2.f.n:=by
    have:=HF.out.2
    unfold fV at this
    rw [if_neg (by omega),if_neg (by omega),if_neg (by omega),if_neg (by omega),if_pos h8] at this
    exact this.1.1
   have H7:=aB h7
   have H8:=aB h8
   clear h7 h8 HL
   by_cases hg:x.2.f.n<=(gr:Int)
   case neg=>
    have eg:(gr:Int) < x.2.f.n:=by omega
    have HD:=aB (show R=41 from HST.out 41 (by rw [HL8.out,if_pos ⟨H8.out,fun z=>hg z.2⟩]) (by decide))
    clear hg hn1
    go_wp2
    go_ret
    exact⟨congrArg (fun z=>Ending.returned (.int .i64 z)) HD.out.symm,BZ.out⟩
   have eg:¬ (gr:Int) < x.2.f.n:=by omega
   obtain⟨N,hN⟩:∃ N:Nat,x.2.f.n=(N:Int)+1:=⟨(x.2.f.n - 1).toNat,by omega⟩
   have HN:=aB hN
   have hNg:N < gr:=by omega
   have p1':W3.cell? ⟨b8,1,none⟩=some (.int .i64 ((N:Int)+1)):=by rw [<- hN];exact p1
   have eg':¬ (gr:Int) < (N:Int)+1:=by omega
   have hnn:x.2.f.n<=(gr:Int):=hg
   have HNN:=aB hnn
   clear p1 eg hg hn1 hN hnn
   obtain⟨jj,hjj,y,hy,hjj2,hiff⟩:=HS.out.back HX.out hj3 hNg
   have R3:=aO HS.out.row (Fr.of_below (S:=fun _=>False) K3.out) (fun _ _ z=>z)
   obtain⟨gb,cb,hqb⟩:=aJ R3 (by omega)
   injection hqb with hqb1 _ hqb2
   subst hqb1 hqb2
   have a0:W3.cell? ⟨gb,N,none⟩=some (.int .i64 (jj:Int)):=by
    have:=bA R3 (j:=N) (u:=.int .i64 (jj:Int)) (yP (by rw [List.getElem?_map,hjj];rfl))
    exact this
   obtain⟨zz,hzz⟩:∃ zz,Z[jj]?=some zz:=⟨_,List.getElem?_eq_getElem (by omega)⟩
   have hyz:zz.1=y:=by
    have h1:(pp [] t)[jj]?=some zz.1:=oS (j:=2001) (by rw [<- HZM.out,List.getElem?_map,hzz];rfl)
    rw [hy] at h1
    exact(Option.some.inj h1).symm
   have hto:=HTO.out jj zz hzz
   rw [hyz] at hto
   rw [<- hto] at hiff
   have Y3:ZR W1.heap.size W3 (.slice (some ⟨ga,0,none⟩) Z.length k5) Z:=aO HYA.out (Fr.of_below (S:=fun _=>False) K3.out) (fun _ _ z=>z)
   have a1:W3.cell? ⟨ga,jj * 12+11,none⟩=some (.int .i64 (zz.2:Int)):=Y3.cells hzz (j:=11) rfl
   generalize zz.2=tt at a1 hto hiff
   have lgb:gb < W3.heap.size:=(aH R3 (g:=gb) rfl).2.1
   have HIF:=aB hiff
   have hjz:jj < Z.length:=by omega
   clear R3 Y3 hjj hy hzz hyz hto hiff
   by_cases hto:tt<=j
   ·have et:¬ (j:Int) < (tt:Int):=by omega
    have HD:=aB (show bI c f x.1 x.2 j gr=0 by rw [HL8.out,if_neg (fun z=>z.2 ⟨by rw [HN.out];exact HIF.out.2 hto,HNN.out⟩)])
    clear hto
    go_wp2
    go_roundw
    case rel=>exact⟨j+1,gr,_,_,by omega,by go_num,rfl,rfl,HS.out.next HX.out hj3 HD.out H7.out K3.out⟩
    case measure=>simp only [intOf];omega
   ·have et:(j:Int) < (tt:Int):=by omega
    have HD:=aB (show R=41 from HST.out 41 (by rw [HL8.out,if_pos ⟨H8.out,fun z=>hto (HIF.out.1 (by rw [<- HN.out];exact z.1))⟩]) (by decide))
    clear hto
    go_wp2
    go_ret
    exact⟨congrArg (fun z=>Ending.returned (.int .i64 z)) HD.out.symm,BZ.out⟩
end
theorem aI8{c f:Bool}{t:Tr}(h:aS c f 0 0 (pp [] t)=0)(hf:∀ x∈pp [] t,x.2.f.rs.length<=1048576):Oke c f t:=by
 refine rF t [] fun z hz=>?_
 have h1:=xZ h z hz
 refine⟨h1.k,h1.ok,fun q=>?_,hf z hz⟩
 obtain⟨pre,post,e⟩:=List.append_of_mem hz
 have hk:=eH _ 0 0 h pre z post e
 unfold bI at hk
 split at hk
 ·cases hk
 split at hk
 ·cases hk
 split at hk
 ·cases hk
 rename_i h2
 have h3:=(Classical.not_not.1 h2).2.2
 unfold dV at h3
 rw [if_neg (by omega),if_neg (by omega)] at h3
 exact List.eq_nil_of_length_eq_zero (by simpa using h3)
theorem sS{w:World}{t:Tr}(m:Md)(hT:TB w t)(hf:∀ x∈pp [] t,x.2.f.rs.length<=1048576) :
  Calls Tryz.prog 18 #[.agg #[.int .i64 t.f.k,.int .i64 t.f.n,.int .i64 t.f.mn,.int .i64 t.f.mx,.slice t.f.rq t.f.rs.length t.f.rc,.slice t.f.kq t.f.kl t.f.kc],.agg #[.bool m.c,.bool m.f]] w fun e w'=>e=.returned (.tuple #[.string (txt (dZ m.c m.f t).1),.int .i64 (dZ m.c m.f t).2])/\Below w.heap.size w w':=by
 have L1:=aB (TX.new m hT)
 have RT:=aB (fun W (hW:TX w t m W)=>uA m.c m.f hW.ta (fun x hx=>by have:=hf x hx;omega))
 obtain⟨out,ho⟩:∃ o,dZ m.c m.f t=o:=⟨_,rfl⟩
 rw [ho]
 unfold dZ at ho
 obtain⟨r,hr⟩:∃ r,aS m.c m.f 0 0 (pp [] t)=r:=⟨_,rfl⟩
 have TD:Hid (r=0->∀ W,TX w t m W->Calls Tryz.prog 45 #[.agg #[.int .i64 t.f.k,.int .i64 t.f.n,.int .i64 t.f.mn,.int .i64 t.f.mx,.slice t.f.rq t.f.rs.length t.f.rc,.slice t.f.kq t.f.kl t.f.kc],.agg #[.bool m.c,.bool m.f]] W fun e w'=>e=.returned (.string (txt (prE m.c (er t))))/\Below W.heap.size W w'):=fun e W hW=>
  wV t (aI8 (hr.trans e) hf) (by rw [<- dM t []];exact gU (hr.trans e)) W hW.ta
 have hroom:r=0->(prE m.c (er t)).length<=60000000000:=fun e=>mE (hr.trans e)
 rw [hr] at ho RT
 clear hT hf
 go_enter Tryz.func18,Tryz.ntmps18
 go_upto_region 1 with fail
 generalize ((w.alloc (.cells #[.int .i64 t.f.k,.int .i64 t.f.n,.int .i64 t.f.mn,.int .i64 t.f.mx,.slice t.f.rq t.f.rs.length t.f.rc,.slice t.f.kq t.f.kl t.f.kc] 25)).alloc (.cells #[.bool m.c,.bool m.f] 27))=w1 at L1 ⊢
 obtain⟨n0,n1,n2,n3,n4,n5⟩:=L1.out.nd.six
 simp only [Nat.zero_add] at n1 n2 n3 n4 n5
 have a0:=aA L1.out.md (i:=0) rfl
 have a1:=aA L1.out.md (i:=1) rfl
 go_upto_region 2 with (go_at_call 44;refine(RT.out _ L1.out).mono ?_;rintro e w2 ⟨rfl,h2⟩;have L2:=aB (L1.out.kept h2);clear h2)
 clear n0 n1 n2 n3 n4 n5 a0 a1
 by_cases h0:r=0
 ·subst h0
  rw [if_neg (by simp)] at ho
  have T2:=aB (TD.out rfl)
  have hl:=hroom rfl
  clear TD hroom hr RT
  obtain⟨n0,n1,n2,n3,n4,n5⟩:=L2.out.nd.six
  simp only [Nat.zero_add] at n1 n2 n3 n4 n5
  have a0:=aA L2.out.md (i:=0) rfl
  have a1:=aA L2.out.md (i:=1) rfl
  generalize prE m.c (er t)=D at T2 ho hl
  have z:=aD D
  by_cases hg:2000 < D.length
  ·rw [if_pos hg] at ho
   subst ho
   have q:decide ((2000:Int) < ((txt D).size:Int))=true:=decide_eq_true (by omega)
   go_wp2_with (go_at_call 45;refine(T2.out _ L2.out).mono ?_;rintro e w3 ⟨rfl,h3⟩;have L3:=aB (L2.out.kept h3);clear h3)
   all_goals first |(exfalso;omega) | skip
   go_ret2
   exact⟨rfl,L3.out.bel⟩
  ·rw [if_neg hg] at ho
   subst ho
   have q:decide ((2000:Int) < ((txt D).size:Int))=false:=decide_eq_false (by omega)
   go_wp2_with (go_at_call 45;refine(T2.out _ L2.out).mono ?_;rintro e w3 ⟨rfl,h3⟩;have L3:=aB (L2.out.kept h3);clear h3)
   all_goals first |(exfalso;omega) | skip
   go_ret2
   exact⟨rfl,L3.out.bel⟩
 ·rw [if_pos h0] at ho
  subst ho
  have q:(r != 0)=true:=by simpa using h0
  clear TD hroom hr RT
  go_wp2
  go_ret2
  exact⟨rfl,L2.out.bel⟩
section
attribute [local go_sem] bC
theorem bM{s:ByteArray}{p:Nat}(h:bad s p=true):ch s p=-1/\wd s p=1:=⟨(mV h).1,(mV h).2.1⟩
theorem iW(s:ByteArray)(p n:Nat):(s.extract p (p+n)).toList=sl s p n:=by rw [Lib.toList_data,pL]
theorem aB9(s:ByteArray)(p:Nat)(w:World)(hp:p < s.size)(hs:s.size<=1099511627776) :
  Calls Tryz.prog 137 #[.string s,.int .i64 (p:Int)] w fun e w'=>e=.returned (.tuple #[.int .i64 (ch s p),.int .i64 (wd s p:Int)])/\Below w.heap.size w w':=by
 have h0:¬ (p:Int) < 0:=by omega
 have h1:¬ (s.size:Int)<=(p:Int):=by omega
 have h2:(0:Int)<=(p:Int):=by omega
 have h3:(p:Int) < (s.size:Int):=by omega
 have g0:=pS s p hp
 obtain⟨b0,hb0⟩:∃ b,bt s p=b:=⟨_,rfl⟩
 have hbl:=iJ s p
 rw [hb0] at g0 hbl
 have wb:IntKind.wrap .i64 (b0:Int)=(b0:Int):=wrap_small _ (by omega) (by omega)
 have HB:Hid (bt s p=b0):=hb0
 clear hb0
 by_cases k1:(b0:Int) < 128
 ·have E:Hid (ch s p=(b0:Int)/\wd s p=1):=by
   show ch s p=(b0:Int)/\wd s p=1
   have e:Utf8.decode s p=(b0,1):=by
    rw [fK,HB.out]
    unfold Lib.decodeN
    rw [if_pos (by omega)]
   have hb:bad s p=false:=by unfold bad;rw [e];simp;omega
   exact⟨by rw [iA hb,e],by unfold wd;rw [e]⟩
  go_enter Tryz.func137,Tryz.ntmps137
  go_wp2
  go_ret2
  rw [E.out.1,E.out.2]
  exact⟨rfl,Below.refl _ _⟩
 by_cases k2:¬ ((192:Int)<=(b0:Int)/\(b0:Int) < 248)
 ·have E:Hid (ch s p=-1/\wd s p=1):=bM (zQ (by rw [HB.out];omega))
  have k5:¬ ((192:Int)<=(b0:Int)/\(b0:Int) < 224):=by omega
  have k6:¬ ((224:Int)<=(b0:Int)/\(b0:Int) < 240):=by omega
  have k7:¬ ((240:Int)<=(b0:Int)/\(b0:Int) < 248):=by omega
  by_cases k3:(b0:Int) < 192
  ·have k4:¬ (192:Int)<=(b0:Int):=by omega
   have k8:¬ (224:Int)<=(b0:Int):=by omega
   have k9:¬ (240:Int)<=(b0:Int):=by omega
   clear k2 k5 k6 k7
   go_enter Tryz.func137,Tryz.ntmps137
   go_wp2
   go_ret2
   rw [E.out.1,E.out.2]
   exact⟨rfl,Below.refl _ _⟩
  ·have j1:(192:Int)<=(b0:Int):=by omega
   have j2:(224:Int)<=(b0:Int):=by omega
   have j3:(240:Int)<=(b0:Int):=by omega
   have j4:¬ (b0:Int) < 224:=by omega
   have j5:¬ (b0:Int) < 240:=by omega
   have j6:¬ (b0:Int) < 248:=by omega
   clear k2 k5 k6 k7
   go_enter Tryz.func137,Tryz.ntmps137
   go_wp2
   go_ret2
   rw [E.out.1,E.out.2]
   exact⟨rfl,Below.refl _ _⟩
 -- a leading byte
 obtain⟨n,c0,hLd⟩:∃ n c0,wM b0 n c0:=by
  by_cases q1:b0 < 224
  ·exact⟨2,_,.inl ⟨rfl,by omega,q1,rfl⟩⟩
  by_cases q2:b0 < 240
  ·exact⟨3,_,.inr (.inl ⟨rfl,by omega,q2,rfl⟩)⟩
  ·exact⟨4,_,.inr (.inr ⟨rfl,by omega,by omega,rfl⟩)⟩
 have LD:Hid (wM (bt s p) n c0):=by show wM (bt s p) n c0;rw [HB.out];exact hLd
 have hc0:0<=c0/\c0<=31:=by rcases hLd with h | h | h <;> omega
 have hwsp:IntKind.wrap .i64 ((s.size:Int) - (p:Int))=(s.size:Int) - (p:Int):=wrap_small _ (by omega) (by omega)
 go_enter Tryz.func137,Tryz.ntmps137
 rcases hLd with⟨rfl,l1,l2,l3⟩ | ⟨rfl,l1,l2,l3⟩ | ⟨rfl,l1,l2,l3⟩
 ·have j1:(192:Int)<=(b0:Int):=by omega
  have j4:(b0:Int) < 224:=by omega
  have v1:IntKind.wrap .i64 ((b0:Int) - 192)=c0:=by rw [wrap_small _ (by omega) (by omega)];omega
  clear k2 l1 l2 l3
  go_upto_region 16 with fail
  by_cases hsh:s.size - p < 2
  ·have E:Hid (ch s p=-1/\wd s p=1):=bM (lB LD.out hsh)
   have q1:(s.size:Int) - (p:Int) < 2:=by omega
   go_wp2
   go_ret2
   rw [E.out.1,E.out.2]
   exact⟨rfl,Below.refl _ _⟩
  have q1:¬ (s.size:Int) - (p:Int) < 2:=by omega
  have hpn:p+2<=s.size:=by omega
  clear hsh
  go_wp2
  go_loopw [7,8] (fun t i wr=>∃ k:Nat,1<=k/\k<=2/\i=.int .i64 (k:Int)/\t=.int .i64 (cvF s p c0 (k - 1))/\lL s p k/\wr=w) (fun _ i _=>2 - (intOf i).toNat)
  case atStart=>exact⟨1,by omega,by omega,rfl,rfl,fun j h1 h2=>by omega,rfl⟩
  case round=>
   obtain⟨k,hk1,hk,rfl,rfl,hct,hw⟩:=hrel
   subst hw
   obtain⟨j,rfl⟩:∃ j,k=j+1:=⟨k - 1,by omega⟩
   rw [Nat.add_sub_cancel]
   have C:Hid (lL s p (j+1)):=hct
   have hcr:=kZ (s:=s) (p:=p) hc0.1 hc0.2 j (by omega) hct
   obtain⟨cv,hcv⟩:∃ cv,cvF s p c0 j=cv:=⟨_,rfl⟩
   have HCV:Hid (cvF s p c0 j=cv):=hcv
   rw [hcv] at hcr ⊢
   clear hcv hct
   by_cases hlt:j+1 < 2
   ·have gk:=pS s (p+(j+1)) (by omega)
    obtain⟨bk,hbk⟩:∃ b,bt s (p+(j+1))=b:=⟨_,rfl⟩
    have hbkl:=iJ s (p+(j+1))
    rw [hbk] at gk hbkl
    have HBK:Hid (bt s (p+(j+1))=bk):=hbk
    clear hbk
    have i1:((j+1:Nat):Int) < 2:=by omega
    have wbk:IntKind.wrap .i64 (bk:Int)=(bk:Int):=wrap_small _ (by omega) (by omega)
    have wix:IntKind.wrap .i64 ((p:Int)+((j+1:Nat):Int))=((p+(j+1):Nat):Int):=by rw [wrap_small _ (by omega) (by omega)];omega
    have x0:(0:Int)<=((p+(j+1):Nat):Int):=by omega
    have x1:((p+(j+1):Nat):Int) < (s.size:Int):=by omega
    have x2:((p+(j+1):Nat):Int).toNat=p+(j+1):=by omega
    obtain⟨ix,hix⟩:∃ ix,p+(j+1)=ix:=⟨_,rfl⟩
    obtain⟨jj,hjj⟩:∃ jj,j+1=jj:=⟨_,rfl⟩
    have ixl:ix < s.size:=by omega
    have gx:(s[ix]'ixl).toNat=bk:=by subst hix;exact gk
    clear gk
    rw [hix] at wix x0 x1 x2
    rw [hjj] at wix i1 ⊢
    have HJ:Hid (j+1=jj):=hjj
    have HIX:Hid (p+(j+1)=ix):=hix
    clear hjj hix
    by_cases b1:(bk:Int) < 128
    ·have E:Hid (ch s p=-1/\wd s p=1):=bM (fC LD.out (j:=j+1) (by omega) hlt (.inl (by rw [HBK.out];omega)))
     go_wp2
     go_ret2
     rw [E.out.1,E.out.2]
     exact⟨rfl,Below.refl _ _⟩
    by_cases b2:(191:Int) < (bk:Int)
    ·have E:Hid (ch s p=-1/\wd s p=1):=bM (fC LD.out (j:=j+1) (by omega) hlt (.inr (by rw [HBK.out];omega)))
     go_wp2
     go_ret2
     rw [E.out.1,E.out.2]
     exact⟨rfl,Below.refl _ _⟩
    have y1:IntKind.wrap .i64 (64 * cv)=64 * cv:=wrap_small _ (by omega) (by omega)
    have y2:IntKind.wrap .i64 (64 * cv+(bk:Int))=64 * cv+(bk:Int):=wrap_small _ (by omega) (by omega)
    have y3:IntKind.wrap .i64 (64 * cv+(bk:Int) - 128)=64 * cv+(bk:Int) - 128:=wrap_small _ (by omega) (by omega)
    have y4:IntKind.wrap .i64 ((jj:Int)+1)=(jj:Int)+1:=wrap_small _ (by omega) (by omega)
    go_wp2
    go_roundw
    case rel=>
     refine⟨jj+1,by omega,by have:=HJ.out;omega,by go_num,?_,fun i q1 q2=>?_,by first | rfl | trivial⟩
     ·rw [Nat.add_sub_cancel,<- HJ.out,cvF,HCV.out,HBK.out]
     ·by_cases e:i < j+1
      ·exact C.out i q1 e
      ·obtain rfl:i=j+1:=by have:=HJ.out;omega
       rw [HBK.out];omega
    case measure=>simp only [intOf];have:=HJ.out;omega
   ·obtain rfl:j=2 - 1:=by omega
    have i1:¬ (((2:Nat) - 1+1:Nat):Int) < 2:=by omega
    have his:=uB cv
    have wpn:IntKind.wrap .i64 ((p:Int)+2)=(p:Int)+2:=wrap_small _ (by omega) (by omega)
    have z1:(p:Int)<=(p:Int)+2:=by omega
    have z2:(p:Int)+2<=(s.size:Int):=by omega
    have z3:((p:Int)+2).toNat=p+2:=by omega
    rcases hcx:isC cv with _ | _
    ·rw [hcx] at his
     have E:Hid (ch s p=-1/\wd s p=1):=by
      refine bM ?_
      rcases hb:bad s p with _ | _
      ·exfalso
       have gv:=eY LD.out C.out hb
       have hv:=kY s p
       rw [gv.1,HCV.out] at hv
       simp [isC] at hcx
       simp [Lib.validRune] at hv
       omega
      ·rfl
     go_wp2_with (go_at_call 140;(with_reducible refine(his _).mono ?_);rintro e w5 ⟨rfl,h5⟩;subst w5)
     refine wx9 ?_
     repeat (go_big_quiet_step (first | exact rfl))
     refine wpQuiet_nil ?_
     intro w5 hw5
     have B5:Hid (Below wr.heap.size wr w5):=aM hw5
     clear hw5
     go_wp2
     go_ret2
     rw [E.out.1,E.out.2]
     exact⟨rfl,B5.out⟩
    ·rw [hcx] at his
     have hEx:Hid (∀ W,Calls Tryz.prog 141 #[.int .i64 cv] W fun e w'=>e=.returned (.string (txt (Lib.encodeRune cv)))/\Below W.heap.size W w'):=fun W=>lP cv W hcx
     have hir:0<=cv/\cv<=1114111/\(cv < 55296\/57343 < cv):=by simpa [isC] using hcx
     have HIR:Hid _:=hir
     obtain⟨T,hT⟩:∃ T,txt (Lib.encodeRune cv)=T:=⟨_,rfl⟩
     rw [hT] at hEx
     have hTl:T.toList=Lib.encodeRune cv:=by rw [<- hT,Lib.toList_data];rfl
     have hsl:=iW s p 2
     by_cases heq:Lib.encodeRune cv=sl s p 2
     ·have hcmp:(T.toList==(s.extract p (p+2)).toList)=true:=by rw [hTl,hsl,heq];simp
      have E:Hid (ch s p=cv/\wd s p=2):=by
       show ch s p=cv/\wd s p=2
       have hl:(Lib.encodeRune cv).length=2:=by rw [heq];unfold sl;rw [List.length_take,List.length_drop,bG];omega
       have d:=iY HIR.out (by rw [hl];exact heq.symm)
       exact⟨by rw [iA d.2.2,d.1],by rw [d.2.1,hl]⟩
      clear hT hTl hsl heq hir
      go_wp2_with (go_at_call 140;(with_reducible refine(his _).mono ?_);rintro e w5 ⟨rfl,h5⟩;subst w5)
      refine wx9 ?_
      repeat (go_big_quiet_step (first | exact rfl |(go_at_call 141;exact cJ (hEx.out _))))
      refine wpQuiet_nil ?_
      intro w5 hw5
      have B5:Hid (Below wr.heap.size wr w5):=aM hw5
      clear hw5
      go_wp2
      go_ret2
      rw [E.out.1,E.out.2]
      exact⟨rfl,B5.out⟩
     ·have hcmp:(T.toList==(s.extract p (p+2)).toList)=false:=by rw [hTl,hsl];simpa using heq
      have E:Hid (ch s p=-1/\wd s p=1):=by
       refine bM ?_
       rcases hb:bad s p with _ | _
       ·exfalso
        have gv:=eY LD.out C.out hb
        have es:=pO s p hp hb
        rw [gv.2,gv.1,HCV.out] at es
        exact heq es
       ·rfl
      clear hT hTl hsl heq hir
      go_wp2_with (go_at_call 140;(with_reducible refine(his _).mono ?_);rintro e w5 ⟨rfl,h5⟩;subst w5)
      refine wx9 ?_
      repeat (go_big_quiet_step (first | exact rfl |(go_at_call 141;exact cJ (hEx.out _))))
      refine wpQuiet_nil ?_
      intro w5 hw5
      have B5:Hid (Below wr.heap.size wr w5):=aM hw5
      clear hw5
      go_wp2
      go_ret2
      rw [E.out.1,E.out.2]
      exact⟨rfl,B5.out⟩
 ·have j1:(224:Int)<=(b0:Int):=by omega
  have j4:(b0:Int) < 240:=by omega
  have j6:(192:Int)<=(b0:Int):=by omega
  have j7:¬ (b0:Int) < 224:=by omega
  have v1:IntKind.wrap .i64 ((b0:Int) - 224)=c0:=by rw [wrap_small _ (by omega) (by omega)];omega
  clear k2 l1 l2 l3
  go_upto_region 16 with fail
  by_cases hsh:s.size - p < 3
  ·have E:Hid (ch s p=-1/\wd s p=1):=bM (lB LD.out hsh)
   have q1:(s.size:Int) - (p:Int) < 3:=by omega
   go_wp2
   go_ret2
   rw [E.out.1,E.out.2]
   exact⟨rfl,Below.refl _ _⟩
  have q1:¬ (s.size:Int) - (p:Int) < 3:=by omega
  have hpn:p+3<=s.size:=by omega
  clear hsh
  go_wp2
  go_loopw [7,8] (fun t i wr=>∃ k:Nat,1<=k/\k<=3/\i=.int .i64 (k:Int)/\t=.int .i64 (cvF s p c0 (k - 1))/\lL s p k/\wr=w) (fun _ i _=>3 - (intOf i).toNat)
  case atStart=>exact⟨1,by omega,by omega,rfl,rfl,fun j h1 h2=>by omega,rfl⟩
  case round=>
   obtain⟨k,hk1,hk,rfl,rfl,hct,hw⟩:=hrel
   subst hw
   obtain⟨j,rfl⟩:∃ j,k=j+1:=⟨k - 1,by omega⟩
   rw [Nat.add_sub_cancel]
   have C:Hid (lL s p (j+1)):=hct
   have hcr:=kZ (s:=s) (p:=p) hc0.1 hc0.2 j (by omega) hct
   obtain⟨cv,hcv⟩:∃ cv,cvF s p c0 j=cv:=⟨_,rfl⟩
   have HCV:Hid (cvF s p c0 j=cv):=hcv
   rw [hcv] at hcr ⊢
   clear hcv hct
   by_cases hlt:j+1 < 3
   ·have gk:=pS s (p+(j+1)) (by omega)
    obtain⟨bk,hbk⟩:∃ b,bt s (p+(j+1))=b:=⟨_,rfl⟩
    have hbkl:=iJ s (p+(j+1))
    rw [hbk] at gk hbkl
    have HBK:Hid (bt s (p+(j+1))=bk):=hbk
    clear hbk
    have i1:((j+1:Nat):Int) < 3:=by omega
    have wbk:IntKind.wrap .i64 (bk:Int)=(bk:Int):=wrap_small _ (by omega) (by omega)
    have wix:IntKind.wrap .i64 ((p:Int)+((j+1:Nat):Int))=((p+(j+1):Nat):Int):=by rw [wrap_small _ (by omega) (by omega)];omega
    have x0:(0:Int)<=((p+(j+1):Nat):Int):=by omega
    have x1:((p+(j+1):Nat):Int) < (s.size:Int):=by omega
    have x2:((p+(j+1):Nat):Int).toNat=p+(j+1):=by omega
    obtain⟨ix,hix⟩:∃ ix,p+(j+1)=ix:=⟨_,rfl⟩
    obtain⟨jj,hjj⟩:∃ jj,j+1=jj:=⟨_,rfl⟩
    have ixl:ix < s.size:=by omega
    have gx:(s[ix]'ixl).toNat=bk:=by subst hix;exact gk
    clear gk
    rw [hix] at wix x0 x1 x2
    rw [hjj] at wix i1 ⊢
    have HJ:Hid (j+1=jj):=hjj
    have HIX:Hid (p+(j+1)=ix):=hix
    clear hjj hix
    by_cases b1:(bk:Int) < 128
    ·have E:Hid (ch s p=-1/\wd s p=1):=bM (fC LD.out (j:=j+1) (by omega) hlt (.inl (by rw [HBK.out];omega)))
     go_wp2
     go_ret2
     rw [E.out.1,E.out.2]
     exact⟨rfl,Below.refl _ _⟩
    by_cases b2:(191:Int) < (bk:Int)
    ·have E:Hid (ch s p=-1/\wd s p=1):=bM (fC LD.out (j:=j+1) (by omega) hlt (.inr (by rw [HBK.out];omega)))
     go_wp2
     go_ret2
     rw [E.out.1,E.out.2]
     exact⟨rfl,Below.refl _ _⟩
    have y1:IntKind.wrap .i64 (64 * cv)=64 * cv:=wrap_small _ (by omega) (by omega)
    have y2:IntKind.wrap .i64 (64 * cv+(bk:Int))=64 * cv+(bk:Int):=wrap_small _ (by omega) (by omega)
    have y3:IntKind.wrap .i64 (64 * cv+(bk:Int) - 128)=64 * cv+(bk:Int) - 128:=wrap_small _ (by omega) (by omega)
    have y4:IntKind.wrap .i64 ((jj:Int)+1)=(jj:Int)+1:=wrap_small _ (by omega) (by omega)
    go_wp2
    go_roundw
    case rel=>
     refine⟨jj+1,by omega,by have:=HJ.out;omega,by go_num,?_,fun i q1 q2=>?_,by first | rfl | trivial⟩
     ·rw [Nat.add_sub_cancel,<- HJ.out,cvF,HCV.out,HBK.out]
     ·by_cases e:i < j+1
      ·exact C.out i q1 e
      ·obtain rfl:i=j+1:=by have:=HJ.out;omega
       rw [HBK.out];omega
    case measure=>simp only [intOf];have:=HJ.out;omega
   ·obtain rfl:j=3 - 1:=by omega
    have i1:¬ (((3:Nat) - 1+1:Nat):Int) < 3:=by omega
    have his:=uB cv
    have wpn:IntKind.wrap .i64 ((p:Int)+3)=(p:Int)+3:=wrap_small _ (by omega) (by omega)
    have z1:(p:Int)<=(p:Int)+3:=by omega
    have z2:(p:Int)+3<=(s.size:Int):=by omega
    have z3:((p:Int)+3).toNat=p+3:=by omega
    rcases hcx:isC cv with _ | _
    ·rw [hcx] at his
     have E:Hid (ch s p=-1/\wd s p=1):=by
      refine bM ?_
      rcases hb:bad s p with _ | _
      ·exfalso
       have gv:=eY LD.out C.out hb
       have hv:=kY s p
       rw [gv.1,HCV.out] at hv
       simp [isC] at hcx
       simp [Lib.validRune] at hv
       omega
      ·rfl
     go_wp2_with (go_at_call 140;(with_reducible refine(his _).mono ?_);rintro e w5 ⟨rfl,h5⟩;subst w5)
     refine wx9 ?_
     repeat (go_big_quiet_step (first | exact rfl))
     refine wpQuiet_nil ?_
     intro w5 hw5
     have B5:Hid (Below wr.heap.size wr w5):=aM hw5
     clear hw5
     go_wp2
     go_ret2
     rw [E.out.1,E.out.2]
     exact⟨rfl,B5.out⟩
    ·rw [hcx] at his
     have hEx:Hid (∀ W,Calls Tryz.prog 141 #[.int .i64 cv] W fun e w'=>e=.returned (.string (txt (Lib.encodeRune cv)))/\Below W.heap.size W w'):=fun W=>lP cv W hcx
     have hir:0<=cv/\cv<=1114111/\(cv < 55296\/57343 < cv):=by simpa [isC] using hcx
     have HIR:Hid _:=hir
     obtain⟨T,hT⟩:∃ T,txt (Lib.encodeRune cv)=T:=⟨_,rfl⟩
     rw [hT] at hEx
     have hTl:T.toList=Lib.encodeRune cv:=by rw [<- hT,Lib.toList_data];rfl
     have hsl:=iW s p 3
     by_cases heq:Lib.encodeRune cv=sl s p 3
     ·have hcmp:(T.toList==(s.extract p (p+3)).toList)=true:=by rw [hTl,hsl,heq];simp
      have E:Hid (ch s p=cv/\wd s p=3):=by
       show ch s p=cv/\wd s p=3
       have hl:(Lib.encodeRune cv).length=3:=by rw [heq];unfold sl;rw [List.length_take,List.length_drop,bG];omega
       have d:=iY HIR.out (by rw [hl];exact heq.symm)
       exact⟨by rw [iA d.2.2,d.1],by rw [d.2.1,hl]⟩
      clear hT hTl hsl heq hir
      go_wp2_with (go_at_call 140;(with_reducible refine(his _).mono ?_);rintro e w5 ⟨rfl,h5⟩;subst w5)
      refine wx9 ?_
      repeat (go_big_quiet_step (first | exact rfl |(go_at_call 141;exact cJ (hEx.out _))))
      refine wpQuiet_nil ?_
      intro w5 hw5
      have B5:Hid (Below wr.heap.size wr w5):=aM hw5
      clear hw5
      go_wp2
      go_ret2
      rw [E.out.1,E.out.2]
      exact⟨rfl,B5.out⟩
     ·have hcmp:(T.toList==(s.extract p (p+3)).toList)=false:=by rw [hTl,hsl];simpa using heq
      have E:Hid (ch s p=-1/\wd s p=1):=by
       refine bM ?_
       rcases hb:bad s p with _ | _
       ·exfalso
        have gv:=eY LD.out C.out hb
        have es:=pO s p hp hb
        rw [gv.2,gv.1,HCV.out] at es
        exact heq es
       ·rfl
      clear hT hTl hsl heq hir
      go_wp2_with (go_at_call 140;(with_reducible refine(his _).mono ?_);rintro e w5 ⟨rfl,h5⟩;subst w5)
      refine wx9 ?_
      repeat (go_big_quiet_step (first | exact rfl |(go_at_call 141;exact cJ (hEx.out _))))
      refine wpQuiet_nil ?_
      intro w5 hw5
      have B5:Hid (Below wr.heap.size wr w5):=aM hw5
      clear hw5
      go_wp2
      go_ret2
      rw [E.out.1,E.out.2]
      exact⟨rfl,B5.out⟩
 ·have j1:(240:Int)<=(b0:Int):=by omega
  have j4:(b0:Int) < 248:=by omega
  have j6:(192:Int)<=(b0:Int):=by omega
  have j7:¬ (b0:Int) < 224:=by omega
  have j8:(224:Int)<=(b0:Int):=by omega
  have j9:¬ (b0:Int) < 240:=by omega
  have v1:IntKind.wrap .i64 ((b0:Int) - 240)=c0:=by rw [wrap_small _ (by omega) (by omega)];omega
  clear k2 l1 l2 l3
  go_upto_region 16 with fail
  by_cases hsh:s.size - p < 4
  ·have E:Hid (ch s p=-1/\wd s p=1):=bM (lB LD.out hsh)
   have q1:(s.size:Int) - (p:Int) < 4:=by omega
   go_wp2
   go_ret2
   rw [E.out.1,E.out.2]
   exact⟨rfl,Below.refl _ _⟩
  have q1:¬ (s.size:Int) - (p:Int) < 4:=by omega
  have hpn:p+4<=s.size:=by omega
  clear hsh
  go_wp2
  go_loopw [7,8] (fun t i wr=>∃ k:Nat,1<=k/\k<=4/\i=.int .i64 (k:Int)/\t=.int .i64 (cvF s p c0 (k - 1))/\lL s p k/\wr=w) (fun _ i _=>4 - (intOf i).toNat)
  case atStart=>exact⟨1,by omega,by omega,rfl,rfl,fun j h1 h2=>by omega,rfl⟩
  case round=>
   obtain⟨k,hk1,hk,rfl,rfl,hct,hw⟩:=hrel
   subst hw
   obtain⟨j,rfl⟩:∃ j,k=j+1:=⟨k - 1,by omega⟩
   rw [Nat.add_sub_cancel]
   have C:Hid (lL s p (j+1)):=hct
   have hcr:=kZ (s:=s) (p:=p) hc0.1 hc0.2 j (by omega) hct
   obtain⟨cv,hcv⟩:∃ cv,cvF s p c0 j=cv:=⟨_,rfl⟩
   have HCV:Hid (cvF s p c0 j=cv):=hcv
   rw [hcv] at hcr ⊢
   clear hcv hct
   by_cases hlt:j+1 < 4
   ·have gk:=pS s (p+(j+1)) (by omega)
    obtain⟨bk,hbk⟩:∃ b,bt s (p+(j+1))=b:=⟨_,rfl⟩
    have hbkl:=iJ s (p+(j+1))
    rw [hbk] at gk hbkl
    have HBK:Hid (bt s (p+(j+1))=bk):=hbk
    clear hbk
    have i1:((j+1:Nat):Int) < 4:=by omega
    have wbk:IntKind.wrap .i64 (bk:Int)=(bk:Int):=wrap_small _ (by omega) (by omega)
    have wix:IntKind.wrap .i64 ((p:Int)+((j+1:Nat):Int))=((p+(j+1):Nat):Int):=by rw [wrap_small _ (by omega) (by omega)];omega
    have x0:(0:Int)<=((p+(j+1):Nat):Int):=by omega
    have x1:((p+(j+1):Nat):Int) < (s.size:Int):=by omega
    have x2:((p+(j+1):Nat):Int).toNat=p+(j+1):=by omega
    obtain⟨ix,hix⟩:∃ ix,p+(j+1)=ix:=⟨_,rfl⟩
    obtain⟨jj,hjj⟩:∃ jj,j+1=jj:=⟨_,rfl⟩
    have ixl:ix < s.size:=by omega
    have gx:(s[ix]'ixl).toNat=bk:=by subst hix;exact gk
    clear gk
    rw [hix] at wix x0 x1 x2
    rw [hjj] at wix i1 ⊢
    have HJ:Hid (j+1=jj):=hjj
    have HIX:Hid (p+(j+1)=ix):=hix
    clear hjj hix
    by_cases b1:(bk:Int) < 128
    ·have E:Hid (ch s p=-1/\wd s p=1):=bM (fC LD.out (j:=j+1) (by omega) hlt (.inl (by rw [HBK.out];omega)))
     go_wp2
     go_ret2
     rw [E.out.1,E.out.2]
     exact⟨rfl,Below.refl _ _⟩
    by_cases b2:(191:Int) < (bk:Int)
    ·have E:Hid (ch s p=-1/\wd s p=1):=bM (fC LD.out (j:=j+1) (by omega) hlt (.inr (by rw [HBK.out];omega)))
     go_wp2
     go_ret2
     rw [E.out.1,E.out.2]
     exact⟨rfl,Below.refl _ _⟩
    have y1:IntKind.wrap .i64 (64 * cv)=64 * cv:=wrap_small _ (by omega) (by omega)
    have y2:IntKind.wrap .i64 (64 * cv+(bk:Int))=64 * cv+(bk:Int):=wrap_small _ (by omega) (by omega)
    have y3:IntKind.wrap .i64 (64 * cv+(bk:Int) - 128)=64 * cv+(bk:Int) - 128:=wrap_small _ (by omega) (by omega)
    have y4:IntKind.wrap .i64 ((jj:Int)+1)=(jj:Int)+1:=wrap_small _ (by omega) (by omega)
    go_wp2
    go_roundw
    case rel=>
     refine⟨jj+1,by omega,by have:=HJ.out;omega,by go_num,?_,fun i q1 q2=>?_,by first | rfl | trivial⟩
     ·rw [Nat.add_sub_cancel,<- HJ.out,cvF,HCV.out,HBK.out]
     ·by_cases e:i < j+1
      ·exact C.out i q1 e
      ·obtain rfl:i=j+1:=by have:=HJ.out;omega
       rw [HBK.out];omega
    case measure=>simp only [intOf];have:=HJ.out;omega
   ·obtain rfl:j=4 - 1:=by omega
    have i1:¬ (((4:Nat) - 1+1:Nat):Int) < 4:=by omega
    have his:=uB cv
    have wpn:IntKind.wrap .i64 ((p:Int)+4)=(p:Int)+4:=wrap_small _ (by omega) (by omega)
    have z1:(p:Int)<=(p:Int)+4:=by omega
    have z2:(p:Int)+4<=(s.size:Int):=by omega
    have z3:((p:Int)+4).toNat=p+4:=by omega
    rcases hcx:isC cv with _ | _
    ·rw [hcx] at his
     have E:Hid (ch s p=-1/\wd s p=1):=by
      refine bM ?_
      rcases hb:bad s p with _ | _
      ·exfalso
       have gv:=eY LD.out C.out hb
       have hv:=kY s p
       rw [gv.1,HCV.out] at hv
       simp [isC] at hcx
       simp [Lib.validRune] at hv
       omega
      ·rfl
     go_wp2_with (go_at_call 140;(with_reducible refine(his _).mono ?_);rintro e w5 ⟨rfl,h5⟩;subst w5)
     refine wx9 ?_
     repeat (go_big_quiet_step (first | exact rfl))
     refine wpQuiet_nil ?_
     intro w5 hw5
     have B5:Hid (Below wr.heap.size wr w5):=aM hw5
     clear hw5
     go_wp2
     go_ret2
     rw [E.out.1,E.out.2]
     exact⟨rfl,B5.out⟩
    ·rw [hcx] at his
     have hEx:Hid (∀ W,Calls Tryz.prog 141 #[.int .i64 cv] W fun e w'=>e=.returned (.string (txt (Lib.encodeRune cv)))/\Below W.heap.size W w'):=fun W=>lP cv W hcx
     have hir:0<=cv/\cv<=1114111/\(cv < 55296\/57343 < cv):=by simpa [isC] using hcx
     have HIR:Hid _:=hir
     obtain⟨T,hT⟩:∃ T,txt (Lib.encodeRune cv)=T:=⟨_,rfl⟩
     rw [hT] at hEx
     have hTl:T.toList=Lib.encodeRune cv:=by rw [<- hT,Lib.toList_data];rfl
     have hsl:=iW s p 4
     by_cases heq:Lib.encodeRune cv=sl s p 4
     ·have hcmp:(T.toList==(s.extract p (p+4)).toList)=true:=by rw [hTl,hsl,heq];simp
      have E:Hid (ch s p=cv/\wd s p=4):=by
       show ch s p=cv/\wd s p=4
       have hl:(Lib.encodeRune cv).length=4:=by rw [heq];unfold sl;rw [List.length_take,List.length_drop,bG];omega
       have d:=iY HIR.out (by rw [hl];exact heq.symm)
       exact⟨by rw [iA d.2.2,d.1],by rw [d.2.1,hl]⟩
      clear hT hTl hsl heq hir
      go_wp2_with (go_at_call 140;(with_reducible refine(his _).mono ?_);rintro e w5 ⟨rfl,h5⟩;subst w5)
      refine wx9 ?_
      repeat (go_big_quiet_step (first | exact rfl |(go_at_call 141;exact cJ (hEx.out _))))
      refine wpQuiet_nil ?_
      intro w5 hw5
      have B5:Hid (Below wr.heap.size wr w5):=aM hw5
      clear hw5
      go_wp2
      go_ret2
      rw [E.out.1,E.out.2]
      exact⟨rfl,B5.out⟩
     ·have hcmp:(T.toList==(s.extract p (p+4)).toList)=false:=by rw [hTl,hsl];simpa using heq
      have E:Hid (ch s p=-1/\wd s p=1):=by
       refine bM ?_
       rcases hb:bad s p with _ | _
       ·exfalso
        have gv:=eY LD.out C.out hb
        have es:=pO s p hp hb
        rw [gv.2,gv.1,HCV.out] at es
        exact heq es
       ·rfl
      clear hT hTl hsl heq hir
      go_wp2_with (go_at_call 140;(with_reducible refine(his _).mono ?_);rintro e w5 ⟨rfl,h5⟩;subst w5)
      refine wx9 ?_
      repeat (go_big_quiet_step (first | exact rfl |(go_at_call 141;exact cJ (hEx.out _))))
      refine wpQuiet_nil ?_
      intro w5 hw5
      have B5:Hid (Below wr.heap.size wr w5):=aM hw5
      clear hw5
      go_wp2
      go_ret2
      rw [E.out.1,E.out.2]
      exact⟨rfl,B5.out⟩
end
section
attribute [local go_sem] bC
theorem xQ(c:Int)(w:World):Calls Tryz.prog 138 #[.int .i64 c] w fun e w'=>e=.returned (.bool (bH c))/\w'=w:=by
 by_cases h0:32<=c
 ·by_cases h1:c<=126
  ·have hc:Hid (bH c=true):=by show bH c=true;simp [bH];omega
   go_enter Tryz.func138,Tryz.ntmps138
   go_wp2
   go_ret
   exact⟨by rw [hc.out];rfl,rfl⟩
  ·by_cases h2:159 < c
   ·have hc:Hid (bH c=true):=by show bH c=true;simp [bH];omega
    go_enter Tryz.func138,Tryz.ntmps138
    go_wp2
    go_ret
    exact⟨by rw [hc.out];rfl,rfl⟩
   ·have hc:Hid (bH c=false):=by show bH c=false;simp [bH];omega
    go_enter Tryz.func138,Tryz.ntmps138
    go_wp2
    go_ret
    exact⟨by rw [hc.out];rfl,rfl⟩
 ·have h2:¬ 159 < c:=by omega
  have hc:Hid (bH c=false):=by show bH c=false;simp [bH];omega
  go_enter Tryz.func138,Tryz.ntmps138
  go_wp2
  go_ret
  exact⟨by rw [hc.out];rfl,rfl⟩
theorem wS(s:ByteArray):txt s.data.toList=s:=by
 apply ByteArray.ext
 simp [txt]
theorem rL:∀ x:Fin 16,ByteArray.extract ⟨#[48,49,50,51,52,53,54,55,56,57,97,98,99,100,101,102]⟩ x.val (x.val+1)=txt [gF x.val]:=by decide +kernel
theorem aD9(s:ByteArray)(p n:Nat):s.extract p (p+n)=txt (sl s p n):=by
 rw [<- pL];exact(wS _).symm
theorem zX(s:ByteArray)(p n j:Nat)(hj:j < n)(hp:p+j < s.size):(sl s p n).take (j+1)=(sl s p n).take j ++ [s[p+j]'hp]:=by
 have hl:j < (sl s p n).length:=by unfold sl;rw [List.length_take,List.length_drop,bG];omega
 have e:(sl s p n)[j]?=some (s[p+j]'hp):=by
  unfold sl
  rw [List.getElem?_take_of_lt hj,List.getElem?_drop]
  exact List.getElem?_eq_getElem (by rw [bG];exact hp)
 obtain⟨_,e2⟩:=List.getElem?_eq_some_iff.1 e
 rw [bL _ _ hl,e2]
theorem xP(s:ByteArray)(w:World)(hs:s.size<=100000000) :
  Calls Tryz.prog 96 #[.string s] w fun e w'=>e=.returned (.string (txt (dT s)))/\Below w.heap.size w w':=by
 go_enter Tryz.func96,Tryz.ntmps96
 go_wp2
 go_loopw [3,4] (fun t i wr=>∃ (pos f:Nat) (acc:List (Nat × Int)),i=.int .i64 (pos:Int)/\t=.string (txt (dU s acc))/\acc ++ dF s f pos=us s/\s.size<=pos+f/\(dU s acc).length<=4 * pos/\pos<=s.size/\Below w.heap.size w wr) (fun _ i _=>s.size - (intOf i).toNat)
 case atStart=>exact⟨0,s.size,[],rfl,rfl,rfl,by omega,by simp [dU],Nat.zero_le _,Below.refl _ _⟩
 case round=>
  obtain⟨pos,f,acc,rfl,rfl,hacc,hfu,hap,hps,hb⟩:=hrel
  have B:Hid (Below w.heap.size w wr):=hb
  have A:Hid (acc ++ dF s f pos=us s):=hacc
  obtain⟨L,hL⟩:∃ L,dU s acc=L:=⟨_,rfl⟩
  rw [hL] at hap ⊢
  have HL:Hid (dU s acc=L):=hL
  clear hb hacc hL
  by_cases hp:pos < s.size
  ·obtain⟨f,rfl⟩:∃ g,f=g+1:=⟨f - 1,by omega⟩
   have A2:=A.out
   rw [iK s f pos hp] at A2
   have A3:Hid (acc ++ ((pos,ch s pos) :: dF s f (pos+wd s pos))=us s):=A2
   have hw:=sC s pos
   have hwd:=(pZ s pos hp).2
   have hw4:=(pZ s pos hp).1
   have hnx:=aB9 s pos wr hp (by omega)
   have hsl:=oX s pos
   have i1:(pos:Int) < (s.size:Int):=by omega
   have SH:Hid (shU s pos=if ch s pos=92 then [92,92] else if ch s pos=10 then [92,110] else if bH (ch s pos) then sl s pos (wd s pos) else cQ (sl s pos (wd s pos))):=rfl
   obtain⟨c,hcc⟩:∃ x,ch s pos=x:=⟨_,rfl⟩
   obtain⟨wp,hwp⟩:∃ x,wd s pos=x:=⟨_,rfl⟩
   rw [hcc] at hnx A3 SH
   rw [hwp] at hnx A3 hw hwd hw4 hsl SH
   clear A2 hcc hwp
   obtain⟨np,hnp⟩:∃ np,pos+wp=np:=⟨_,rfl⟩
   have HNP:Hid (pos+wp=np):=hnp
   have hwr:IntKind.wrap .i64 ((pos:Int)+(wp:Int))=(np:Int):=by rw [wrap_small _ (by omega) (by omega)];omega
   have fin:Hid (∀ (w6:World) (M:List UInt8),Below w.heap.size w w6->M=L ++ shU s pos->∃ (pos' f':Nat) (acc':List (Nat × Int)),Value.int .i64 (np:Int)=.int .i64 (pos':Int)/\Value.string (txt M)=.string (txt (dU s acc'))/\acc' ++ dF s f' pos'=us s/\s.size<=pos'+f'/\(dU s acc').length<=4 * pos'/\pos'<=s.size/\Below w.heap.size w w6):=fun w6 M h6 hM=>by
    refine⟨np,f,acc ++ [(pos,c)],rfl,by rw [hM,jH,HL.out],?_,by omega,?_,by omega,h6⟩
    ·rw [<- A3.out,HNP.out];simp
    ·rw [jH,HL.out,List.length_append];omega
   have hpl:=xQ c
   have n0:(0:Int)<=(pos:Int):=by omega
   have n1:(pos:Int)<=(np:Int):=by omega
   have n2:(np:Int)<=(s.size:Int):=by omega
   have n3:pos < np:=by omega
   clear hnp
   by_cases h92:c=92
   ·subst h92
    have E:Hid (shU s pos=[92,92]):=by show shU s pos=_;rw [SH.out,if_pos rfl]
    have hap2:txt L ++ (⟨#[92,92]⟩:ByteArray)=txt (L ++ [92,92]):=aI L [92,92]
    have hsm:((txt L).size:Int)+2<=9223372036854775807:=by rw [aD];omega
    have hsn:(txt L).size<=1000000000:=by rw [aD];omega
    go_wp2_with first
     |(go_at_call 137;(with_reducible refine(Calls.mono hnx ?_));rintro e w5 ⟨rfl,h5⟩;have B5:Hid (Below w.heap.size w w5):=aG B.out h5 lz9;clear h5)
     |(go_at_call 138;(with_reducible refine(hpl _).mono ?_);rintro e w6 ⟨rfl,h6⟩;subst w6)
    go_roundw
    case rel=>exact fin.out _ _ B5.out (by rw [E.out])
    case measure=>simp only [intOf];omega
   have b92:(c==92)=false:=by simpa using h92
   by_cases h10:c=10
   ·subst h10
    have E:Hid (shU s pos=[92,110]):=by show shU s pos=_;rw [SH.out,if_neg h92,if_pos rfl]
    have hap2:txt L ++ (⟨#[92,110]⟩:ByteArray)=txt (L ++ [92,110]):=aI L [92,110]
    have hsm:((txt L).size:Int)+2<=9223372036854775807:=by rw [aD];omega
    have hsn:(txt L).size<=1000000000:=by rw [aD];omega
    go_wp2_with first
     |(go_at_call 137;(with_reducible refine(Calls.mono hnx ?_));rintro e w5 ⟨rfl,h5⟩;have B5:Hid (Below w.heap.size w w5):=aG B.out h5 lz9;clear h5)
     |(go_at_call 138;(with_reducible refine(hpl _).mono ?_);rintro e w6 ⟨rfl,h6⟩;subst w6)
    go_roundw
    case rel=>exact fin.out _ _ B5.out (by rw [E.out])
    case measure=>simp only [intOf];omega
   have b10:(c==10)=false:=by simpa using h10
   obtain⟨S,hS⟩:∃ S,sl s pos wp=S:=⟨_,rfl⟩
   have hSl:S.length<=wp:=by rw [<- hS];exact wZ s pos wp
   have hex:=aD9 s pos wp
   rw [hS] at hex
   have hex':s.extract pos np=txt S:=by rw [<- HNP.out];exact hex
   rw [hS] at SH
   have HS:Hid (sl s pos wp=S):=hS
   clear hS hex
   rcases hpb:bH c with _ | _
   ·rw [hpb] at hpl SH
    have E:Hid (shU s pos=cQ S):=by show shU s pos=_;rw [SH.out,if_neg h92,if_neg h10];rfl
    have HSF:Hid (S.length=wp):=by
     show S.length=wp
     rw [<- HS.out];unfold sl;rw [List.length_take,List.length_drop,bG];omega
    clear hex'
    go_wp2_with first
     |(go_at_call 137;(with_reducible refine(Calls.mono hnx ?_));rintro e w5 ⟨rfl,h5⟩;have B5:Hid (Below w.heap.size w w5):=aG B.out h5 lz9;clear h5)
     |(go_at_call 138;(with_reducible refine(hpl _).mono ?_);rintro e w6 ⟨rfl,h6⟩;subst w6)
    go_loopw [3,8] (fun t i wr=>∃ j:Nat,j<=wp/\i=.int .i64 ((pos+j:Nat):Int)/\t=.string (txt (L ++ cQ (S.take j)))/\Below w.heap.size w wr) (fun _ i _=>np - (intOf i).toNat)
    case atStart=>exact⟨0,Nat.zero_le _,rfl,by simp [cQ],B5.out⟩
    case round=>
     obtain⟨j,hj,rfl,rfl,hb⟩:=hrel
     have BB:Hid (Below w.heap.size w wr):=hb
     clear hb
     obtain⟨ix,hix⟩:∃ ix,pos+j=ix:=⟨_,rfl⟩
     have HIX:Hid (pos+j=ix):=hix
     obtain⟨M,hM⟩:∃ M,L ++ cQ (S.take j)=M:=⟨_,rfl⟩
     have hMl:M.length<=1000000000:=by
      rw [<- hM,List.length_append,jW,List.length_take];omega
     have HM:Hid (L ++ cQ (S.take j)=M):=hM
     rw [hix,hM]
     clear hM
     by_cases hlt:ix < np
     ·have hixl:ix < s.size:=by omega
      have hjw:j < wp:=by have:=HNP.out;omega
      obtain⟨b,hbe⟩:∃ b,s[ix]'hixl=b:=⟨_,rfl⟩
      have hnx2:Hid (S.take (j+1)=S.take j ++ [b]):=by
       show S.take (j+1)=S.take j ++ [b]
       subst hix
       rw [<- HS.out,<- hbe]
       exact zX s pos wp j hjw hixl
      clear hix
      have hbl:b.toNat < 256:=b.toNat_lt
      obtain⟨x,hx⟩:∃ x,b.toNat / 16=x:=⟨_,rfl⟩
      obtain⟨y,hy⟩:∃ y,b.toNat % 16=y:=⟨_,rfl⟩
      have hxl:x < 16:=by omega
      have hyl:y < 16:=by omega
      have HE:Hid (rG b=[92,120,gF x,gF y]):=by
       show rG b=_
       rw [rG,hx,hy]
      have dx:=rL ⟨x,hxl⟩
      have dy:=rL ⟨y,hyl⟩
      simp only at dx dy
      have q1:(b.toNat:Int) / 16=(x:Int):=by omega
      have q2:(b.toNat:Int) % 16=(y:Int):=by omega
      have q3:(b.toNat:Int).tdiv 16=(x:Int):=by rw [Int.tdiv_eq_ediv_of_nonneg (by omega)];exact q1
      have q4:(b.toNat:Int).tmod 16=(y:Int):=by rw [Int.tmod_eq_emod_of_nonneg (by omega)];exact q2
      have q5:IntKind.wrap .u8 (x:Int)=(x:Int):=by rw [IntKind.wrap_u8];omega
      have q6:IntKind.wrap .u8 (y:Int)=(y:Int):=by rw [IntKind.wrap_u8];omega
      have q7:IntKind.wrap .u8 ((x:Int)+1)=(x:Int)+1:=by rw [IntKind.wrap_u8];omega
      have q8:IntKind.wrap .u8 ((y:Int)+1)=(y:Int)+1:=by rw [IntKind.wrap_u8];omega
      clear hx hy
      obtain⟨hxd,hxe⟩:∃ d,gF x=d:=⟨_,rfl⟩
      obtain⟨hyd,hye⟩:∃ d,gF y=d:=⟨_,rfl⟩
      rw [hxe] at dx HE
      rw [hye] at dy HE
      clear hxe hye
      have a1:txt M ++ (⟨#[92,120]⟩:ByteArray)=txt (M ++ [92,120]):=aI M [92,120]
      have a2:txt (M ++ [92,120]) ++ txt [hxd]=txt (M ++ [92,120,hxd]):=by rw [aI];simp
      have a3:txt (M ++ [92,120,hxd]) ++ txt [hyd]=txt (M ++ [92,120,hxd,hyd]):=by rw [aI];simp
      have z1:(txt M).size<=1000000000:=by rw [aD];exact hMl
      have z2:(txt (M ++ [92,120])).size<=1000000002:=by rw [aD,List.length_append];simp;omega
      have z3:(txt (M ++ [92,120,hxd])).size<=1000000003:=by rw [aD,List.length_append];simp;omega
      have z4:(txt [hxd]).size=1:=rfl
      have z5:(txt [hyd]).size=1:=rfl
      have i0:(0:Int)<=(ix:Int):=by omega
      have i2:(ix:Int) < (s.size:Int):=by omega
      have i3:(ix:Int) < (np:Int):=by omega
      have x0:(0:Int)<=(x:Int):=by omega
      have x1:(x:Int)<=(x:Int)+1:=by omega
      have x2:(x:Int)+1<=16:=by omega
      have x3:((x:Int)+1).toNat=x+1:=by omega
      have y0:(0:Int)<=(y:Int):=by omega
      have y1:(y:Int)<=(y:Int)+1:=by omega
      have y2:(y:Int)+1<=16:=by omega
      have y3:((y:Int)+1).toNat=y+1:=by omega
      have hwi:IntKind.wrap .i64 ((ix:Int)+1)=((ix+1:Nat):Int):=by rw [wrap_small _ (by omega) (by omega)];omega
      go_wp2
      refine wx9 ?_
      repeat (go_big_quiet_step (first | exact rfl))
      refine wpQuiet_nil ?_
      intro w9 hw9
      have B9:Hid (Below w.heap.size w w9):=aG BB.out (aM hw9) lz9
      clear hw9
      go_wp2
      go_roundw
      case rel=>
       refine⟨j+1,by omega,?_,?_,B9.out⟩
       ·have:=HIX.out;subst this;rfl
       ·rw [hnx2.out,mP,<- List.append_assoc,HM.out]
        have e2:cQ [b]=[92,120,hxd,hyd]:=by rw [<- HE.out];simp [cQ]
        rw [e2]
      case measure=>simp only [intOf];omega
     ·have i3:¬ (ix:Int) < (np:Int):=by omega
      have hjw:j=wp:=by have:=HNP.out;omega
      have HF:Hid (M=L ++ cQ S):=by
       show M=L ++ cQ S
       rw [<- HM.out,hjw,List.take_of_length_le (by rw [HSF.out];exact Nat.le_refl _)]
      clear hjw
      go_wp2
      go_roundw
      case rel=>exact fin.out _ _ BB.out (by rw [E.out,HF.out])
      case measure=>simp only [intOf];omega
   ·rw [hpb] at hpl SH
    have E:Hid (shU s pos=S):=by show shU s pos=_;rw [SH.out,if_neg h92,if_neg h10];rfl
    have hap2:txt L ++ txt S=txt (L ++ S):=aI L S
    have hsn:(txt L).size<=1000000000:=by rw [aD];omega
    have hsn2:(txt S).size<=4:=by rw [aD];omega
    go_wp2_with first
     |(go_at_call 137;(with_reducible refine(Calls.mono hnx ?_));rintro e w5 ⟨rfl,h5⟩;have B5:Hid (Below w.heap.size w w5):=aG B.out h5 lz9;clear h5)
     |(go_at_call 138;(with_reducible refine(hpl _).mono ?_);rintro e w6 ⟨rfl,h6⟩;subst w6)
    go_roundw
    case rel=>exact fin.out _ _ B5.out (by rw [E.out])
    case measure=>simp only [intOf];omega
  ·have i1:¬ (pos:Int) < (s.size:Int):=by omega
   have A2:=A.out
   rw [kG s f pos hp,List.append_nil] at A2
   have A3:Hid (dT s=L):=by show dT s=L;rw [dT,<- A2,HL.out]
   clear A2
   go_wp2
   go_ret
   rw [A3.out]
   exact⟨rfl,B.out⟩
end
end Go.Proofs.YticfnglebbakkaaGreatDoor
