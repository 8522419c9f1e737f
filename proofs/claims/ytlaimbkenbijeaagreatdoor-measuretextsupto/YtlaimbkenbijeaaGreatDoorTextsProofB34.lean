/-
  Parts of the proof.
-/
import Derived.Test.YtlaimbkenbijeaaGreatDoorTextsProofA0
import Derived.Test.YtlaimbkenbijeaaGreatDoorTextsProofB33
import Derived.Test.YtlaimbkenbijeaaGreatDoorTextsProofB26
import Derived.Test.YtlaimbkenbijeaaGreatDoorTextsProofB22
import Derived.Test.YtlaimbkenbijeaaGreatDoorTextsProofB2
set_option maxRecDepth 100000
set_option maxHeartbeats 8000000
namespace Go.Proofs.YtlaimbkenbijeaaGreatDoor
open Go Go.RowKit
section
attribute [local go_sem] Oper.semAt_some bB
theorem aI9(c o:Bool)(t:Tr)(h:bY (NP c o) t):gN (oG c t):=aY0 (fun t xs g=>kR (c:=c) (o:=o) t xs g) (fun _=>fK _) t h
def tI(c:Bool)(t:Tr)(w:World)(e:Ending)(w':World):Prop:=e=.returned (.tuple #[.string (cZ (oG c t)).1,.bool (cZ (oG c t)).2])/\Below w.heap.size w w'
theorem aQ1(s:ByteArray)(xs:List (ByteArray × Bool))(x:ByteArray × Bool):jQ s (xs ++ [x])=jQ s xs ++ x.1:=by unfold jQ;rw [aBJ];rfl
theorem aK9:∀ (xs:List (ByteArray × Bool)) (s:ByteArray),(∀ x∈xs,gN x)->(jQ s xs).size<=s.size+1000 * xs.length
 | [],s,_=>n8 _
 | x :: xs,s,h=>by
  have h1:=aK9 xs (s ++ x.1) (fun y hy=>h y (n6 _ hy))
  have h2:x.1.size<=1000:=h x m8
  rw [pG] at h1
  show (jQ (s ++ x.1) xs).size<=_
  rw [j8]
  omega
theorem aJ3(c o:Bool):∀ (m:Nat) (t:Tr) (w:World),t.sz<=m->t.sz<=2000->TB w t->bY (NP c o) t->Calls Tryz.prog 64 #[.agg #[.int .i64 t.f.k,.int .i64 t.f.n,.int .i64 t.f.mn,.int .i64 t.f.mx,.slice t.f.rq t.f.rs.length t.f.rc,.slice t.f.kq t.f.kl t.f.kc],.agg #[.bool c,.bool o]] w (tI c t w)
 | 0,t,_,h,_,_,_=>absurd h (by have:=eV t;omega)
 | m+1,t,w,hm,hsz,hta,hev=>by
  have IH:Hid (∀ (u:Tr) (W:World),u∈t.ks->Below w.heap.size w W->Calls Tryz.prog 64 #[.agg #[.int .i64 u.f.k,.int .i64 u.f.n,.int .i64 u.f.mn,.int .i64 u.f.mx,.slice u.f.rq u.f.rs.length u.f.rc,.slice u.f.kq u.f.kl u.f.kc],.agg #[.bool c,.bool o]] W (tI c u W)):=fun u W hu hW=>aJ3 c o m u W (by have:=dM hu;omega) (by have:=dM hu;omega) ((hta.kept hW).kid hu) (bI hev hu)
  have GD:Hid (∀ u∈t.ks,gN (oG c u)):=fun u hu=>aI9 c o u (bI hev hu)
  have hnp:NP c o t:=((bE t).1 hev).1
  have HOE:=aD (aV3 c t)
  have hnb:=hta.node
  have HNB:=aD hnb
  have HKL:=aD hnb.kl
  have HLN:Hid (t.ks.length<=2000):=by have h1:=eM t.ks;have h2:=jG t;exact aD (by omega)
  obtain⟨q1,cap1,eq1,-,-,hk3⟩:=hnb.k.slice
  injection eq1 with eq1 eq2 eq3
  have HK3:=aD hk3
  have HQ1:=aD eq1
  have X1:Hid (Bx2 w ((w.alloc (.cells #[.int .i64 t.f.k,.int .i64 t.f.n,.int .i64 t.f.mn,.int .i64 t.f.mx,.slice t.f.rq t.f.rs.length t.f.rc,.slice t.f.kq t.f.kl t.f.kc] 25)).alloc (.cells #[.bool c,.bool o] 27)) t.f c o):=⟨(bz9).alloc (by simp) _,(Below.heap_alloc _ _ _ (by simp)).trans (aE w _),aK _ (by simp only [a7])⟩
  have HNP:=aD hnp
  clear hta hev hnb hm hk3 eq2 hsz eq1 eq3
  go_enter Tryz.func64,Tryz.ntmps64
  go_upto_region 2 with fail
  generalize hV:(w.alloc (.cells #[.int .i64 t.f.k,.int .i64 t.f.n,.int .i64 t.f.mn,.int .i64 t.f.mx,.slice t.f.rq t.f.rs.length t.f.rc,.slice t.f.kq t.f.kl t.f.kc] 25)).alloc (.cells #[.bool c,.bool o] 27)=V at X1 ⊢
  clear hV
  obtain⟨n0,n1,n2,n3,n4,n5⟩:=X1.out.2.1.six
  simp only [g8] at n1 n2 n3 n4 n5
  have a0:=aA X1.out.2.2 (i:=0) rfl
  have a1:=aA X1.out.2.2 (i:=1) rfl
  have l0:=aB X1.out.2.1
  have l1:=aB X1.out.2.2
  rcases hQ hnp with hk | hk | hk | hk | hk | hk | hk | hk | hk
  ·have hv:Hid (cZ (oG c t)=(noB,true)):=aD (by rw [HOE.out];unfold cD;rw [if_pos hk];rfl)
   have e1:(t.f.k==1)=true:=by rw [hk];rfl
   have e2:(t.f.k==2)=false:=by rw [hk];rfl
   have e5:(t.f.k==5)=false:=by rw [hk];rfl
   have e7:(t.f.k==7)=false:=by rw [hk];rfl
   have e9:(t.f.k==9)=false:=by rw [hk];rfl
   clear hk hnp
   go_wp2
   go_ret2
   exact⟨by rw [hv.out];rfl,X1.out.1⟩
  ·have hset:=pT HNP.out hk
   have hv:Hid (oG c t=sD c t.f.rs):=aD (by rw [HOE.out];unfold cD;rw [hk];rfl)
   have e1:(t.f.k==1)=false:=by rw [hk];rfl
   have e2:(t.f.k==2)=true:=by rw [hk];rfl
   have e5:(t.f.k==5)=false:=by rw [hk];rfl
   have e7:(t.f.k==7)=false:=by rw [hk];rfl
   have e9:(t.f.k==9)=false:=by rw [hk];rfl
   clear hk hnp
   obtain⟨qr,cr,er,hr1,hr2,hr3⟩:=HNB.out.r.slice
   injection er with er1 _ er3
   have HR3:=aD hr3
   have HST:=aD (fun r (hr:r∈t.f.rs)=>oD hset hr)
   clear hr3 hset
   by_cases hn:t.f.rs.length=1
   ·obtain⟨r,hr⟩:=List.length_eq_one_iff.1 hn
    have C0:=(HST.out r (by rw [hr];simp)).1
    obtain⟨g,off,hq,hgl,d1,d2⟩:=HR3.out 0 r (by rw [hr];rfl)
    rw [Nat.mul_zero,aBP] at d1 d2
    have D1:=(X1.out.1.cell (p:=⟨g,off,none⟩) hgl).trans d1
    have D2:=(X1.out.1.cell (p:=⟨g,off+1,none⟩) hgl).trans d2
    have hg2:g < V.heap.size:=i6 hgl X1.out.1.size
    rw [er1,hq,hn] at n4
    have HQ4:Hid (t.f.rq=some ⟨g,off,none⟩/\t.f.rs.length=1):=⟨er1.trans hq,hn⟩
    have hs:Hid (sD c t.f.rs=if r.1=r.2 then (txt (iX c r.1),true) else (noB,false)):=aD (by rw [hr];rfl)
    obtain⟨x1,hx1⟩:∃ x,r.1=x:=⟨_,rfl⟩
    obtain⟨x2,hx2⟩:∃ x,r.2=x:=⟨_,rfl⟩
    rw [hx1] at D1 hs C0
    rw [hx2] at D2 hs
    clear hn hr hq er1 er3 hr1 hr2 d1 d2 hx1 hx2 HR3 HST
    by_cases hne:x1=x2
    ·subst hne
     have e0:(x1 != x1)=false:=by simp
     have hE:Hid (cZ (oG c t)=(txt (iX c x1),true)):=aD (by rw [hv.out,hs.out,if_pos rfl];rfl)
     go_upto_region 7 with fail
     refine wx9 ?_
     repeat (go_big_quiet_step (first | exact rfl))
     refine wpQuiet_nil ?_
     intro w5 hw
     have X5:=aD (X1.out.kept (aQ hw))
     have D5:=aD (((aQ hw).cell (p:=⟨g,off,none⟩) hg2).trans D1)
     have hg5:g < w5.heap.size:=i6 hg2 (aQ hw).size
     clear hw D1 D2
     clear n0 n1 n2 n3 n4 n5 a0 a1 l0 l1
     obtain⟨n0,n1,n2,n3,n4,n5⟩:=X5.out.2.1.six
     simp only [g8] at n1 n2 n3 n4 n5
     have a0:=aA X5.out.2.2 (i:=0) rfl
     have a1:=aA X5.out.2.2 (i:=1) rfl
     have l0:=aB X5.out.2.1
     have l1:=aB X5.out.2.2
     rw [HQ4.out.1,HQ4.out.2] at n4
     have d5:=D5.out
     cases c with
     | true=>
      have C1:Hid (∀ w,Calls Tryz.prog 108 #[.int .i64 x1] w fun e w'=>e=.returned (.string (txt (Lib.encodeRune x1)))/\Below w.heap.size w w'):=fun w=>sL w (cV C0)
      go_wp2_with (go_at_call 108;refine(C1.out _).mono ?_;rintro e w6 ⟨rfl,h6⟩;have B6:=aD (aJ X5.out.1 h6 lz9);clear h6)
      go_ret2
      exact⟨by rw [hE.out];rfl,B6.out⟩
     | false=>
      have hx:0<=x1/\x1 < 256:=by simp [bP,top] at C0;omega
      have w1:IntKind.wrap .u8 x1=x1:=by rw [IntKind.wrap_u8];omega
      have hcv:=zQ w5 x1 hx.1 hx.2
      clear C0
      go_wp2
      go_ret2
      exact⟨by rw [hE.out];rfl,aJ X5.out.1 (bz9) lz9⟩
    ·have e0:(x1 != x2)=true:=by simpa using hne
     have hE:Hid (cZ (oG c t)=(noB,false)):=aD (by rw [hv.out,hs.out,if_neg hne];rfl)
     clear hne
     go_upto_region 7 with fail
     refine wx9 ?_
     repeat (go_big_quiet_step (first | exact rfl))
     refine wpQuiet_nil ?_
     intro w5 hw
     have X5:=aD (X1.out.kept (aQ hw))
     clear hw
     go_wp2
     go_ret2
     exact⟨by rw [hE.out];rfl,X5.out.1⟩
   ·have hE:Hid (cZ (oG c t)=(noB,false)):=aD (by
     rw [hv.out]
     unfold sD
     split
     ·rename_i h;rw [h] at hn;simp at hn
     ·rfl)
    have e0:((t.f.rs.length:Int) != 1)=true:=by simp;omega
    have e01:(t.f.rs.length != 1)=true:=by simpa using hn
    clear hn er1 er3 hr1 hr2
    go_upto_region 7 with fail
    refine wx9 ?_
    repeat (go_big_quiet_step (first | exact rfl))
    refine wpQuiet_nil ?_
    intro w5 hw
    have X5:=aD (X1.out.kept (aQ hw))
    clear hw
    go_wp2
    go_ret2
    exact⟨by rw [hE.out];rfl,X5.out.1⟩
  ·have hv:Hid (cZ (oG c t)=(noB,false)):=aD (by rw [HOE.out];unfold cD;rw [hk];rfl)
   have e1:(t.f.k==1)=false:=by rw [hk];rfl
   have e2:(t.f.k==2)=false:=by rw [hk];rfl
   have e5:(t.f.k==5)=false:=by rw [hk];rfl
   have e7:(t.f.k==7)=false:=by rw [hk];rfl
   have e9:(t.f.k==9)=false:=by rw [hk];rfl
   clear hk hnp
   go_wp2
   go_ret2
   exact⟨by rw [hv.out];rfl,X1.out.1⟩
  ·have hv:Hid (cZ (oG c t)=(noB,false)):=aD (by rw [HOE.out];unfold cD;rw [hk];rfl)
   have e1:(t.f.k==1)=false:=by rw [hk];rfl
   have e2:(t.f.k==2)=false:=by rw [hk];rfl
   have e5:(t.f.k==5)=false:=by rw [hk];rfl
   have e7:(t.f.k==7)=false:=by rw [hk];rfl
   have e9:(t.f.k==9)=false:=by rw [hk];rfl
   clear hk hnp
   go_wp2
   go_ret2
   exact⟨by rw [hv.out];rfl,X1.out.1⟩
  ·have hmany:=rC HNP.out (.inl hk)
   have hv:Hid (oG c t=dN (dF noB true t.ks (t.ks.map (oG c)))):=aD (by rw [HOE.out];unfold cD;rw [hk];rfl)
   have hxl:Hid (t.ks.length=(t.ks.map (oG c)).length):=aD (by rw [o8])
   have e1:(t.f.k==1)=false:=by rw [hk];rfl
   have e2:(t.f.k==2)=false:=by rw [hk];rfl
   have e5:(t.f.k==5)=true:=by rw [hk];rfl
   have e7:(t.f.k==7)=false:=by rw [hk];rfl
   have e9:(t.f.k==9)=false:=by rw [hk];rfl
   clear hk hnp
   go_upto_region 14 with fail
   clear n0 n1 n2 n3 n4 n5 a0 a1 l0 l1
   go_loopw [6,7] (fun s i wr=>∃ j:Nat,j<=t.ks.length/\s=.string (jQ noB ((t.ks.take j).map (oG c)))/\i=.int .i64 (j:Int)/\(∀ u∈t.ks.take j,(oG c u).2=true)/\Bx2 w wr t.f c o) (fun _ i _=>t.ks.length - (intOf i).toNat)
   case atStart=>exact⟨0,m9 _,rfl,rfl,fun u hu=>(by cases hu),X1.out⟩
   case round=>
    obtain⟨j,hj,rfl,rfl,hal,hx⟩:=hrel
    have XW:=aD hx
    have HAL:=aD hal
    have hln:=HLN.out
    have hbd:=aK9 ((t.ks.take j).map (oG c)) noB (fun x hx=>by obtain⟨u,hu,rfl⟩:=aAM.1 hx;exact GD.out u (aAU hu))
    rw [o8,o9] at hbd
    have hbd2:(jQ noB ((t.ks.take j).map (oG c))).size<=2000000:=by have:noB.size=0:=rfl;omega
    have hA:Hid (∀ u,t.ks[j]?=some u->jQ noB ((t.ks.take (j+1)).map (oG c))=jQ noB ((t.ks.take j).map (oG c)) ++ (oG c u).1):=fun u hu=>by rw [o5,hu,aAV,aAR];exact aQ1 _ _ _
    have hB:Hid (j=t.ks.length->cZ (oG c t)=if 1000 < (jQ noB ((t.ks.take j).map (oG c))).size then (noB,false) else (jQ noB ((t.ks.take j).map (oG c)),true)):=fun e=>by
     have hall:=HAL.out
     rw [e,aAQ] at hall ⊢
     rw [hv.out]
     exact bD9 hxl.out (fun x hx=>by obtain⟨u,hu,rfl⟩:=aAM.1 hx;exact hall u hu)
    clear hx hal hbd
    generalize jQ noB ((t.ks.take j).map (oG c))=S at hA hB hbd2 ⊢
    obtain⟨n0,n1,n2,n3,n4,n5⟩:=XW.out.2.1.six
    simp only [g8] at n1 n2 n3 n4 n5
    have a0:=aA XW.out.2.2 (i:=0) rfl
    have a1:=aA XW.out.2.2 (i:=1) rfl
    have l0:=aB XW.out.2.1
    have l1:=aB XW.out.2.2
    by_cases hjl:j < t.ks.length
    ·obtain⟨u,hu⟩:∃ u,t.ks[j]?=some u:=⟨_,g9 hjl⟩
     have inu:=i9 hu
     obtain⟨g,off,hq,hgl,six⟩:=HK3.out j u hu
     rw [HQ1.out,HKL.out,hq] at n5
     obtain⟨c0,c1,c2,c3,c4,c5⟩:=six.ck (CK.of_below XW.out.1) hgl
     have hg2:g < wr.heap.size:=i6 hgl XW.out.1.size
     have i1:(j:Int) < (t.ks.length:Int):=by omega
     have hwr:IntKind.wrap .i64 ((j:Int)+1)=(j:Int)+1:=wrap_small _ (by omega) (by omega)
     have A1:=aD (hA.out u hu)
     have gu:=GD.out u inu
     have HM:Hid ((oG c u).2=true->∀ z∈t.ks.take (j+1),(oG c z).2=true):=fun h z hz=>by
      rw [o5,hu,aAV,n9] at hz
      rcases hz with hz | hz
      ·exact HAL.out z hz
      ·rw [aBN.1 hz];exact h
     have HN2:Hid ((oG c u).2=false->cZ (oG c t)=(noB,false)):=fun h=>by rw [hv.out];exact aE9 hxl.out (List.mem_map_of_mem inu) h
     obtain⟨⟨xs',xb⟩,hX⟩:∃ X,oG c u=X:=⟨_,rfl⟩
     have CU:Hid (∀ W,Below wr.heap.size wr W->Calls Tryz.prog 64 #[.agg #[.int .i64 u.f.k,.int .i64 u.f.n,.int .i64 u.f.mn,.int .i64 u.f.mx,.slice u.f.rq u.f.rs.length u.f.rc,.slice u.f.kq u.f.kl u.f.kc],.agg #[.bool c,.bool o]] W fun e w'=>e=.returned (.tuple #[.string (cZ (xs',xb)).1,.bool (cZ (xs',xb)).2])/\Below W.heap.size W w'):=fun W hW=>by
      have:=IH.out u W inu (aJ XW.out.1 hW lz9)
      unfold tI at this
      rw [hX] at this
      exact this
     rw [hX] at A1 gu HM HN2
     have gu2:xs'.size<=1000:=gu
     clear hX hu hq six gu
     cases xb with
     | false=>
      have HNF:=aD (HN2.out rfl)
      unfold cZ at CU
      simp only [aBZ,if_false] at CU
      unfold noB at CU
      go_upto_region 16 with fail
      refine wx9 ?_
      repeat (go_big_quiet_step (first | exact rfl |(go_at_call 64;exact bN (CU.out _ (cI _)))))
      refine wpQuiet_nil ?_
      intro w5 hw
      have B5:=aD (aJ XW.out.1 (aQ hw) lz9)
      clear hw
      go_wp2
      go_ret2
      exact⟨by rw [HNF.out];rfl,B5.out⟩
     | true=>
      have HMT:=aD (HM.out rfl)
      unfold cZ at CU
      simp only [if_true] at CU
      have h3:¬ 9223372036854775807 < S.size+xs'.size:=by omega
      go_upto_region 16 with fail
      refine wx9 ?_
      repeat (go_big_quiet_step (first | exact rfl |(go_at_call 64;exact bN (CU.out _ (cI _)))))
      refine wpQuiet_nil ?_
      intro w5 hw
      have X5:=aD (XW.out.kept (aQ hw))
      clear hw
      go_wp2
      go_roundw
      case rel=>exact⟨j+1,by omega,by rw [A1.out],by go_num,HMT.out,X5.out⟩
      case measure=>simp only [intOf];omega
    ·have HE:=aD (hB.out (by omega))
     have i1:¬ (j:Int) < (t.ks.length:Int):=by omega
     rw [HKL.out] at n5
     by_cases hv1:1000 < S.size
     ·have hE2:Hid (cZ (oG c t)=(noB,false)):=aD (by rw [HE.out,if_pos hv1])
      have e4:(1000:Int) < (S.size:Int):=by omega
      clear hv1
      go_wp2
      go_ret2
      exact⟨by rw [hE2.out];rfl,XW.out.1⟩
     ·have hE2:Hid (cZ (oG c t)=(S,true)):=aD (by rw [HE.out,if_neg hv1])
      have e4:¬ (1000:Int) < (S.size:Int):=by omega
      clear hv1
      go_wp2
      go_ret2
      exact⟨by rw [hE2.out];rfl,XW.out.1⟩
  ·have hv:Hid (cZ (oG c t)=(noB,false)):=aD (by rw [HOE.out];unfold cD;rw [hk];rfl)
   have e1:(t.f.k==1)=false:=by rw [hk];rfl
   have e2:(t.f.k==2)=false:=by rw [hk];rfl
   have e5:(t.f.k==5)=false:=by rw [hk];rfl
   have e7:(t.f.k==7)=false:=by rw [hk];rfl
   have e9:(t.f.k==9)=false:=by rw [hk];rfl
   clear hk hnp
   go_wp2
   go_ret2
   exact⟨by rw [hv.out];rfl,X1.out.1⟩
  ·have hone:=fG HNP.out (.inl hk)
   obtain⟨u,hu⟩:∃ u,t.ks[0]?=some u:=⟨_,g9 (by omega)⟩
   have inu:=i9 hu
   have hhd:(t.ks.map (oG c)).headD (noB,false)=oG c u:=jZ (by rw [aAE,hu];rfl)
   obtain⟨g,off,hq,hgl,six⟩:=HK3.out 0 u hu
   rw [HQ1.out,HKL.out,hq] at n5
   rw [aAK,aBP] at six
   obtain⟨c0,c1,c2,c3,c4,c5⟩:=six.ck (CK.of_below X1.out.1) hgl
   have hg2:g < V.heap.size:=i6 hgl X1.out.1.size
   have b0:(0:Int) < (t.ks.length:Int):=by omega
   have b0n:0 < t.ks.length:=by omega
   have hv:Hid (cZ (oG c t)=cZ (oG c u)):=aD (by rw [HOE.out];unfold cD;rw [hk,hhd];rfl)
   have e1:(t.f.k==1)=false:=by rw [hk];rfl
   have e2:(t.f.k==2)=false:=by rw [hk];rfl
   have e5:(t.f.k==5)=false:=by rw [hk];rfl
   have e7:(t.f.k==7)=true:=by rw [hk];rfl
   have e9:(t.f.k==9)=false:=by rw [hk];rfl
   obtain⟨X,hX⟩:∃ X,cZ (oG c u)=X:=⟨_,rfl⟩
   have CU:Hid (∀ W,Below V.heap.size V W->Calls Tryz.prog 64 #[.agg #[.int .i64 u.f.k,.int .i64 u.f.n,.int .i64 u.f.mn,.int .i64 u.f.mx,.slice u.f.rq u.f.rs.length u.f.rc,.slice u.f.kq u.f.kl u.f.kc],.agg #[.bool c,.bool o]] W fun e w'=>e=.returned (.tuple #[.string X.1,.bool X.2])/\Below W.heap.size W w'):=fun W hW=>by
    have:=IH.out u W inu (aJ X1.out.1 hW lz9)
    unfold tI at this
    rw [hX] at this
    exact this
   rw [hX] at hv
   clear hk hnp hX hu hq six hhd hone
   go_upto_region 21 with fail
   refine wx9 ?_
   repeat (go_big_quiet_step (first | exact rfl |(go_at_call 64;exact bN (CU.out _ (cI _)))))
   refine wpQuiet_nil ?_
   intro w5 hw
   have B5:=aD (aJ X1.out.1 (aQ hw) lz9)
   clear hw
   go_wp2
   go_ret2
   exact⟨by rw [hv.out];rfl,B5.out⟩
  ·have hv:Hid (cZ (oG c t)=(noB,false)):=aD (by rw [HOE.out];unfold cD;rw [hk];rfl)
   have e1:(t.f.k==1)=false:=by rw [hk];rfl
   have e2:(t.f.k==2)=false:=by rw [hk];rfl
   have e5:(t.f.k==5)=false:=by rw [hk];rfl
   have e7:(t.f.k==7)=false:=by rw [hk];rfl
   have e9:(t.f.k==9)=false:=by rw [hk];rfl
   clear hk hnp
   go_wp2
   go_ret2
   exact⟨by rw [hv.out];rfl,X1.out.1⟩
  ·have hone:=fG HNP.out (.inr hk)
   have hbd:=lT HNP.out hk
   have hm1:0<=t.f.mn/\t.f.mn<=255/\-1<=t.f.mx/\t.f.mx<=255/\(t.f.mx=0->t.f.mn=0):=by simp [fU] at hbd;omega
   obtain⟨u,hu⟩:∃ u,t.ks[0]?=some u:=⟨_,g9 (by omega)⟩
   have inu:=i9 hu
   have hhd:(t.ks.map (oG c)).headD (noB,false)=oG c u:=jZ (by rw [aAE,hu];rfl)
   obtain⟨g,off,hq,hgl,six⟩:=HK3.out 0 u hu
   rw [HQ1.out,HKL.out,hq] at n5
   rw [aAK,aBP] at six
   obtain⟨c0,c1,c2,c3,c4,c5⟩:=six.ck (CK.of_below X1.out.1) hgl
   have hg2:g < V.heap.size:=i6 hgl X1.out.1.size
   have b0:(0:Int) < (t.ks.length:Int):=by omega
   have b0n:0 < t.ks.length:=by omega
   have hv:Hid (oG c t=iF t.f (oG c u)):=aD (by rw [HOE.out];unfold cD;rw [hk,hhd];rfl)
   have e1:(t.f.k==1)=false:=by rw [hk];rfl
   have e2:(t.f.k==2)=false:=by rw [hk];rfl
   have e5:(t.f.k==5)=false:=by rw [hk];rfl
   have e7:(t.f.k==7)=false:=by rw [hk];rfl
   have e9:(t.f.k==9)=true:=by rw [hk];rfl
   have gu:=GD.out u inu
   obtain⟨mn,hmn⟩:∃ mn,t.f.mn=mn:=⟨_,rfl⟩
   obtain⟨mx,hmx⟩:∃ mx,t.f.mx=mx:=⟨_,rfl⟩
   rw [hmn] at hm1 n2
   rw [hmx] at hm1 n3
   have HMN:=aD hmn
   have HMX:=aD hmx
   clear hk hnp hu hq six hhd hone hmn hmx hbd
   by_cases hne:mn=mx
   ·subst hne
    have e0:(mn != mn)=false:=by simp
    by_cases h0:mn=0
    ·have hE:Hid (cZ (oG c t)=(noB,true)):=aD (by rw [hv.out];unfold iF;rw [HMX.out,if_pos h0];rfl)
     have e3:¬ (0:Int) < mn:=by omega
     clear h0
     go_wp2
     go_ret2
     exact⟨by rw [hE.out];rfl,X1.out.1⟩
    ·have e3:(0:Int) < mn:=by omega
     obtain⟨k,hkk⟩:∃ k:Nat,mn=(k:Int):=⟨mn.toNat,by omega⟩
     have hE:Hid (cZ (oG c t)=if (oG c u).2 then (if 1000 < (fI (oG c u).1 k).size then (noB,false) else (fI (oG c u).1 k,true)) else (noB,false)):=aD (by
      rw [hv.out]
      unfold iF
      rw [HMX.out,HMN.out,if_neg h0,if_neg h0,hkk,aBF]
      by_cases hw:(oG c u).2=true
      ·rw [if_pos hw,if_pos hw]
       unfold dN
       split
       ·rfl
       ·simp [cZ]
      ·rw [if_neg hw,if_neg hw]
       unfold cZ
       rw [if_neg hw])
     obtain⟨⟨xs',xb⟩,hX⟩:∃ X,oG c u=X:=⟨_,rfl⟩
     have CU:Hid (∀ W,Below V.heap.size V W->Calls Tryz.prog 64 #[.agg #[.int .i64 u.f.k,.int .i64 u.f.n,.int .i64 u.f.mn,.int .i64 u.f.mx,.slice u.f.rq u.f.rs.length u.f.rc,.slice u.f.kq u.f.kl u.f.kc],.agg #[.bool c,.bool o]] W fun e w'=>e=.returned (.tuple #[.string (cZ (xs',xb)).1,.bool (cZ (xs',xb)).2])/\Below W.heap.size W w'):=fun W hW=>by
      have:=IH.out u W inu (aJ X1.out.1 hW lz9)
      unfold tI at this
      rw [hX] at this
      exact this
     rw [hX] at hE gu
     clear hX h0
     have hk255:k<=255:=by omega
     have TC:Hid (∀ W,Calls Tryz.prog 114 #[.string xs',.int .i64 mn] W fun e w'=>∃ v,e=.returned (.string v)/\lD xs' k v/\w'=W):=fun W=>by rw [hkk];exact aG7 xs' k W gu hk255
     clear hkk
     cases xb with
     | false=>
      unfold cZ at CU
      simp only [aBZ,if_false] at CU
      unfold noB at CU
      go_upto_region 26 with fail
      refine wx9 ?_
      repeat (go_big_quiet_step (first | exact rfl |(go_at_call 64;exact bN (CU.out _ (cI _)))))
      refine wpQuiet_nil ?_
      intro w5 hw
      have B5:=aD (aJ X1.out.1 (aQ hw) lz9)
      clear hw
      go_wp2
      go_ret2
      exact⟨by rw [hE.out];rfl,B5.out⟩
     | true=>
      unfold cZ at CU
      simp only [if_true] at CU
      go_upto_region 26 with fail
      refine wx9 ?_
      repeat (go_big_quiet_step (first | exact rfl |(go_at_call 64;exact bN (CU.out _ (cI _)))))
      refine wpQuiet_nil ?_
      intro w5 hw
      have X5:=aD (X1.out.kept (aQ hw))
      clear hw c0 c1 c2 c3 c4 c5
      clear n0 n1 n2 n3 n4 n5 a0 a1 l0 l1
      obtain⟨n0,n1,n2,n3,n4,n5⟩:=X5.out.2.1.six
      simp only [g8] at n1 n2 n3 n4 n5
      have a0:=aA X5.out.2.2 (i:=0) rfl
      have a1:=aA X5.out.2.2 (i:=1) rfl
      have l0:=aB X5.out.2.1
      have l1:=aB X5.out.2.2
      rw [HMX.out] at n3
      go_upto_region 30 with (go_at_call 114;refine(TC.out _).mono ?_;rintro e w6 ⟨v,rfl,h6,rfl⟩;have TI:=aD (uO h6);clear h6)
      by_cases hv1:1000 < v.size
      ·have hE2:Hid (cZ (oG c t)=(noB,false)):=aD (by
        obtain⟨r,hr⟩:=TI.out.1
        have:1000 < (fI xs' k).size:=by rw [eG,hr,m7,<- eG];omega
        rw [hE.out,if_pos trivial,if_pos this])
       have e4:(1000:Int) < (v.size:Int):=by omega
       clear hv1
       go_wp2
       go_ret2
       exact⟨by rw [hE2.out];rfl,X5.out.1⟩
      ·have hE2:Hid (cZ (oG c t)=(v,true)):=aD (by
        have:=TI.out.2 (by omega)
        rw [hE.out,if_pos trivial,this,if_neg hv1])
       have e4:¬ (1000:Int) < (v.size:Int):=by omega
       clear hv1
       go_wp2
       go_ret2
       exact⟨by rw [hE2.out];rfl,X5.out.1⟩
   ·have hE:Hid (cZ (oG c t)=(noB,false)):=aD (by
     rw [hv.out]
     unfold iF
     rw [HMX.out,HMN.out]
     by_cases h0:mx=0
     ·exact absurd (hm1.2.2.2.2 h0) (by omega)
     ·rw [if_neg h0]
      split
      ·rfl
      ·split
       ·unfold dN
        split
        ·rfl
        ·have:(mn==mx)=false:=by simpa using hne
         simp [cZ,this]
       ·rename_i h;unfold cZ;rw [if_neg h])
    have e0:(mn != mx)=true:=by simpa using hne
    clear hne
    go_wp2
    go_ret2
    exact⟨by rw [hE.out];rfl,X1.out.1⟩
end
section
attribute [local go_sem] Oper.semAt_some bB
theorem bD4{ks:List Tr}{xs:List (ByteArray × Bool)}{j:Nat}{u:Tr}{x:ByteArray × Bool}(hu:ks[j]?=some u)(hx:xs[j]?=some x)(s:ByteArray):jM s (ks.drop j) (xs.drop j)=if x.2 || u.f.k==3 then jM (s ++ x.1) (ks.drop (j+1)) (xs.drop (j+1)) else s ++ x.1:=by
 obtain⟨h1,h2⟩:=i5.1 hu
 obtain⟨h3,h4⟩:=i5.1 hx
 rw [aAH h1,aAH h3,h2,h4,jM]
theorem aV4(c:Bool){t:Tr}(h:t.f.k=3):oG c t=(noB,false):=by rw [aV3];unfold cD;rw [h];rfl
def aQ8(c:Bool)(t:Tr)(w:World)(e:Ending)(w':World):Prop:=e=.returned (.string (oG c t).1)/\Below w.heap.size w w'
theorem bH9(c o:Bool):∀ (m:Nat) (t:Tr) (w:World),t.sz<=m->t.sz<=2000->TB w t->bY (NP c o) t->Calls Tryz.prog 65 #[.agg #[.int .i64 t.f.k,.int .i64 t.f.n,.int .i64 t.f.mn,.int .i64 t.f.mx,.slice t.f.rq t.f.rs.length t.f.rc,.slice t.f.kq t.f.kl t.f.kc],.agg #[.bool c,.bool o]] w (aQ8 c t w)
 | 0,t,_,h,_,_,_=>absurd h (by have:=eV t;omega)
 | m+1,t,w,hm,hsz,hta,hev=>by
  have IH:Hid (∀ (u:Tr) (W:World),u∈t.ks->Below w.heap.size w W->Calls Tryz.prog 65 #[.agg #[.int .i64 u.f.k,.int .i64 u.f.n,.int .i64 u.f.mn,.int .i64 u.f.mx,.slice u.f.rq u.f.rs.length u.f.rc,.slice u.f.kq u.f.kl u.f.kc],.agg #[.bool c,.bool o]] W (aQ8 c u W)):=fun u W hu hW=>bH9 c o m u W (by have:=dM hu;omega) (by have:=dM hu;omega) ((hta.kept hW).kid hu) (bI hev hu)
  have LT:Hid (∀ (u:Tr) (W:World),u∈t.ks->Below w.heap.size w W->Calls Tryz.prog 64 #[.agg #[.int .i64 u.f.k,.int .i64 u.f.n,.int .i64 u.f.mn,.int .i64 u.f.mx,.slice u.f.rq u.f.rs.length u.f.rc,.slice u.f.kq u.f.kl u.f.kc],.agg #[.bool c,.bool o]] W (tI c u W)):=fun u W hu hW=>aJ3 c o u.sz u W lz9 (by have:=dM hu;omega) ((hta.kept hW).kid hu) (bI hev hu)
  have LS:Hid (∀ (W:World),Below w.heap.size w W->Calls Tryz.prog 64 #[.agg #[.int .i64 t.f.k,.int .i64 t.f.n,.int .i64 t.f.mn,.int .i64 t.f.mx,.slice t.f.rq t.f.rs.length t.f.rc,.slice t.f.kq t.f.kl t.f.kc],.agg #[.bool c,.bool o]] W (tI c t W)):=fun W hW=>aJ3 c o t.sz t W lz9 hsz (hta.kept hW) hev
  have GD:Hid (∀ u∈t.ks,gN (oG c u)):=fun u hu=>aI9 c o u (bI hev hu)
  have hnp:NP c o t:=((bE t).1 hev).1
  have HOE:=aD (aV3 c t)
  have hnb:=hta.node
  have HKL:=aD hnb.kl
  have HLN:Hid (t.ks.length<=2000):=by have h1:=eM t.ks;have h2:=jG t;exact aD (by omega)
  obtain⟨q1,cap1,eq1,-,-,hk3⟩:=hnb.k.slice
  injection eq1 with eq1 eq2 eq3
  have HK3:=aD hk3
  have HQ1:=aD eq1
  have X1:Hid (Bx2 w ((w.alloc (.cells #[.int .i64 t.f.k,.int .i64 t.f.n,.int .i64 t.f.mn,.int .i64 t.f.mx,.slice t.f.rq t.f.rs.length t.f.rc,.slice t.f.kq t.f.kl t.f.kc] 25)).alloc (.cells #[.bool c,.bool o] 27)) t.f c o):=⟨(bz9).alloc (by simp) _,(Below.heap_alloc _ _ _ (by simp)).trans (aE w _),aK _ (by simp only [a7])⟩
  have HNP:=aD hnp
  clear hta hev hnb hm hk3 eq2 hsz eq1 eq3
  go_enter Tryz.func65,Tryz.ntmps65
  go_upto_region 1 with fail
  generalize hV:(w.alloc (.cells #[.int .i64 t.f.k,.int .i64 t.f.n,.int .i64 t.f.mn,.int .i64 t.f.mx,.slice t.f.rq t.f.rs.length t.f.rc,.slice t.f.kq t.f.kl t.f.kc] 25)).alloc (.cells #[.bool c,.bool o] 27)=V0 at X1 ⊢
  clear hV
  obtain⟨n0,n1,n2,n3,n4,n5⟩:=X1.out.2.1.six
  simp only [g8] at n1 n2 n3 n4 n5
  have a0:=aA X1.out.2.2 (i:=0) rfl
  have a1:=aA X1.out.2.2 (i:=1) rfl
  have l0:=aB X1.out.2.1
  have l1:=aB X1.out.2.2
  obtain⟨⟨T,wb⟩,hT⟩:∃ X,oG c t=X:=⟨_,rfl⟩
  have LS2:Hid (Calls Tryz.prog 64 #[.agg #[.int .i64 t.f.k,.int .i64 t.f.n,.int .i64 t.f.mn,.int .i64 t.f.mx,.slice t.f.rq t.f.rs.length t.f.rc,.slice t.f.kq t.f.kl t.f.kc],.agg #[.bool c,.bool o]] V0 fun e w'=>e=.returned (.tuple #[.string (cZ (T,wb)).1,.bool (cZ (T,wb)).2])/\Below V0.heap.size V0 w'):=by
   have:=LS.out V0 X1.out.1
   unfold tI at this
   rw [hT] at this
   exact this
  cases wb with
  | true=>
   have hE:Hid ((oG c t).1=T):=aD (by rw [hT])
   unfold cZ at LS2
   simp only [if_true] at LS2
   clear hT hnp
   go_wp2_with (go_at_call 64;refine(LS2.out).mono ?_;rintro e w2 ⟨rfl,h2⟩;have X2:=aD (X1.out.kept h2);clear h2)
   go_ret
   exact⟨by rw [hE.out] <;> rfl,X2.out.1⟩
  | false=>
   unfold cZ at LS2
   simp only [aBZ,if_false] at LS2
   unfold noB at LS2
   have HT:=aD hT
   clear hT
   go_upto_region 5 with (go_at_call 64;refine(LS2.out).mono ?_;rintro e V ⟨rfl,h2⟩;have X2:=aD (X1.out.kept h2);clear h2)
   clear n0 n1 n2 n3 n4 n5 a0 a1 l0 l1
   obtain⟨n0,n1,n2,n3,n4,n5⟩:=X2.out.2.1.six
   simp only [g8] at n1 n2 n3 n4 n5
   have a0:=aA X2.out.2.2 (i:=0) rfl
   have a1:=aA X2.out.2.2 (i:=1) rfl
   have l0:=aB X2.out.2.1
   have l1:=aB X2.out.2.2
   rcases hQ hnp with hk | hk | hk | hk | hk | hk | hk | hk | hk
   ·have hE:Hid ((oG c t).1=noB):=aD (by have h:=HT.out;rw [HOE.out] at h;unfold cD at h;rw [if_pos hk] at h;injection h with _ h2;cases h2)
    have e5:(t.f.k==5)=false:=by rw [hk];rfl
    have e7:(t.f.k==7)=false:=by rw [hk];rfl
    have e9:(t.f.k==9)=false:=by rw [hk];rfl
    clear hk hnp
    go_wp2
    go_ret
    exact⟨by rw [hE.out];rfl,X2.out.1⟩
   ·have hE:Hid ((oG c t).1=noB):=aD (by
     have h:=HT.out
     rw [HOE.out] at h ⊢
     unfold cD at h ⊢
     rw [hk] at h ⊢
     simp only [show ¬ ((2:Int)=1) by decide,if_false,if_true] at h ⊢
     unfold sD at h ⊢
     split
     ·rename_i r hr
      rw [hr] at h
      simp only at h
      split
      ·rename_i hh;rw [if_pos hh] at h;injection h with _ h2;cases h2
      ·rfl
     ·rfl)
    have e5:(t.f.k==5)=false:=by rw [hk];rfl
    have e7:(t.f.k==7)=false:=by rw [hk];rfl
    have e9:(t.f.k==9)=false:=by rw [hk];rfl
    clear hk hnp
    go_wp2
    go_ret
    exact⟨by rw [hE.out];rfl,X2.out.1⟩
   ·have hE:Hid ((oG c t).1=noB):=aD (by rw [HOE.out];unfold cD;rw [hk];rfl)
    have e5:(t.f.k==5)=false:=by rw [hk];rfl
    have e7:(t.f.k==7)=false:=by rw [hk];rfl
    have e9:(t.f.k==9)=false:=by rw [hk];rfl
    clear hk hnp
    go_wp2
    go_ret
    exact⟨by rw [hE.out];rfl,X2.out.1⟩
   ·have hE:Hid ((oG c t).1=noB):=aD (by rw [HOE.out];unfold cD;rw [hk];rfl)
    have e5:(t.f.k==5)=false:=by rw [hk];rfl
    have e7:(t.f.k==7)=false:=by rw [hk];rfl
    have e9:(t.f.k==9)=false:=by rw [hk];rfl
    clear hk hnp
    go_wp2
    go_ret
    exact⟨by rw [hE.out];rfl,X2.out.1⟩
   ·have hmany:=rC HNP.out (.inl hk)
    have hv:Hid ((oG c t).1=mA (jM noB t.ks (t.ks.map (oG c)))):=aD (by rw [HOE.out,bL2 (by rw [o8])];unfold cD;rw [hk];rfl)
    have e5:(t.f.k==5)=true:=by rw [hk];rfl
    have e7:(t.f.k==7)=false:=by rw [hk];rfl
    have e9:(t.f.k==9)=false:=by rw [hk];rfl
    clear hk hnp
    go_upto_region 8 with fail
    clear n0 n1 n2 n3 n4 n5 a0 a1 l0 l1
    go_loopw [5,7] (fun s i wr=>∃ (j:Nat) (S:ByteArray),j<=t.ks.length/\s=.string S/\i=.int .i64 (j:Int)/\jM noB t.ks (t.ks.map (oG c))=jM S (t.ks.drop j) ((t.ks.map (oG c)).drop j)/\S.size<=1000 * j/\Bx2 w wr t.f c o) (fun _ i _=>t.ks.length - (intOf i).toNat)
    case atStart=>exact⟨0,noB,m9 _,rfl,rfl,rfl,m9 _,X2.out⟩
    case round=>
     obtain⟨j,S,hj,rfl,rfl,hpre,hSb,hx⟩:=hrel
     have XW:=aD hx
     have HP:=aD hpre
     have hln:=HLN.out
     clear hx hpre
     obtain⟨n0,n1,n2,n3,n4,n5⟩:=XW.out.2.1.six
     simp only [g8] at n1 n2 n3 n4 n5
     have a0:=aA XW.out.2.2 (i:=0) rfl
     have a1:=aA XW.out.2.2 (i:=1) rfl
     have l0:=aB XW.out.2.1
     have l1:=aB XW.out.2.2
     by_cases hjl:j < t.ks.length
     ·obtain⟨u,hu⟩:∃ u,t.ks[j]?=some u:=⟨_,g9 hjl⟩
      have inu:=i9 hu
      have HPA:=aD (bD4 (xs:=t.ks.map (oG c)) hu (by rw [aAE,hu];rfl) S)
      obtain⟨g,off,hq,hgl,six⟩:=HK3.out j u hu
      rw [HQ1.out,HKL.out,hq] at n5
      have HSIX:Hid (∀ W,Below w.heap.size w W->Six W g (off+j * 6) u.f):=fun W hW=>six.ck (CK.of_below hW) hgl
      have HN5:Hid (∀ W,BoxN W w.heap.size t.f->W.cell? ⟨w.heap.size,5,none⟩=some (.slice (some ⟨g,off,none⟩) t.ks.length t.f.kc)):=fun W hW=>by
       have:=hW.six.2.2.2.2.2
       simp only [g8] at this
       rw [HQ1.out,HKL.out,hq] at this
       exact this
      obtain⟨c0,c1,c2,c3,c4,c5⟩:=HSIX.out wr XW.out.1
      have hg2:g < wr.heap.size:=i6 hgl XW.out.1.size
      have i1:(j:Int) < (t.ks.length:Int):=by omega
      have hwr:IntKind.wrap .i64 ((j:Int)+1)=(j:Int)+1:=wrap_small _ (by omega) (by omega)
      have gu:=GD.out u inu
      have HBG:Hid (u.f.k=3->oG c u=(noB,false)):=fun h=>aV4 c h
      obtain⟨⟨xs',xb⟩,hX⟩:∃ X,oG c u=X:=⟨_,rfl⟩
      have CU:Hid (∀ W,Below wr.heap.size wr W->Calls Tryz.prog 64 #[.agg #[.int .i64 u.f.k,.int .i64 u.f.n,.int .i64 u.f.mn,.int .i64 u.f.mx,.slice u.f.rq u.f.rs.length u.f.rc,.slice u.f.kq u.f.kl u.f.kc],.agg #[.bool c,.bool o]] W fun e w'=>e=.returned (.tuple #[.string (cZ (xs',xb)).1,.bool (cZ (xs',xb)).2])/\Below W.heap.size W w'):=fun W hW=>by
       have:=LT.out u W inu (aJ XW.out.1 hW lz9)
       unfold tI at this
       rw [hX] at this
       exact this
      have CP:Hid (∀ W,Below w.heap.size w W->Calls Tryz.prog 65 #[.agg #[.int .i64 u.f.k,.int .i64 u.f.n,.int .i64 u.f.mn,.int .i64 u.f.mx,.slice u.f.rq u.f.rs.length u.f.rc,.slice u.f.kq u.f.kl u.f.kc],.agg #[.bool c,.bool o]] W fun e w'=>e=.returned (.string xs')/\Below W.heap.size W w'):=fun W hW=>by
       have:=IH.out u W inu hW
       unfold aQ8 at this
       rw [hX] at this
       exact this
      rw [hX] at HPA gu HBG
      have gu2:xs'.size<=1000:=gu
      clear hX hu hq six gu
      have h3:¬ 9223372036854775807 < S.size+xs'.size:=by omega
      cases xb with
      | true=>
       unfold cZ at CU
       simp only [if_true] at CU
       have HN:=aD (show jM noB t.ks (t.ks.map (oG c))=jM (S ++ xs') (t.ks.drop (j+1)) ((t.ks.map (oG c)).drop (j+1)) by rw [HP.out,HPA.out];simp)
       have HSB:=aD (show (S ++ xs').size<=1000 * (j+1) by rw [pG];omega)
       go_upto_region 10 with fail
       refine wx9 ?_
       repeat (go_big_quiet_step (first | exact rfl |(go_at_call 64;exact bN (CU.out _ (cI _)))))
       refine wpQuiet_nil ?_
       intro w5 hw
       have X5:=aD (XW.out.kept (aQ hw))
       clear hw
       go_wp2
       go_roundw
       case rel=>exact⟨j+1,S ++ xs',by omega,rfl,by go_num,HN.out,HSB.out,X5.out⟩
       case measure=>simp only [intOf];omega
      | false=>
       unfold cZ at CU
       simp only [aBZ,if_false] at CU
       unfold noB at CU
       by_cases h8:u.f.k=3
       ·have hxe:xs'=noB:=by have:=HBG.out h8;injection this
        have HN:=aD (show jM noB t.ks (t.ks.map (oG c))=jM (S ++ noB) (t.ks.drop (j+1)) ((t.ks.map (oG c)).drop (j+1)) by rw [HP.out,HPA.out,hxe,h8];simp)
        have HSB:=aD (show (S ++ noB).size<=1000 * (j+1) by rw [pG];have:noB.size=0:=rfl;omega)
        have e8:(u.f.k != 3)=false:=by rw [h8];rfl
        have h3':¬ 9223372036854775807 < S.size+(⟨#[]⟩:ByteArray).size:=by have:(⟨#[]⟩:ByteArray).size=0:=rfl;omega
        clear h8 hxe
        go_upto_region 10 with fail
        refine wx9 ?_
        repeat (go_big_quiet_step (first | exact rfl |(go_at_call 64;exact bN (CU.out _ (cI _)))))
        refine wpQuiet_nil ?_
        intro w5 hw
        have X5:=aD (XW.out.kept (aQ hw))
        have hg5:g < w5.heap.size:=i6 hg2 (aQ hw).size
        clear hw c0 c1 c2 c3 c4 c5 n0 n1 n2 n3 n4 n5 a0 a1 l0 l1
        have n5:=HN5.out _ X5.out.2.1
        obtain⟨c0,c1,c2,c3,c4,c5⟩:=HSIX.out w5 X5.out.1
        go_wp2
        go_roundw
        case rel=>exact⟨j+1,S ++ noB,by omega,rfl,by go_num,HN.out,HSB.out,X5.out⟩
        case measure=>simp only [intOf];omega
       ·have e8:(u.f.k != 3)=true:=by simpa using h8
        have HE:Hid ((oG c t).1=mA (S ++ xs')):=aD (by
         have e9:(u.f.k==3)=false:=by simpa using h8
         rw [hv.out,HP.out,HPA.out,e9]
         rfl)
        clear h8
        go_upto_region 10 with fail
        refine wx9 ?_
        repeat (go_big_quiet_step (first | exact rfl |(go_at_call 64;exact bN (CU.out _ (cI _)))))
        refine wpQuiet_nil ?_
        intro w5 hw
        have X5:=aD (XW.out.kept (aQ hw))
        have hg5:g < w5.heap.size:=i6 hg2 (aQ hw).size
        clear hw c0 c1 c2 c3 c4 c5 n0 n1 n2 n3 n4 n5 a0 a1 l0 l1
        obtain⟨n0,n1,n2,n3,n4,n5⟩:=X5.out.2.1.six
        simp only [g8] at n1 n2 n3 n4 n5
        have a0:=aA X5.out.2.2 (i:=0) rfl
        have a1:=aA X5.out.2.2 (i:=1) rfl
        have l0:=aB X5.out.2.1
        have l1:=aB X5.out.2.2
        clear n5
        have n5:=HN5.out _ X5.out.2.1
        obtain⟨c0,c1,c2,c3,c4,c5⟩:=HSIX.out w5 X5.out.1
        have CP2:Hid (∀ W,Below w5.heap.size w5 W->Calls Tryz.prog 65 #[.agg #[.int .i64 u.f.k,.int .i64 u.f.n,.int .i64 u.f.mn,.int .i64 u.f.mx,.slice u.f.rq u.f.rs.length u.f.rc,.slice u.f.kq u.f.kl u.f.kc],.agg #[.bool c,.bool o]] W fun e w'=>e=.returned (.string xs')/\Below W.heap.size W w'):=fun W hW=>CP.out W (aJ X5.out.1 hW lz9)
        go_upto_region 12 with fail
        refine wx9 ?_
        repeat (go_big_quiet_step (first | exact rfl |(go_at_call 65;exact bN (CP2.out _ (cI _)))))
        refine wpQuiet_nil ?_
        intro w6 hw
        have B6:=aD (aJ X5.out.1 (aQ hw) lz9)
        clear hw c0 c1 c2 c3 c4 c5 n0 n1 n2 n3 n4 n5 a0 a1 l0 l1
        go_upto_region 22 with fail
        generalize S ++ xs'=S2 at HE ⊢
        by_cases hv1:1000 < S2.size
        ·have hE2:Hid ((oG c t).1=S2.extract 0 1000):=aD (by rw [HE.out];unfold mA;rw [if_pos hv1])
         have e4:(1000:Int) < (S2.size:Int):=by omega
         have e6:1000<=S2.size:=by omega
         have e7:(1000:Int)<=(S2.size:Int):=by omega
         clear hv1
         go_wp2
         go_ret
         exact⟨by rw [hE2.out] <;> rfl,B6.out⟩
        ·have hE2:Hid ((oG c t).1=S2):=aD (by rw [HE.out];unfold mA;rw [if_neg hv1])
         have e4:¬ (1000:Int) < (S2.size:Int):=by omega
         clear hv1
         go_wp2
         go_ret
         exact⟨by rw [hE2.out] <;> rfl,B6.out⟩
     ·have HE:Hid ((oG c t).1=mA S):=aD (by
       rw [hv.out,HP.out,List.drop_eq_nil_of_le (by omega)]
       cases (t.ks.map (oG c)).drop j <;> rfl)
      have i1:¬ (j:Int) < (t.ks.length:Int):=by omega
      rw [HKL.out] at n5
      by_cases hv1:1000 < S.size
      ·have hE2:Hid ((oG c t).1=S.extract 0 1000):=aD (by rw [HE.out];unfold mA;rw [if_pos hv1])
       have e4:(1000:Int) < (S.size:Int):=by omega
       have e6:1000<=S.size:=by omega
       have e7:(1000:Int)<=(S.size:Int):=by omega
       clear hv1
       go_wp2
       go_ret
       exact⟨by rw [hE2.out] <;> rfl,XW.out.1⟩
      ·have hE2:Hid ((oG c t).1=S):=aD (by rw [HE.out];unfold mA;rw [if_neg hv1])
       have e4:¬ (1000:Int) < (S.size:Int):=by omega
       clear hv1
       go_wp2
       go_ret
       exact⟨by rw [hE2.out] <;> rfl,XW.out.1⟩
   ·have hE:Hid ((oG c t).1=noB):=aD (by rw [HOE.out];unfold cD;rw [hk];rfl)
    have e5:(t.f.k==5)=false:=by rw [hk];rfl
    have e7:(t.f.k==7)=false:=by rw [hk];rfl
    have e9:(t.f.k==9)=false:=by rw [hk];rfl
    clear hk hnp
    go_wp2
    go_ret
    exact⟨by rw [hE.out];rfl,X2.out.1⟩
   ·have hone:=fG HNP.out (.inl hk)
    obtain⟨u,hu⟩:∃ u,t.ks[0]?=some u:=⟨_,g9 (by omega)⟩
    have inu:=i9 hu
    have hhd:(t.ks.map (oG c)).headD (noB,false)=oG c u:=jZ (by rw [aAE,hu];rfl)
    obtain⟨g,off,hq,hgl,six⟩:=HK3.out 0 u hu
    rw [HQ1.out,HKL.out,hq] at n5
    rw [aAK,aBP] at six
    have HSIX:Hid (∀ W,Below w.heap.size w W->Six W g off u.f):=fun W hW=>six.ck (CK.of_below hW) hgl
    have HN5:Hid (∀ W,BoxN W w.heap.size t.f->W.cell? ⟨w.heap.size,5,none⟩=some (.slice (some ⟨g,off,none⟩) t.ks.length t.f.kc)):=fun W hW=>by
     have:=hW.six.2.2.2.2.2
     simp only [g8] at this
     rw [HQ1.out,HKL.out,hq] at this
     exact this
    obtain⟨c0,c1,c2,c3,c4,c5⟩:=HSIX.out V X2.out.1
    have hg2:g < V.heap.size:=i6 hgl X2.out.1.size
    have b0:(0:Int) < (t.ks.length:Int):=by omega
    have b0n:0 < t.ks.length:=by omega
    have gu:=GD.out u inu
    have hv:Hid (oG c t=oG c u):=aD (by rw [HOE.out];unfold cD;rw [hk,hhd];rfl)
    have e5:(t.f.k==5)=false:=by rw [hk];rfl
    have e7:(t.f.k==7)=true:=by rw [hk];rfl
    have e9:(t.f.k==9)=false:=by rw [hk];rfl
    obtain⟨S,hS⟩:∃ S,(oG c u).1=S:=⟨_,rfl⟩
    have CU:Hid (∀ W,Below V.heap.size V W->Calls Tryz.prog 65 #[.agg #[.int .i64 u.f.k,.int .i64 u.f.n,.int .i64 u.f.mn,.int .i64 u.f.mx,.slice u.f.rq u.f.rs.length u.f.rc,.slice u.f.kq u.f.kl u.f.kc],.agg #[.bool c,.bool o]] W fun e w'=>e=.returned (.string S)/\Below W.heap.size W w'):=fun W hW=>by
     have:=IH.out u W inu (aJ X2.out.1 hW lz9)
     unfold aQ8 at this
     rw [hS] at this
     exact this
    have hS2:S.size<=1000:=by rw [<- hS];exact gu
    have HE:Hid ((oG c t).1=S):=aD (by rw [hv.out,hS])
    have e4:¬ (1000:Int) < (S.size:Int):=by omega
    clear hk hnp hS hu hq six hhd hone gu
    go_upto_region 15 with fail
    refine wx9 ?_
    repeat (go_big_quiet_step (first | exact rfl |(go_at_call 65;exact bN (CU.out _ (cI _)))))
    refine wpQuiet_nil ?_
    intro w5 hw
    have B5:=aD (aJ X2.out.1 (aQ hw) lz9)
    clear hw
    go_wp2
    go_ret
    exact⟨by rw [HE.out] <;> rfl,B5.out⟩
   ·have hE:Hid ((oG c t).1=noB):=aD (by rw [HOE.out];unfold cD;rw [hk];rfl)
    have e5:(t.f.k==5)=false:=by rw [hk];rfl
    have e7:(t.f.k==7)=false:=by rw [hk];rfl
    have e9:(t.f.k==9)=false:=by rw [hk];rfl
    clear hk hnp
    go_wp2
    go_ret
    exact⟨by rw [hE.out];rfl,X2.out.1⟩
   ·have hone:=fG HNP.out (.inr hk)
    have hbd:=lT HNP.out hk
    have hm1:0<=t.f.mn/\t.f.mn<=255/\-1<=t.f.mx/\t.f.mx<=255:=by simp [fU] at hbd;omega
    obtain⟨u,hu⟩:∃ u,t.ks[0]?=some u:=⟨_,g9 (by omega)⟩
    have inu:=i9 hu
    have hhd:(t.ks.map (oG c)).headD (noB,false)=oG c u:=jZ (by rw [aAE,hu];rfl)
    obtain⟨g,off,hq,hgl,six⟩:=HK3.out 0 u hu
    rw [HQ1.out,HKL.out,hq] at n5
    rw [aAK,aBP] at six
    have HSIX:Hid (∀ W,Below w.heap.size w W->Six W g off u.f):=fun W hW=>six.ck (CK.of_below hW) hgl
    have HN5:Hid (∀ W,BoxN W w.heap.size t.f->W.cell? ⟨w.heap.size,5,none⟩=some (.slice (some ⟨g,off,none⟩) t.ks.length t.f.kc)):=fun W hW=>by
     have:=hW.six.2.2.2.2.2
     simp only [g8] at this
     rw [HQ1.out,HKL.out,hq] at this
     exact this
    obtain⟨c0,c1,c2,c3,c4,c5⟩:=HSIX.out V X2.out.1
    have hg2:g < V.heap.size:=i6 hgl X2.out.1.size
    have b0:(0:Int) < (t.ks.length:Int):=by omega
    have b0n:0 < t.ks.length:=by omega
    have gu:=GD.out u inu
    have hv:Hid (oG c t=iF t.f (oG c u)):=aD (by rw [HOE.out];unfold cD;rw [hk,hhd];rfl)
    have e5:(t.f.k==5)=false:=by rw [hk];rfl
    have e7:(t.f.k==7)=false:=by rw [hk];rfl
    have e9:(t.f.k==9)=true:=by rw [hk];rfl
    obtain⟨mn,hmn⟩:∃ mn,t.f.mn=mn:=⟨_,rfl⟩
    rw [hmn] at hm1 n2
    have HMN:=aD hmn
    have hmx0:t.f.mx≠0:=fun h=>by have:=HT.out;rw [hv.out] at this;unfold iF at this;rw [if_pos h] at this;injection this with _ h2;cases h2
    have HMX:=aD hmx0
    clear hk hnp hu hq six hhd hone hmn hbd hmx0
    by_cases h0:mn=0
    ·have hE:Hid ((oG c t).1=noB):=aD (by rw [hv.out];unfold iF;rw [if_neg HMX.out,HMN.out,if_pos h0])
     have e3:¬ (0:Int) < mn:=by omega
     clear h0
     go_wp2
     go_ret
     exact⟨by rw [hE.out];rfl,X2.out.1⟩
    ·have e3:(0:Int) < mn:=by omega
     obtain⟨k,hkk⟩:∃ k:Nat,mn=(k:Int):=⟨mn.toNat,by omega⟩
     have hE:Hid ((oG c t).1=if (oG c u).2 then mA (fI (oG c u).1 k) else (oG c u).1):=aD (by
      rw [hv.out]
      unfold iF
      rw [if_neg HMX.out,HMN.out,if_neg h0,hkk,aBF]
      split
      ·rw [zP]
      ·rfl)
     obtain⟨⟨xs',xb⟩,hX⟩:∃ X,oG c u=X:=⟨_,rfl⟩
     have CU:Hid (∀ W,Below V.heap.size V W->Calls Tryz.prog 64 #[.agg #[.int .i64 u.f.k,.int .i64 u.f.n,.int .i64 u.f.mn,.int .i64 u.f.mx,.slice u.f.rq u.f.rs.length u.f.rc,.slice u.f.kq u.f.kl u.f.kc],.agg #[.bool c,.bool o]] W fun e w'=>e=.returned (.tuple #[.string (cZ (xs',xb)).1,.bool (cZ (xs',xb)).2])/\Below W.heap.size W w'):=fun W hW=>by
      have:=LT.out u W inu (aJ X2.out.1 hW lz9)
      unfold tI at this
      rw [hX] at this
      exact this
     have CP:Hid (∀ W,Below w.heap.size w W->Calls Tryz.prog 65 #[.agg #[.int .i64 u.f.k,.int .i64 u.f.n,.int .i64 u.f.mn,.int .i64 u.f.mx,.slice u.f.rq u.f.rs.length u.f.rc,.slice u.f.kq u.f.kl u.f.kc],.agg #[.bool c,.bool o]] W fun e w'=>e=.returned (.string xs')/\Below W.heap.size W w'):=fun W hW=>by
      have:=IH.out u W inu hW
      unfold aQ8 at this
      rw [hX] at this
      exact this
     rw [hX] at hE gu
     have gu2:xs'.size<=1000:=gu
     clear hX h0 gu
     have hk255:k<=255:=by omega
     have TC:Hid (∀ W,Calls Tryz.prog 114 #[.string xs',.int .i64 mn] W fun e w'=>∃ v,e=.returned (.string v)/\lD xs' k v/\w'=W):=fun W=>by rw [hkk];exact aG7 xs' k W gu2 hk255
     clear hkk
     cases xb with
     | false=>
      unfold cZ at CU
      simp only [aBZ,if_false] at CU hE
      unfold noB at CU
      go_upto_region 18 with fail
      refine wx9 ?_
      repeat (go_big_quiet_step (first | exact rfl |(go_at_call 64;exact bN (CU.out _ (cI _)))))
      refine wpQuiet_nil ?_
      intro w5 hw
      have X5:=aD (X2.out.kept (aQ hw))
      have hg5:g < w5.heap.size:=i6 hg2 (aQ hw).size
      clear hw c0 c1 c2 c3 c4 c5
      clear n0 n1 n2 n3 n4 n5 a0 a1 l0 l1
      obtain⟨n0,n1,n2,n3,n4,n5⟩:=X5.out.2.1.six
      simp only [g8] at n1 n2 n3 n4 n5
      have a0:=aA X5.out.2.2 (i:=0) rfl
      have a1:=aA X5.out.2.2 (i:=1) rfl
      have l0:=aB X5.out.2.1
      have l1:=aB X5.out.2.2
      clear n5
      have n5:=HN5.out _ X5.out.2.1
      obtain⟨c0,c1,c2,c3,c4,c5⟩:=HSIX.out w5 X5.out.1
      have CP2:Hid (∀ W,Below w5.heap.size w5 W->Calls Tryz.prog 65 #[.agg #[.int .i64 u.f.k,.int .i64 u.f.n,.int .i64 u.f.mn,.int .i64 u.f.mx,.slice u.f.rq u.f.rs.length u.f.rc,.slice u.f.kq u.f.kl u.f.kc],.agg #[.bool c,.bool o]] W fun e w'=>e=.returned (.string xs')/\Below W.heap.size W w'):=fun W hW=>CP.out W (aJ X5.out.1 hW lz9)
      have e4:¬ (1000:Int) < (xs'.size:Int):=by omega
      go_upto_region 21 with fail
      refine wx9 ?_
      repeat (go_big_quiet_step (first | exact rfl |(go_at_call 65;exact bN (CP2.out _ (cI _)))))
      refine wpQuiet_nil ?_
      intro w6 hw
      have B6:=aD (aJ X5.out.1 (aQ hw) lz9)
      clear hw
      go_wp2
      go_ret
      exact⟨by rw [hE.out] <;> rfl,B6.out⟩
     | true=>
      unfold cZ at CU
      simp only [if_true] at CU hE
      go_upto_region 18 with fail
      refine wx9 ?_
      repeat (go_big_quiet_step (first | exact rfl |(go_at_call 64;exact bN (CU.out _ (cI _)))))
      refine wpQuiet_nil ?_
      intro w5 hw
      have X5:=aD (X2.out.kept (aQ hw))
      clear hw c0 c1 c2 c3 c4 c5
      clear n0 n1 n2 n3 n4 n5 a0 a1 l0 l1
      obtain⟨n0,n1,n2,n3,n4,n5⟩:=X5.out.2.1.six
      simp only [g8] at n1 n2 n3 n4 n5
      have a0:=aA X5.out.2.2 (i:=0) rfl
      have a1:=aA X5.out.2.2 (i:=1) rfl
      have l0:=aB X5.out.2.1
      have l1:=aB X5.out.2.2
      rw [HMN.out] at n2
      go_upto_region 22 with (go_at_call 114;refine(TC.out _).mono ?_;rintro e w6 ⟨v,rfl,h6,rfl⟩;have TI:=aD (uO h6);clear h6)
      have HE:Hid ((oG c t).1=mA v):=aD (by rw [hE.out];exact aK4 TI.out.1 TI.out.2)
      by_cases hv1:1000 < v.size
      ·have hE2:Hid ((oG c t).1=v.extract 0 1000):=aD (by rw [HE.out];unfold mA;rw [if_pos hv1])
       have e4:(1000:Int) < (v.size:Int):=by omega
       have e6:1000<=v.size:=by omega
       have e7:(1000:Int)<=(v.size:Int):=by omega
       clear hv1
       go_wp2
       go_ret
       exact⟨by rw [hE2.out] <;> rfl,X5.out.1⟩
      ·have hE2:Hid ((oG c t).1=v):=aD (by rw [HE.out];unfold mA;rw [if_neg hv1])
       have e4:¬ (1000:Int) < (v.size:Int):=by omega
       clear hv1
       go_wp2
       go_ret
       exact⟨by rw [hE2.out] <;> rfl,X5.out.1⟩
end
section
attribute [local go_sem] Oper.semAt_some bB
theorem aJ4(c o:Bool)(t:Tr):lG c o t=cZ (tvO (cD c) c o t):=by unfold lG cZ;rfl
theorem aF5{w:World}{t:Tr}(c o:Bool)(hta:TB w t)(hsm:Sm t):Calls Tryz.prog 33 #[.agg #[.int .i64 t.f.k,.int .i64 t.f.n,.int .i64 t.f.mn,.int .i64 t.f.mx,.slice t.f.rq t.f.rs.length t.f.rc,.slice t.f.kq t.f.kl t.f.kc],.agg #[.bool c,.bool o]] w fun e w'=>e=.returned (.tuple #[.string (lG c o t).1,.bool (lG c o t).2])/\Below w.heap.size w w':=by
 have X1:Hid (Bx2 w ((w.alloc (.cells #[.int .i64 t.f.k,.int .i64 t.f.n,.int .i64 t.f.mn,.int .i64 t.f.mx,.slice t.f.rq t.f.rs.length t.f.rc,.slice t.f.kq t.f.kl t.f.kc] 25)).alloc (.cells #[.bool c,.bool o] 27)) t.f c o):=⟨(bz9).alloc (by simp) _,(Below.heap_alloc _ _ _ (by simp)).trans (aE w _),aK _ (by simp only [a7])⟩
 have HTA:=aD hta
 have HSM:=aD hsm
 have HV:=aD (aS5 c o t)
 clear hta hsm
 go_enter Tryz.func33,Tryz.ntmps33
 go_upto_region 1 with fail
 generalize ((w.alloc (.cells #[.int .i64 t.f.k,.int .i64 t.f.n,.int .i64 t.f.mn,.int .i64 t.f.mx,.slice t.f.rq t.f.rs.length t.f.rc,.slice t.f.kq t.f.kl t.f.kc] 25)).alloc (.cells #[.bool c,.bool o] 27))=w1 at X1 ⊢
 obtain⟨n0,n1,n2,n3,n4,n5⟩:=X1.out.2.1.six
 simp only [g8] at n1 n2 n3 n4 n5
 have a0:=aA X1.out.2.2 (i:=0) rfl
 have a1:=aA X1.out.2.2 (i:=1) rfl
 have RT:=aD (pS c o (HTA.out.kept X1.out.1) HSM.out)
 by_cases hr:aY c o 0 0 (pp [] t)=0
 ·have HR:=aD hr
  rw [r8 hr] at RT
  rw [if_pos hr] at HV
  clear hr
  have CS:Hid (∀ W,Below w.heap.size w W->Calls Tryz.prog 64 #[.agg #[.int .i64 t.f.k,.int .i64 t.f.n,.int .i64 t.f.mn,.int .i64 t.f.mx,.slice t.f.rq t.f.rs.length t.f.rc,.slice t.f.kq t.f.kl t.f.kc],.agg #[.bool c,.bool o]] W (tI c t W)):=fun W hW=>aJ3 c o t.sz t W lz9 (iQ HR.out) (HTA.out.kept hW) (gC HR.out)
  go_upto_region 4 with (go_at_call 38;refine(RT.out).mono ?_;rintro e w2 ⟨rfl,h2⟩;have X2:=aD (X1.out.kept h2);clear h2)
  clear n0 n1 n2 n3 n4 n5 a0 a1
  obtain⟨n0,n1,n2,n3,n4,n5⟩:=X2.out.2.1.six
  simp only [g8] at n1 n2 n3 n4 n5
  have a0:=aA X2.out.2.2 (i:=0) rfl
  have a1:=aA X2.out.2.2 (i:=1) rfl
  go_wp2_with (go_at_call 64;refine(CS.out _ X2.out.1).mono ?_;rintro e w3 ⟨rfl,h3⟩;have B3:=aD (aJ X2.out.1 h3 lz9);clear h3)
  go_ret2
  exact⟨by rw [aJ4,HV.out] <;> rfl,B3.out⟩
 ·rw [l8 hr] at RT
  rw [if_neg hr] at HV
  clear hr
  go_wp2_with (go_at_call 38;refine(RT.out).mono ?_;rintro e w2 ⟨rfl,h2⟩;have B2:=aD (aJ X1.out.1 h2 lz9);clear h2)
  go_ret2
  exact⟨by rw [aJ4,HV.out] <;> rfl,B2.out⟩
theorem aP8{w:World}{t:Tr}(c o:Bool)(hta:TB w t)(hsm:Sm t):Calls Tryz.prog 34 #[.agg #[.int .i64 t.f.k,.int .i64 t.f.n,.int .i64 t.f.mn,.int .i64 t.f.mx,.slice t.f.rq t.f.rs.length t.f.rc,.slice t.f.kq t.f.kl t.f.kc],.agg #[.bool c,.bool o]] w fun e w'=>e=.returned (.string (tvO (cD c) c o t).1)/\Below w.heap.size w w':=by
 have X1:Hid (Bx2 w ((w.alloc (.cells #[.int .i64 t.f.k,.int .i64 t.f.n,.int .i64 t.f.mn,.int .i64 t.f.mx,.slice t.f.rq t.f.rs.length t.f.rc,.slice t.f.kq t.f.kl t.f.kc] 25)).alloc (.cells #[.bool c,.bool o] 27)) t.f c o):=⟨(bz9).alloc (by simp) _,(Below.heap_alloc _ _ _ (by simp)).trans (aE w _),aK _ (by simp only [a7])⟩
 have HTA:=aD hta
 have HSM:=aD hsm
 have HV:=aD (aS5 c o t)
 clear hta hsm
 go_enter Tryz.func34,Tryz.ntmps34
 go_upto_region 1 with fail
 generalize ((w.alloc (.cells #[.int .i64 t.f.k,.int .i64 t.f.n,.int .i64 t.f.mn,.int .i64 t.f.mx,.slice t.f.rq t.f.rs.length t.f.rc,.slice t.f.kq t.f.kl t.f.kc] 25)).alloc (.cells #[.bool c,.bool o] 27))=w1 at X1 ⊢
 obtain⟨n0,n1,n2,n3,n4,n5⟩:=X1.out.2.1.six
 simp only [g8] at n1 n2 n3 n4 n5
 have a0:=aA X1.out.2.2 (i:=0) rfl
 have a1:=aA X1.out.2.2 (i:=1) rfl
 have RT:=aD (pS c o (HTA.out.kept X1.out.1) HSM.out)
 by_cases hr:aY c o 0 0 (pp [] t)=0
 ·have HR:=aD hr
  rw [r8 hr] at RT
  rw [if_pos hr] at HV
  clear hr
  have CS:Hid (∀ W,Below w.heap.size w W->Calls Tryz.prog 65 #[.agg #[.int .i64 t.f.k,.int .i64 t.f.n,.int .i64 t.f.mn,.int .i64 t.f.mx,.slice t.f.rq t.f.rs.length t.f.rc,.slice t.f.kq t.f.kl t.f.kc],.agg #[.bool c,.bool o]] W (aQ8 c t W)):=fun W hW=>bH9 c o t.sz t W lz9 (iQ HR.out) (HTA.out.kept hW) (gC HR.out)
  go_upto_region 4 with (go_at_call 38;refine(RT.out).mono ?_;rintro e w2 ⟨rfl,h2⟩;have X2:=aD (X1.out.kept h2);clear h2)
  clear n0 n1 n2 n3 n4 n5 a0 a1
  obtain⟨n0,n1,n2,n3,n4,n5⟩:=X2.out.2.1.six
  simp only [g8] at n1 n2 n3 n4 n5
  have a0:=aA X2.out.2.2 (i:=0) rfl
  have a1:=aA X2.out.2.2 (i:=1) rfl
  go_wp2_with (go_at_call 65;refine(CS.out _ X2.out.1).mono ?_;rintro e w3 ⟨rfl,h3⟩;have B3:=aD (aJ X2.out.1 h3 lz9);clear h3)
  go_ret
  exact⟨by rw [HV.out] <;> rfl,B3.out⟩
 ·rw [l8 hr] at RT
  rw [if_neg hr] at HV
  clear hr
  go_wp2_with (go_at_call 38;refine(RT.out).mono ?_;rintro e w2 ⟨rfl,h2⟩;have B2:=aD (aJ X1.out.1 h2 lz9);clear h2)
  go_ret
  exact⟨by rw [HV.out] <;> rfl,B2.out⟩
end
section
attribute [local go_sem] Oper.semAt_some
theorem zN{x:Int}(h:isC x=true):∃ (b:UInt8) (l:List UInt8),Lib.encodeRune x=b :: l/\(b.toNat:Int)=fb x:=by
 have hr:=iU h
 rw [cJ] at h
 have key:∀ (y:Int),0<=y->y<=255->((y.toNat.toUInt8).toNat:Int)=y:=fun y h0 h1=>by
  have:(y.toNat.toUInt8).toNat=y.toNat % 256:=by simp [Nat.toUInt8]
  rw [this]
  omega
 unfold Lib.encodeRune
 by_cases h1:x<=127
 ·rw [Lib.encodeRuneZ_one h.1 h1]
  refine⟨_,_,rfl,?_⟩
  rw [key x (by omega) (by omega)]
  unfold fb
  rw [if_pos (by omega)]
 ·by_cases h2:x<=2047
  ·rw [Lib.encodeRuneZ_two (by omega) h2]
   refine⟨_,_,rfl,?_⟩
   rw [key _ (by omega) (by omega)]
   unfold fb
   rw [if_neg (by omega),if_pos (by omega)]
  ·by_cases h3:x<=65535
   ·rw [Lib.encodeRuneZ_three (by omega)]
    refine⟨_,_,rfl,?_⟩
    rw [key _ (by omega) (by omega)]
    unfold fb
    rw [if_neg (by omega),if_neg (by omega),if_pos (by omega)]
   ·rw [Lib.encodeRuneZ_four (by omega) (by omega)]
    refine⟨_,_,rfl,?_⟩
    rw [key _ (by omega) (by omega)]
    unfold fb
    rw [if_neg (by omega),if_neg (by omega),if_neg (by omega)]
def okB(c:Bool)(n:Int):Bool:=!c || decide (n < 128) || decide (194<=n)
def SB(c:Bool)(L:List (Int × Int))(S:BitVec 256):Prop:=∀ n:Nat,n < 256->(S.getLsbD n=true ↔ ∃ r∈L,fbU c r.1<=(n:Int)/\(n:Int)<=fbU c r.2/\okB c (n:Int)=true)
theorem SB.nil(c:Bool):SB c [] 0#256:=fun n hn=>by simp
def SBi(c:Bool)(L:List (Int × Int))(lo b:Int)(S:BitVec 256):Prop:=∀ n:Nat,n < 256->(S.getLsbD n=true ↔ (∃ r∈L,fbU c r.1<=(n:Int)/\(n:Int)<=fbU c r.2/\okB c (n:Int)=true)\/(lo<=(n:Int)/\(n:Int) < b/\okB c (n:Int)=true))
theorem SB.start{c:Bool}{L:List (Int × Int)}{S:BitVec 256}(h:SB c L S)(lo:Int):SBi c L lo lo S:=fun n hn=>by
 rw [h n hn]
 exact⟨.inl,fun q=>q.elim id (fun z=>by omega)⟩
theorem SBi.put{c:Bool}{L:List (Int × Int)}{lo b:Int}{S:BitVec 256}(h:SBi c L lo b S)(hl:lo<=b)(h0:0<=b)(h1:b<=255)(hb:okB c b=true):SBi c L lo (b+1) (aN S (aX b)):=fun n hn=>by
 rw [mN,Bool.or_eq_true,h n hn,eS,aBC]
 constructor
 ·rintro ((q | q) | ⟨-,-,q⟩)
  ·exact .inl q
  ·exact .inr ⟨q.1,by omega,q.2.2⟩
  ·subst q;exact .inr ⟨hl,by omega,hb⟩
 ·rintro (q | ⟨q1,q2,q3⟩)
  ·exact .inl (.inl q)
  ·by_cases e:(n:Int)=b
   ·exact .inr ⟨h0,h1,e.symm⟩
   ·exact .inl (.inr ⟨q1,by omega,q3⟩)
theorem SBi.skip{c:Bool}{L:List (Int × Int)}{lo b:Int}{S:BitVec 256}(h:SBi c L lo b S)(hb:okB c b=false):SBi c L lo (b+1) S:=fun n hn=>by
 rw [h n hn]
 constructor
 ·rintro (q | q)
  ·exact .inl q
  ·exact .inr ⟨q.1,by omega,q.2.2⟩
 ·rintro (q | ⟨q1,q2,q3⟩)
  ·exact .inl q
  ·refine .inr ⟨q1,?_,q3⟩
   have:(n:Int)≠b:=fun e=>by rw [e,hb] at q3;cases q3
   omega
theorem SBi.end{c:Bool}{L:List (Int × Int)}{r:Int × Int}{b:Int}{S:BitVec 256}(h:SBi c L (fbU c r.1) b S)(hb:fbU c r.2 < b)(hb2:b<=fbU c r.2+1\/b=fbU c r.1)(hle:fbU c r.1<=fbU c r.2):SB c (L ++ [r]) S:=fun n hn=>by
 rw [h n hn]
 constructor
 ·rintro (⟨r',h1,h2⟩ | ⟨q1,q2,q3⟩)
  ·exact⟨r',n9.2 (.inl h1),h2⟩
  ·exact⟨r,n9.2 (.inr (by simp)),q1,by omega,q3⟩
 ·rintro ⟨r',h1,h2,h3,h4⟩
  rcases n9.1 h1 with e | e
  ·exact .inl ⟨r',e,h2,h3,h4⟩
  ·rw [aBN.1 e] at h2 h3
   exact .inr ⟨h2,by omega,h4⟩
theorem SB.is{c:Bool}{L:List (Int × Int)}{S:BitVec 256}(h:SB c L S)(hL:∀ r∈L,bP c r.1/\bP c r.2/\r.1<=r.2):fB c L=S:=by
 refine BitVec.eq_of_getLsbD_eq fun n hn=>?_
 unfold fB
 rw [eT _ _ _ lz9,aBD,h n hn]
 simp only [hn,decide_true,aCC,aBC]
 constructor
 ·rintro ⟨x,⟨r,hr,h1,h2⟩,hc,hx⟩
  refine⟨r,hr,?_⟩
  cases c with
  | false=>
   have hx':x=(n:Int):=hx
   subst hx'
   exact⟨h1,h2,rfl⟩
  | true=>
   have hx':fb x=(n:Int):=hx
   obtain⟨a,b,d⟩:=hL r hr
   have i1:=(cJ _).1 (cV a)
   have i2:=(cJ _).1 (cV b)
   have i3:=iU (cV hc)
   refine⟨?_,?_,?_⟩
   ·show fb r.1<=_;rw [<- hx'];exact jJ (by omega) h1 (by omega)
   ·show _<=fb r.2;rw [<- hx'];exact jJ (by omega) h2 (by omega)
   ·unfold okB;simp;omega
 ·rintro ⟨r,hr,h1,h2,h3⟩
  obtain⟨a,b,d⟩:=hL r hr
  cases c with
  | false=>
   have h1':r.1<=(n:Int):=h1
   have h2':(n:Int)<=r.2:=h2
   refine⟨n,⟨r,hr,h1',h2'⟩,?_,rfl⟩
   simp [bP,top] at a b ⊢
   omega
  | true=>
   unfold okB at h3
   simp at h3
   obtain⟨x,x1,x2,x3,x4⟩:=aX2 (cV a) (cV b) d h1 h2 h3
   refine⟨x,⟨r,hr,x1,x2⟩,?_,x4⟩
   have:=(cJ x).1 x3
   simp [bP,top]
   omega
end
section
attribute [local go_sem] Oper.semAt_some
structure BI(w:World)(S:BitVec 256)(V:World):Prop where
 r:V.heap[w.heap.size]?=some (.cells #[.int .u64 0,.int .u64 0,.int .u64 0,.int .u64 0] 36 (0,0))
 s:V.heap[w.heap.size+1]?=some (.cells #[.int .u64 (aC S 0),.int .u64 (aC S 1),.int .u64 (aC S 2),.int .u64 (aC S 3)] 36 (0,0))
 bel:Below w.heap.size w V
theorem BI.kept{w V V':World}{S:BitVec 256}(h:BI w S V)(hb:Below V.heap.size V V'):BI w S V':=⟨(hb.block _ (aB h.r)).trans h.r,(hb.block _ (aB h.s)).trans h.s,aJ h.bel hb lz9⟩
theorem BI.put{w V:World}{S:BitVec 256}(h:BI w S V)(T:BitVec 256):BI w T (bD V (w.heap.size+1) 0 [.int .u64 (aC T 0),.int .u64 (aC T 1),.int .u64 (aC T 2),.int .u64 (aC T 3)]):=
 ⟨((aV _ _ 0 V).block _ (aB h.r) (by omega)).trans h.r,bA h.s [.int .u64 (aC T 0),.int .u64 (aC T 1),.int .u64 (aC T 2),.int .u64 (aC T 3)] rfl,bC h.bel (aV _ _ 0 V) lz9 (fun k e=>by omega)⟩
theorem BI.end{w V:World}{S:BitVec 256}(h:BI w S V):(bD V w.heap.size 0 [.int .u64 (aC S 0),.int .u64 (aC S 1),.int .u64 (aC S 2),.int .u64 (aC S 3)]).heap[w.heap.size]?=some (.cells #[.int .u64 (aC S 0),.int .u64 (aC S 1),.int .u64 (aC S 2),.int .u64 (aC S 3)] 36 (0,0))/\Below w.heap.size w (bD V w.heap.size 0 [.int .u64 (aC S 0),.int .u64 (aC S 1),.int .u64 (aC S 2),.int .u64 (aC S 3)]):=
 ⟨bA h.r [.int .u64 (aC S 0),.int .u64 (aC S 1),.int .u64 (aC S 2),.int .u64 (aC S 3)] rfl,bC h.bel (aV _ _ 0 V) lz9 (fun k e=>by omega)⟩
theorem bK9{R:Ending->World->Prop}{a:Act}{W:World}{b:Nat}{x:BitVec 256}(h:W.heap[b]?=some (.cells #[.int .u64 (aC x 0),.int .u64 (aC x 1),.int .u64 (aC x 2),.int .u64 (aC x 3)] 36 (0,0)))(ha:a.tmps[4]?.getD undef=.pointer (some ⟨b,0,none⟩))(hd:a.defers=[])(hR:R (.returned (.agg #[.int .u64 (aC x 0),.int .u64 (aC x 1),.int .u64 (aC x 2),.int .u64 (aC x 3)])) W):bodyPost Tryz.prog Tryz.f112 R .ret a W:=by
 refine bodyPost_ret (v:=.agg #[.int .u64 (aC x 0),.int .u64 (aC x 1),.int .u64 (aC x 2),.int .u64 (aC x 3)]) ?_ hd hR
 have z0:=aA h (i:=0) rfl;have z1:=aA h (i:=1) rfl;have z2:=aA h (i:=2) rfl;have z3:=aA h (i:=3) rfl
 simp [results,Tryz.results112,go_sem,ha,z0,z1,z2,z3]
theorem uJ{x:Int}(h0:0<=x)(h1:x<=255):wrap64 x=x:=by unfold wrap64;omega
theorem aX3{c:Bool}{x:Int}(h:bP c x):0<=fbU c x/\fbU c x<=255:=by
 cases c with
 | false=>simp [bP,top] at h;exact⟨by show 0<=x;omega,by show x<=255;omega⟩
 | true=>have:=iU (cV h);exact⟨by show 0<=fb x;omega,by show fb x<=255;omega⟩
theorem bM7{c:Bool}{x y:Int}(h:bP c x)(k:bP c y)(hl:x<=y):fbU c x<=fbU c y:=by
 cases c with
 | false=>exact hl
 | true=>
  have i1:=(cJ _).1 (cV h)
  have i2:=(cJ _).1 (cV k)
  exact jJ (by omega) hl (by omega)
theorem bG5{w:World}{q:Option Addr}{k:Nat}{L:List (Int × Int)}(c:Bool)(h:ArgR w (.slice q L.length k) L)(hL:∀ r∈L,bP c r.1/\bP c r.2/\r.1<=r.2){X:BitVec 256}(hX:fB c L=X) :
  Calls Tryz.prog 112 #[.slice q L.length k,.bool c] w fun e w'=>e=.returned (.agg #[.int .u64 (aC X 0),.int .u64 (aC X 1),.int .u64 (aC X 2),.int .u64 (aC X 3)])/\Below w.heap.size w w':=by
 obtain⟨q',k',e,h1,h2,h3⟩:=h.slice
 injection e with e1 _ e3
 have H3:=aD h3
 have HQ:=aD e1
 have HL:=aD hL
 have HXX:=aD hX
 have h9:L.length<=9223372036854775807:=h1
 have X1:Hid (BI w 0#256 ((w.alloc (.cells #[.int .u64 0,.int .u64 0,.int .u64 0,.int .u64 0] 36)).alloc (.cells #[.int .u64 0,.int .u64 0,.int .u64 0,.int .u64 0] 36))):=by
  refine⟨(Below.heap_alloc _ _ _ (by simp)).trans (aE w _),?_,(bz9).alloc (by simp) _⟩
  simp only [bZ]
  exact aK _ (by simp only [a7])
 clear h3 h h1 hL e1 e3 hX
 go_enter Tryz.func112,Tryz.ntmps112
 go_upto_region 3 with fail
 generalize ((w.alloc (.cells #[.int .u64 0,.int .u64 0,.int .u64 0,.int .u64 0] 36)).alloc (.cells #[.int .u64 0,.int .u64 0,.int .u64 0,.int .u64 0] 36))=W0 at X1 ⊢
 go_loopw [6] (fun i wr=>∃ (j:Nat) (S:BitVec 256),j<=L.length/\i=.int .i64 (j:Int)/\SB c (L.take j) S/\BI w S wr) (fun i _=>L.length - (intOf i).toNat)
 case atStart=>exact⟨0,0#256,m9 _,rfl,SB.nil c,X1.out⟩
 case round=>
  obtain⟨j,S,hj,rfl,hsb,hbi⟩:=hrel
  have HB:=aD hbi
  have HS:=aD hsb
  clear hsb hbi
  rename World=>W1
  by_cases hjl:j < L.length
  ·obtain⟨r,hr⟩:∃ r,L[j]?=some r:=⟨_,g9 hjl⟩
   obtain⟨ca,cb,cl⟩:=HL.out r (i9 hr)
   have bd1:=aX3 ca
   have bd2:=aX3 cb
   have hle:=bM7 ca cb cl
   have HT:=aD (show L.take (j+1)=L.take j ++ [r] by rw [o5,hr];rfl)
   obtain⟨g,off,hq,hg,d1,d2⟩:=H3.out j r hr
   rw [aAJ] at d1 d2
   have D1:=(HB.out.bel.cell (p:=⟨g,off+j * 2,none⟩) hg).trans d1
   have D2:=(HB.out.bel.cell (p:=⟨g,off+j * 2+1,none⟩) hg).trans d2
   have hg2:g < W1.heap.size:=i6 hg HB.out.bel.size
   have i1:(j:Int) < (L.length:Int):=by omega
   have hwr:IntKind.wrap .i64 ((j:Int)+1)=(j:Int)+1:=wrap_small _ (by omega) (by omega)
   have hq2:q=some ⟨g,off,none⟩:=HQ.out.trans hq
   subst hq2
   obtain⟨x1,hx1⟩:∃ x,r.1=x:=⟨_,rfl⟩
   obtain⟨x2,hx2⟩:∃ x,r.2=x:=⟨_,rfl⟩
   rw [hx1] at ca bd1 hle D1
   rw [hx2] at cb bd2 hle D2
   have HX:=aD (⟨hx1,hx2⟩:r.1=x1/\r.2=x2)
   clear d1 d2 hr hx1 hx2 cl hq
   cases c with
   | true=>
    obtain⟨b1,l1,t1,f1⟩:=zN (cV ca)
    obtain⟨b2,l2,t2,f2⟩:=zN (cV cb)
    have C1:Hid (∀ w,Calls Tryz.prog 108 #[.int .i64 x1] w fun e w'=>e=.returned (.string (txt (b1 :: l1)))/\Below w.heap.size w w'):=fun w=>by rw [<- t1];exact sL w (cV ca)
    have C2:Hid (∀ w,Calls Tryz.prog 108 #[.int .i64 x2] w fun e w'=>e=.returned (.string (txt (b2 :: l2)))/\Below w.heap.size w w'):=fun w=>by rw [<- t2];exact sL w (cV cb)
    go_upto_region 9 with (go_at_call 108;(with_reducible refine(C1.out _).mono ?_);rintro e w3 ⟨rfl,h3⟩;have HB3:=aD (HB.out.kept h3);clear h3)
    go_upto_region 10 with (go_at_call 108;(with_reducible refine(C2.out _).mono ?_);rintro e w4 ⟨rfl,h4⟩;have HB4:=aD (HB3.out.kept h4);clear h4)
    obtain⟨lo,hlo⟩:∃ lo,fbU true x1=lo:=⟨_,rfl⟩
    obtain⟨hi,hhi⟩:∃ hi,fbU true x2=hi:=⟨_,rfl⟩
    rw [hlo] at bd1 hle
    rw [hhi] at bd2 hle
    have HLO:=aD hlo
    have HHI:=aD hhi
    have v1:wrap64 (((txt (b1 :: l1))[0]'(by rw [fY];simp)).toNat:Int)=lo:=by
     have e:((txt (b1 :: l1))[0]'(by rw [fY];simp))=b1:=rfl
     rw [e,f1,show fb x1=lo from hlo]
     exact uJ bd1.1 bd1.2
    have v2:wrap64 (((txt (b2 :: l2))[0]'(by rw [fY];simp)).toNat:Int)=hi:=by
     have e:((txt (b2 :: l2))[0]'(by rw [fY];simp))=b2:=rfl
     rw [e,f2,show fb x2=hi from hhi]
     exact uJ bd2.1 bd2.2
    have z1s:0 < (txt (b1 :: l1)).size:=by rw [fY];simp
    have z2s:0 < (txt (b2 :: l2)).size:=by rw [fY];simp
    have z1i:(0:Int) < ((txt (b1 :: l1)).size:Int):=by omega
    have z2i:(0:Int) < ((txt (b2 :: l2)).size:Int):=by omega
    clear hlo hhi f1 f2 t1 t2 ca cb
    go_upto_region 13 with fail
    rw [v1,v2]
    clear v1 v2 z1i z2i C1 C2
    clear D1 D2
    go_loopw [11] (fun i wr=>∃ (b:Int) (T:BitVec 256),lo<=b/\b<=hi+1/\i=.int .i64 b/\SBi true (L.take j) lo b T/\BI w T wr) (fun i _=>(hi+1 - intOf i).toNat)
    case atStart=>exact⟨lo,S,aAN _,by omega,rfl,HS.out.start lo,HB4.out⟩
    case round=>
     obtain⟨b,T,hb1,hb2,rfl,hi1,hw1⟩:=hrel
     have HI:=aD hi1
     have HW:=aD hw1
     clear hi1 hw1
     by_cases hbl:b<=hi
     ·have hw2:IntKind.wrap .i64 (b+1)=b+1:=by rw [IntKind.wrap_i64];omega
      by_cases h8:b < 128
      ·have hok:okB true b=true:=by unfold okB;simp;omega
       have d8:decide (b < 128)=true:=r8 h8
       have N1:=aD (HI.out.put hb1 (by omega) (by omega) hok)
       have s0:=aA HW.out.s (i:=0) rfl
       have s1':=aA HW.out.s (i:=1) rfl
       have s2':=aA HW.out.s (i:=2) rfl
       have s3:=aA HW.out.s (i:=3) rfl
       have WC:=aD (rN T b wr)
       go_wp2_with (go_at_call 140;(with_reducible refine(WC.out).mono ?_);rintro e w8 ⟨rfl,h8'⟩;have HW8:=aD (HW.out.kept h8');have P8:=aD (HW8.out.put (aN T (aX b)));have y0:=aA HW8.out.s (i:=0) rfl;have y1:=aA HW8.out.s (i:=1) rfl;have y2:=aA HW8.out.s (i:=2) rfl;have y3:=aA HW8.out.s (i:=3) rfl;have fy:=fun z=>aG HW8.out.s z;clear h8')
       go_roundw
       case rel=>exact⟨b+1,aN T (aX b),by omega,by omega,by go_num,N1.out,P8.out⟩
       case measure=>simp only [intOf];omega
      ·by_cases h9:194<=b
       ·have hok:okB true b=true:=by unfold okB;simp;omega
        have d8:decide (b < 128)=false:=l8 h8
        have d9:decide (194<=b)=true:=r8 h9
        have N1:=aD (HI.out.put hb1 (by omega) (by omega) hok)
        have s0:=aA HW.out.s (i:=0) rfl
        have s1':=aA HW.out.s (i:=1) rfl
        have s2':=aA HW.out.s (i:=2) rfl
        have s3:=aA HW.out.s (i:=3) rfl
        have WC:=aD (rN T b wr)
        go_wp2_with (go_at_call 140;(with_reducible refine(WC.out).mono ?_);rintro e w8 ⟨rfl,h8'⟩;have HW8:=aD (HW.out.kept h8');have P8:=aD (HW8.out.put (aN T (aX b)));have y0:=aA HW8.out.s (i:=0) rfl;have y1:=aA HW8.out.s (i:=1) rfl;have y2:=aA HW8.out.s (i:=2) rfl;have y3:=aA HW8.out.s (i:=3) rfl;have fy:=fun z=>aG HW8.out.s z;clear h8')
        go_roundw
        case rel=>exact⟨b+1,aN T (aX b),by omega,by omega,by go_num,N1.out,P8.out⟩
        case measure=>simp only [intOf];omega
       ·have hok:okB true b=false:=by unfold okB;simp;omega
        have d8:decide (b < 128)=false:=l8 h8
        have d9:decide (194<=b)=false:=l8 h9
        have N1:=aD (HI.out.skip hok)
        go_wp2
        go_roundw
        case rel=>exact⟨b+1,T,by omega,by omega,by go_num,N1.out,HW.out⟩
        case measure=>simp only [intOf];omega
     ·have NE:=aD (show SB true (L.take (j+1)) T by
       rw [HT.out]
       refine SBi.end (r:=r) (b:=b) ?_ ?_ ?_ ?_
       ·rw [HX.out.1,HLO.out];exact HI.out
       ·rw [HX.out.2,HHI.out];omega
       ·left;rw [HX.out.2,HHI.out];omega
       ·rw [HX.out.1,HX.out.2,HLO.out,HHI.out];exact hle)
      go_wp2
      go_roundw
      case rel=>exact⟨j+1,T,by omega,by go_num,NE.out,HW.out⟩
      case measure=>simp only [intOf];omega
   | false=>
    obtain⟨lo,hlo⟩:∃ lo,fbU false x1=lo:=⟨_,rfl⟩
    obtain⟨hi,hhi⟩:∃ hi,fbU false x2=hi:=⟨_,rfl⟩
    rw [hlo] at bd1 hle
    rw [hhi] at bd2 hle
    have HLO:=aD hlo
    have HHI:=aD hhi
    have hlo':x1=lo:=hlo
    have hhi':x2=hi:=hhi
    rw [hlo'] at D1
    rw [hhi'] at D2
    clear hlo hhi ca cb hlo' hhi'
    go_upto_region 13 with fail
    clear D1 D2
    go_loopw [11] (fun i wr=>∃ (b:Int) (T:BitVec 256),lo<=b/\b<=hi+1/\i=.int .i64 b/\SBi false (L.take j) lo b T/\BI w T wr) (fun i _=>(hi+1 - intOf i).toNat)
    case atStart=>exact⟨lo,S,aAN _,by omega,rfl,HS.out.start lo,HB.out⟩
    case round=>
     obtain⟨b,T,hb1,hb2,rfl,hi1,hw1⟩:=hrel
     have HI:=aD hi1
     have HW:=aD hw1
     clear hi1 hw1
     by_cases hbl:b<=hi
     ·have hw2:IntKind.wrap .i64 (b+1)=b+1:=by rw [IntKind.wrap_i64];omega
      have hok:okB false b=true:=rfl
      have N1:=aD (HI.out.put hb1 (by omega) (by omega) hok)
      have s0:=aA HW.out.s (i:=0) rfl
      have s1':=aA HW.out.s (i:=1) rfl
      have s2':=aA HW.out.s (i:=2) rfl
      have s3:=aA HW.out.s (i:=3) rfl
      have WC:=aD (rN T b wr)
      go_wp2_with (go_at_call 140;(with_reducible refine(WC.out).mono ?_);rintro e w8 ⟨rfl,h8'⟩;have HW8:=aD (HW.out.kept h8');have P8:=aD (HW8.out.put (aN T (aX b)));have y0:=aA HW8.out.s (i:=0) rfl;have y1:=aA HW8.out.s (i:=1) rfl;have y2:=aA HW8.out.s (i:=2) rfl;have y3:=aA HW8.out.s (i:=3) rfl;have fy:=fun z=>aG HW8.out.s z;clear h8')
      go_roundw
      case rel=>exact⟨b+1,aN T (aX b),by omega,by omega,by go_num,N1.out,P8.out⟩
      case measure=>simp only [intOf];omega
     ·have NE:=aD (show SB false (L.take (j+1)) T by
       rw [HT.out]
       refine SBi.end (r:=r) (b:=b) ?_ ?_ ?_ ?_
       ·rw [HX.out.1,HLO.out];exact HI.out
       ·rw [HX.out.2,HHI.out];omega
       ·left;rw [HX.out.2,HHI.out];omega
       ·rw [HX.out.1,HX.out.2,HLO.out,HHI.out];exact hle)
      go_wp2
      go_roundw
      case rel=>exact⟨j+1,T,by omega,by go_num,NE.out,HW.out⟩
      case measure=>simp only [intOf];omega
  ·have i1:¬ (j:Int) < (L.length:Int):=by omega
   have hT:=HS.out
   rw [j9 (by omega)] at hT
   have HE:=aD (hT.is HL.out)
   obtain⟨s0,s1,s2,s3⟩:_/\_/\_/\_:=⟨aA HB.out.s (i:=0) rfl,aA HB.out.s (i:=1) rfl,aA HB.out.s (i:=2) rfl,aA HB.out.s (i:=3) rfl⟩
   have z0:=aA HB.out.r (i:=0) rfl
   have z1:=aA HB.out.r (i:=1) rfl
   have z2:=aA HB.out.r (i:=2) rfl
   have z3:=aA HB.out.r (i:=3) rfl
   have fz:=fun z=>aG HB.out.r z
   clear hT
   go_wp2
   refine bK9 (b:=w.heap.size) (x:=S) HB.out.end.1 rfl rfl ?_
   exact⟨by rw [<- HXX.out,HE.out],HB.out.end.2⟩
end
section
attribute [local go_sem] Oper.semAt_some bB
theorem bM0{y:El}{n:Int}(hk:y.2.f.k=7)(hn:y.2.f.n=n):isG n y=true:=by unfold isG;rw [hk,hn];simp
noncomputable def KC (f:Fl) (c o:Bool):Array Value:=((((((((Tryz.zeroCells106.setIfInBounds 0 (.int .i64 f.k)).setIfInBounds 1 (.int .i64 f.n)).setIfInBounds 2 (.int .i64 f.mn)).setIfInBounds 3 (.int .i64 f.mx)).setIfInBounds 4 (.slice f.rq f.rs.length f.rc)).setIfInBounds 5 (.slice f.kq f.kl f.kc)).setIfInBounds 6 (.bool c)).setIfInBounds 7 (.bool o))
theorem aG2:Tryz.zeroCells106.size=287:=by kernel_rfl
theorem bE2(f:Fl)(c o:Bool):(KC f c o).size=287:=by unfold KC;simp only [aAO];exact aG2
theorem bL9(f:Fl)(c o:Bool)(i:Nat)(h:8<=i):(KC f c o)[i]?=Tryz.zeroCells106[i]?:=by
 unfold KC
 rw [i7 (by omega),i7 (by omega),i7 (by omega),i7 (by omega),i7 (by omega),i7 (by omega),i7 (by omega),i7 (by omega)]
theorem bE3(f:Fl)(c o:Bool):∀ (i:Nat) (v:Value),(f.cells ++ [.bool c,.bool o])[i]?=some v->(KC f c o)[i]?=some v:=by
 have hz:=aG2
 intro i v h
 have hi:i < 8:=by have:=(i5.1 h).1;rw [m7,qD] at this;simpa using this
 unfold KC
 match i,hi,h with
 | 0,_,h=>cases h;rw [i7 (by omega),i7 (by omega),i7 (by omega),i7 (by omega),i7 (by omega),i7 (by omega),i7 (by omega),v9 (by omega)]
 | 1,_,h=>cases h;rw [i7 (by omega),i7 (by omega),i7 (by omega),i7 (by omega),i7 (by omega),i7 (by omega),v9 (by simp only [aAO];omega)]
 | 2,_,h=>cases h;rw [i7 (by omega),i7 (by omega),i7 (by omega),i7 (by omega),i7 (by omega),v9 (by simp only [aAO];omega)]
 | 3,_,h=>cases h;rw [i7 (by omega),i7 (by omega),i7 (by omega),i7 (by omega),v9 (by simp only [aAO];omega)]
 | 4,_,h=>cases h;rw [i7 (by omega),i7 (by omega),i7 (by omega),v9 (by simp only [aAO];omega)]
 | 5,_,h=>cases h;rw [i7 (by omega),i7 (by omega),v9 (by simp only [aAO];omega)]
 | 6,_,h=>cases h;rw [i7 (by omega),v9 (by simp only [aAO];omega)]
 | 7,_,h=>cases h;rw [v9 (by simp only [aAO];omega)]
end
section
def cS(x:BitVec 256 × Bool):List Value:=[.int .u64 (aC x.1 0),.int .u64 (aC x.1 1),.int .u64 (aC x.1 2),.int .u64 (aC x.1 3)]
theorem bN3(x:BitVec 256 × Bool):(cS x).length=4:=rfl
def KF(V:World)(b:Nat)(f:Fl)(c o:Bool)(G:Int->BitVec 256 × Bool):Prop:=
 ∃ cs:List Value,V.heap[b]?=some (.cells cs.toArray 106 (0,0))/\cs.length=287/\(∀ (i:Nat) (v:Value),(f.cells ++ [.bool c,.bool o])[i]?=some v->cs[i]?=some v) /\
  ∀ i:Nat,i < 31->∃ h:Bool,cs[101+i]?=some (.bool h)/\(h=true->(∀ j:Nat,j < 4->cs[132+i * 4+j]?=(cS (G (i:Int)))[j]?)/\cs[256+i]?=some (.bool (G (i:Int)).2))
variable {f:Fl} {c o:Bool} {G:Int->BitVec 256 × Bool}
theorem KF.same{V V':World}{b:Nat}(h:KF V b f c o G)(e:V'.heap[b]?=V.heap[b]?):KF V' b f c o G:=by
 obtain⟨cs,h1,h2⟩:=h
 exact⟨cs,e.trans h1,h2⟩
theorem KF.lt{V:World}{b:Nat}(h:KF V b f c o G):b < V.heap.size:=by
 obtain⟨cs,h1,-⟩:=h
 exact aB h1
theorem KF.frz{V:World}{b:Nat}(h:KF V b f c o G)(i:Nat):V.frozen? ⟨b,i,none⟩=false:=by
 obtain⟨cs,h1,-⟩:=h
 exact aG h1 i
theorem KF.any{V:World}{b:Nat}(h:KF V b f c o G){i:Nat}(hi:i < 287):∃ v,V.cell? ⟨b,i,none⟩=some v:=by
 obtain⟨cs,h1,h2,-⟩:=h
 exact⟨cs[i],aA h1 (by simp)⟩
theorem KF.head{V:World}{b:Nat}(h:KF V b f c o G){i:Nat}{v:Value}(hi:(f.cells ++ [.bool c,.bool o])[i]?=some v):V.cell? ⟨b,i,none⟩=some v:=by
 obtain⟨cs,h1,h2,h3,-⟩:=h
 exact aA h1 (by simpa using h3 i v hi)
theorem KF.has{V:World}{b:Nat}(h:KF V b f c o G){i:Nat}(hi:i < 31):∃ h:Bool,V.cell? ⟨b,101+i,none⟩=some (.bool h)/\(h=true->(∀ (j:Nat) (v:Value),(cS (G (i:Int)))[j]?=some v->V.cell? ⟨b,132+i * 4+j,none⟩=some v)/\V.cell? ⟨b,256+i,none⟩=some (.bool (G (i:Int)).2)):=by
 obtain⟨cs,h1,h2,h3,h4⟩:=h
 obtain⟨h,a1,a2⟩:=h4 i hi
 refine⟨h,aA h1 (by simpa using a1),fun e=>⟨fun j v hj=>aA h1 ?_,aA h1 (by simpa using (a2 e).2)⟩⟩
 have hj4:j < 4:=by have:=(i5.1 hj).1;rwa [bN3] at this
 rw [aBT,(a2 e).1 j hj4]
 exact hj
theorem aL4:∀ i:Nat,i < 31->Tryz.zeroCells106[101+i]?=some (.bool false)
 | 0,_=>by kernel_rfl
 | 1,_=>by kernel_rfl
 | 2,_=>by kernel_rfl
 | 3,_=>by kernel_rfl
 | 4,_=>by kernel_rfl
 | 5,_=>by kernel_rfl
 | 6,_=>by kernel_rfl
 | 7,_=>by kernel_rfl
 | 8,_=>by kernel_rfl
 | 9,_=>by kernel_rfl
 | 10,_=>by kernel_rfl
 | 11,_=>by kernel_rfl
 | 12,_=>by kernel_rfl
 | 13,_=>by kernel_rfl
 | 14,_=>by kernel_rfl
 | 15,_=>by kernel_rfl
 | 16,_=>by kernel_rfl
 | 17,_=>by kernel_rfl
 | 18,_=>by kernel_rfl
 | 19,_=>by kernel_rfl
 | 20,_=>by kernel_rfl
 | 21,_=>by kernel_rfl
 | 22,_=>by kernel_rfl
 | 23,_=>by kernel_rfl
 | 24,_=>by kernel_rfl
 | 25,_=>by kernel_rfl
 | 26,_=>by kernel_rfl
 | 27,_=>by kernel_rfl
 | 28,_=>by kernel_rfl
 | 29,_=>by kernel_rfl
 | 30,_=>by kernel_rfl
 | i+31,h=>absurd h (by omega)
theorem bL8(V:World)(f:Fl)(c o:Bool)(G:Int->BitVec 256 × Bool):KF (V.alloc (.cells (KC f c o) 106)) V.heap.size f c o G:=by
 refine⟨(KC f c o).toList,?_,by rw [aBX,bE2],fun i v h=>?_,fun i hi=>⟨false,?_,fun e=>by cases e⟩⟩
 ·rw [Array.toArray_toList];exact aE V _
 ·rw [Array.getElem?_toList];exact bE3 f c o i v h
 ·rw [Array.getElem?_toList,bL9 f c o _ (by omega)];exact aL4 i hi
structure KSF(B b:Nat)(t:Tr)(c o:Bool)(G:Int->BitVec 256 × Bool)(V:World):Prop where
 tb:TB V t
 ft:Foot (fun k=>k < B) t
 lt:B<=b
 kw:KF V b t.f c o G
variable {B b:Nat} {t:Tr}
theorem KSF.fr{V V':World}(h:KSF B b t c o G V)(hf:Fr (fun k=>k=b) V V')(hk:KF V' b t.f c o G):KSF B b t c o G V':=
 ⟨h.tb.ckN h.ft (hf.ckeep (fun k e z=>by have:=h.lt;omega)),h.ft,h.lt,hk⟩
theorem KSF.below{V V':World}(h:KSF B b t c o G V)(hb:Below V.heap.size V V'):KSF B b t c o G V':=
 ⟨h.tb.kept hb,h.ft,h.lt,h.kw.same (hb.block _ h.kw.lt)⟩
structure FI(w:World)(B b:Nat)(t:Tr)(c o:Bool)(G:Int->BitVec 256 × Bool)(f:Fl)(S:BitVec 256)(V:World):Prop where
 ks:KSF B b t c o G V
 fr:Fr (fun k=>k=b) w V
 bw:b < w.heap.size
 nb:BoxN V w.heap.size f
 rz:V.heap[w.heap.size+1]?=some (.cells #[.int .u64 0,.int .u64 0,.int .u64 0,.int .u64 0] 36 (0,0))
 s:V.heap[w.heap.size+1+1]?=some (.cells #[.int .u64 (aC S 0),.int .u64 (aC S 1),.int .u64 (aC S 2),.int .u64 (aC S 3)] 36 (0,0))
variable {w V V':World} {S:BitVec 256}
theorem FI.call(h:FI w B b t c o G f S V)(hf:Fr (fun k=>k=b) V V')(hk:KF V' b t.f c o G):FI w B b t c o G f S V':=
 ⟨h.ks.fr hf hk,zK h.fr hf (fun _ e=>.inl e),h.bw,cO hf h.nb (by have:=h.bw;omega),cO hf h.rz (by have:=h.bw;omega),cO hf h.s (by have:=h.bw;omega)⟩
theorem FI.below(h:FI w B b t c o G f S V)(hb:Below V.heap.size V V'):FI w B b t c o G f S V':=
 ⟨h.ks.below hb,zK h.fr (Fr.of_below (S:=fun _=>False) hb) (fun _ e=>e.elim),h.bw,(hb.block _ (aB h.nb)).trans h.nb,(hb.block _ (aB h.rz)).trans h.rz,(hb.block _ (aB h.s)).trans h.s⟩
end
end Go.Proofs.YtlaimbkenbijeaaGreatDoor
