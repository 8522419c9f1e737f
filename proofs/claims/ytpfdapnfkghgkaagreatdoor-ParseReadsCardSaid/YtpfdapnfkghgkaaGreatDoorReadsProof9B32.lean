/-
  Parts of the proof.
-/
import Derived.Test.YtpfdapnfkghgkaaGreatDoorReadsProof9B31
import Derived.Deep.CutBlock
import Derived.Deep.DeepCutAuto
import Derived.Deep.RegionHeld
set_option maxRecDepth 100000
set_option maxHeartbeats 8000000
namespace Go.Proofs.YtpfdapnfkghgkaaGreatDoor
open Go Go.RowKit
attribute [local go_sem] aR
theorem aH0{k n:Int}{rs:List (Int × Int)}(hk:k=3\/k=4):DIt (.lf k n rs):=by
 intro base b p g w tv D r h hl hr
 rw [pfl,List.singleton_append] at hl
 obtain⟨d,hd,hs,-,hp⟩:=bR hl
 obtain⟨rq,rc,hv,hr0,hI,hok,hlen⟩:=h.dt hd
 have lb:=h.lt
 have c0:=h.c0
 have c1:=h.c1
 obtain⟨q,c,htv,hq,hc⟩:=h.tl.tok hd
 rw [htv] at c0
 have k0:w.cell? ⟨q,p * 7,none⟩=some (.int .i64 (d.1.1.kind:Int)):=hc 0 _ rfl
 have k1:=hc 1 _ rfl
 have k2:=hc 2 _ rfl
 have k3:=hc 3 _ rfl
 have k4:=hc 4 _ rfl
 have k5:=hc 5 _ rfl
 have k6:w.cell? ⟨q,p * 7+6,none⟩=some (.slice rq d.2.2.length rc):=hv ▸ hc 6 _ rfl
 have fz:=fun z=>aP h.bd z
 have i1:(p:Int) < (D.length:Int):=by omega
 have hfw:=h.few
 have hw1:IntKind.wrap .i64 ((p:Int)+1)=(p:Int)+1:=wrap_small _ (by omega) (by omega)
 obtain⟨KK,hKK⟩:∃ K:Int,(d.1.1.kind:Int)=K:=⟨_,rfl⟩
 rw [hKK] at k0
 have ST:=aC (pX h hp (.cells #[.int .i64 KK,.int .i64 (d.1.2.1:Int),.int .i64 (d.1.2.2:Int),.int .i64 (d.1.1.n:Int),.int .i64 d.1.1.mn,.int .i64 d.1.1.mx,.slice rq d.2.2.length rc] 104))
 obtain⟨X,hX⟩:∃ X,kI base w b tv D p g (.lf k n rs)=X:=⟨_,rfl⟩
 have HX:=aC hX
 rw [hX]
 clear hX h hl hr hv hd hr0 hlen hI
 rcases aJ9 hok.1 hok.2.1 hs with⟨z,z1,z2,z3⟩ | ⟨z,z1,z2,z3⟩ | ⟨z,z1,z2,z3⟩ | ⟨z,z1,z2,z3⟩
 ·have a7:(KK==7)=true:=by rw [<- hKK,z];rfl
  subst z1 z2 z3
  clear z hs hok hk hKK
  go_enter Tryz.func104,Tryz.ntmps104
  go_wp2
  go_region
  go_upto_region 4 with fail
  generalize ((((w.setCell ⟨b,1,none⟩ (.int .i64 ((p:Int)+1))).alloc (.cells #[.int .i64 0,.int .i64 0,.int .i64 0,.int .i64 0,.slice none 0 0,.slice none 0 0] 28)).alloc (.cells #[.int .i64 KK,.int .i64 (d.1.2.1:Int),.int .i64 (d.1.2.2:Int),.int .i64 (d.1.1.n:Int),.int .i64 d.1.1.mn,.int .i64 d.1.1.mx,.slice rq d.2.2.length rc] 104)).alloc (.cells #[.int .i64 0,.int .i64 0,.int .i64 0,.int .i64 0,.slice none 0 0,.slice none 0 0] 28)).drew=W4 at ST ⊢
  clear c0 c1 k0 k1 k2 k3 k4 k5 k6 fz hc
  have t0:=aB ST.out.2 (i:=0) rfl
  have t3:=aB ST.out.2 (i:=3) rfl
  have t6:=aB ST.out.2 (i:=6) rfl
  have tl:=aA ST.out.2
  obtain⟨n0,n1,n2,n3,n4,n5⟩:=ST.out.1.box.six
  simp only [Nat.zero_add] at n1 n2 n3 n4 n5
  have nl:=aA ST.out.1.box
  have nf:=fun z=>aP ST.out.1.box z
  obtain⟨z0,z1,z2,z3,z4,z5⟩:=ST.out.1.z.six
  simp only [Nat.zero_add] at z1 z2 z3 z4 z5
  have zl:=aA ST.out.1.z
  have zf:=fun z=>aP ST.out.1.z z
  have E5:=aC (tK ST.out.1.z (oX 3 0) ST.out.1.db ST.out.1.fr)
  unfold bH at E5
  clear ST
  go_wp2
  refine nF E5.out.1 rfl rfl ?_
  rw [<- HX.out]
  exact⟨_,rfl,E5.out.2.1,E5.out.2.2.1,E5.out.2.2.2⟩
 ·have a7:(KK==7)=false:=by rw [<- hKK,z];rfl
  have a8:(KK==8)=true:=by rw [<- hKK,z];rfl
  subst z1 z2 z3
  clear z hs hok hk hKK
  go_enter Tryz.func104,Tryz.ntmps104
  go_wp2
  go_region
  go_upto_region 4 with fail
  generalize ((((w.setCell ⟨b,1,none⟩ (.int .i64 ((p:Int)+1))).alloc (.cells #[.int .i64 0,.int .i64 0,.int .i64 0,.int .i64 0,.slice none 0 0,.slice none 0 0] 28)).alloc (.cells #[.int .i64 KK,.int .i64 (d.1.2.1:Int),.int .i64 (d.1.2.2:Int),.int .i64 (d.1.1.n:Int),.int .i64 d.1.1.mn,.int .i64 d.1.1.mx,.slice rq d.2.2.length rc] 104)).alloc (.cells #[.int .i64 0,.int .i64 0,.int .i64 0,.int .i64 0,.slice none 0 0,.slice none 0 0] 28)).drew=W4 at ST ⊢
  clear c0 c1 k0 k1 k2 k3 k4 k5 k6 fz hc
  have t0:=aB ST.out.2 (i:=0) rfl
  have t3:=aB ST.out.2 (i:=3) rfl
  have t6:=aB ST.out.2 (i:=6) rfl
  have tl:=aA ST.out.2
  obtain⟨n0,n1,n2,n3,n4,n5⟩:=ST.out.1.box.six
  simp only [Nat.zero_add] at n1 n2 n3 n4 n5
  have nl:=aA ST.out.1.box
  have nf:=fun z=>aP ST.out.1.box z
  obtain⟨z0,z1,z2,z3,z4,z5⟩:=ST.out.1.z.six
  simp only [Nat.zero_add] at z1 z2 z3 z4 z5
  have zl:=aA ST.out.1.z
  have zf:=fun z=>aP ST.out.1.z z
  have E5:=aC (tK ST.out.1.z (oX 4 0) ST.out.1.db ST.out.1.fr)
  unfold bH at E5
  clear ST
  go_wp2
  refine nF E5.out.1 rfl rfl ?_
  rw [<- HX.out]
  exact⟨_,rfl,E5.out.2.1,E5.out.2.2.1,E5.out.2.2.2⟩
 ·exfalso;omega
 ·exfalso;omega
set_option linter.unusedSimpArgs false in
theorem wK{l:List (Int × Int)}{y:Ps}(hy:(∃ k n rs,y=.lf k n rs/\(k=2\/k=8))\/∃ n u,y=.grp n u/\bB1 u):DIt (dG y l):=by
 intro base b p g w tv D r h hl hr
 rw [iJ,List.append_assoc] at hl
 obtain⟨s0,s1,hs0⟩:∃ s t,pfl y=s :: t:=by
  rcases hy with⟨k,n,rs,rfl,-⟩ | ⟨n,u,rfl,-⟩
  ·exact⟨_,[],by rw [pfl]⟩
  ·exact⟨_,_,by rw [pfl]⟩
 have hl4:=(dX hl).1
 have hl0:=hl
 rw [hs0,List.cons_append] at hl
 obtain⟨d,hd,hs,-,hp⟩:=bR hl
 obtain⟨rq,rc,hv,hr0,hI,hok,hlen⟩:=h.dt hd
 have HPG:Hid (∀ (l1:List (Int × Int)) (P1:Nat),p+(pfl y).length+l1.length=P1->p+(pfl (dG y l1)).length=P1/\g+nop (pfl (dG y l1))=g+nop (pfl y)):=fun l1 P1 e=>(by
  rw [iJ,List.length_append,dH,oU,show (rps l1).length=l1.length by simp [rps]]
  exact⟨by omega,rfl⟩)
 have HY:=aC (show ((∃ k n rs,y=.lf k n rs/\(k=2\/k=8))\/∃ n u,y=.grp n u/\bB1 u)/\left D p g=pfl y ++ (rps l ++ r)/\s0=sgT g d.1.1/\pfl y=s0 :: s1 from ⟨hy,hl0,hs,hs0⟩)
 generalize hPZ:p+(pfl y).length=PZ at *
 generalize hGZ:g+nop (pfl y)=GZ at *
 have HPZ:=aC hPZ
 have HGZ:=aC hGZ
 have HL:=aC hl4
 have HR:=aC hr
 have hgp:=h.gp
 have lb:=h.lt
 have c0:=h.c0
 have c1:=h.c1
 obtain⟨q,c,htv,hq,hc⟩:=h.tl.tok hd
 rw [htv] at c0
 have k0:w.cell? ⟨q,p * 7,none⟩=some (.int .i64 (d.1.1.kind:Int)):=hc 0 _ rfl
 have k1:=hc 1 _ rfl
 have k2:=hc 2 _ rfl
 have k3:=hc 3 _ rfl
 have k4:=hc 4 _ rfl
 have k5:=hc 5 _ rfl
 have k6:w.cell? ⟨q,p * 7+6,none⟩=some (.slice rq d.2.2.length rc):=hv ▸ hc 6 _ rfl
 have fz:=fun z=>aP h.bd z
 have i1:(p:Int) < (D.length:Int):=by omega
 have hfw:=h.few
 have hw1:IntKind.wrap .i64 ((p:Int)+1)=(p:Int)+1:=wrap_small _ (by omega) (by omega)
 obtain⟨KK,hKK⟩:∃ K:Int,(d.1.1.kind:Int)=K:=⟨_,rfl⟩
 rw [hKK] at k0
 have ST:=aC (pX h hp (.cells #[.int .i64 KK,.int .i64 (d.1.2.1:Int),.int .i64 (d.1.2.2:Int),.int .i64 (d.1.1.n:Int),.int .i64 d.1.1.mn,.int .i64 d.1.1.mx,.slice rq d.2.2.length rc] 104))
 obtain⟨X,hX⟩:∃ X,kI base w b tv D p g (dG y l)=X:=⟨_,rfl⟩
 have HX:=aC hX
 rw [hX]
 have HV:=aC hv
 have HD:=aC hd
 have HOK:=aC hok
 have HKK:=aC hKK
 clear hX h hl hl0 hl4 hr hv hd hr0 hlen hI hs hs0 hok hy hKK hPZ hGZ
 go_enter Tryz.func104,Tryz.ntmps104
 go_wp2
 go_region
 go_upto_region 4 with fail
 generalize ((((w.setCell ⟨b,1,none⟩ (.int .i64 ((p:Int)+1))).alloc (.cells #[.int .i64 0,.int .i64 0,.int .i64 0,.int .i64 0,.slice none 0 0,.slice none 0 0] 28)).alloc (.cells #[.int .i64 KK,.int .i64 (d.1.2.1:Int),.int .i64 (d.1.2.2:Int),.int .i64 (d.1.1.n:Int),.int .i64 d.1.1.mn,.int .i64 d.1.1.mx,.slice rq d.2.2.length rc] 104)).alloc (.cells #[.int .i64 0,.int .i64 0,.int .i64 0,.int .i64 0,.slice none 0 0,.slice none 0 0] 28)).drew=W4 at ST ⊢
 clear c0 c1 k0 k1 k2 k3 k4 k5 k6 fz hc
 have t0:=aB ST.out.2 (i:=0) rfl
 have t3:=aB ST.out.2 (i:=3) rfl
 have t6:=aB ST.out.2 (i:=6) rfl
 have tl:=aA ST.out.2
 obtain⟨n0,n1,n2,n3,n4,n5⟩:=ST.out.1.box.six
 simp only [Nat.zero_add] at n1 n2 n3 n4 n5
 have nl:=aA ST.out.1.box
 have nf:=fun z=>aP ST.out.1.box z
 obtain⟨z0,z1,z2,z3,z4,z5⟩:=ST.out.1.z.six
 simp only [Nat.zero_add] at z1 z2 z3 z4 z5
 have zl:=aA ST.out.1.z
 have zf:=fun z=>aP ST.out.1.z z
 go_upto_block 0 with fail
 go_cut [67] from 5 to 64 (fun _ wx=>∃ t,IL base b tv D w y t PZ GZ wx)
 case first=>
  have hs:=HY.out.2.2.1
  have hs0:=HY.out.2.2.2
  have hok:=HOK.out
  have hPZ:=HPZ.out
  have hGZ:=HGZ.out
  rcases HY.out.1 with⟨k,n,rs,hy,hk⟩ | ⟨n,u,hy,hu⟩
  ·rw [hy,pfl] at hs0 hPZ hGZ
   injection hs0 with hs0
   rw [<- hs0] at hs
   have hpz:PZ=p+1:=hPZ.symm
   have hgz:GZ=g:=hGZ.symm
   subst hpz hgz
   clear hPZ hGZ hs0
   rcases aJ9 hok.1 hok.2.1 hs with⟨z,z1,z2,z3⟩ | ⟨z,z1,z2,z3⟩ | ⟨z,z1,z2,z3⟩ | ⟨z,z1,z2,z3⟩
   ·exfalso;omega
   ·exfalso;omega
   ·have a7:(KK==7)=false:=by rw [<- HKK.out,z];rfl
    have a8:(KK==8)=false:=by rw [<- HKK.out,z];rfl
    have a1:(KK==1)=false:=by rw [<- HKK.out,z];rfl
    have a6:(KK==6)=true:=by rw [<- HKK.out,z];rfl
    subst z1 z2 z3
    have I5:=aC (ST.out.1.put (y:=(.lf 8 (d.1.1.n:Int) [])) (.mk ⟨8,(d.1.1.n:Int),0,0,[],none,0,none,0,0⟩ []) (fun hdb=>oX 8 _))
    unfold bH at I5
    have HYE:=aC hy
    clear z hs hok hk hy
    go_wp2_with fail
    go_meet
    rw [HYE.out]
    exact⟨_,I5.out⟩
   ·have a7:(KK==7)=false:=by rw [<- HKK.out,z];rfl
    have a8:(KK==8)=false:=by rw [<- HKK.out,z];rfl
    have a1:(KK==1)=true:=by rw [<- HKK.out,z];rfl
    subst z1 z2 z3
    have I5:=aC (ST.out.1.put (y:=(.lf 2 0 (rsQ d.1.1.q))) (.mk ⟨2,0,0,0,d.2.2,rq,rc,none,0,0⟩ []) (fun hdb=>hdb.set_pt HD.out HV.out))
    unfold bH at I5
    have HYE:=aC hy
    clear z hs hok hk hy
    go_wp2_with fail
    go_meet
    rw [HYE.out]
    exact⟨_,I5.out⟩
  ·rw [hy,pfl] at hs0 hPZ hGZ
   injection hs0 with hs0
   rw [<- hs0] at hs
   obtain⟨hkd,hn⟩:=bB7 hok.1 hok.2.1 hs
   obtain⟨G1,hG1⟩:∃ G1,G1=g+1:=⟨_,rfl⟩
   have hl2:=HY.out.2.1
   rw [hy,pfl,List.cons_append,List.append_assoc,List.singleton_append] at hl2
   obtain⟨-,-,-,hl3,-⟩:=bR hl2
   rw [show nop [Sgn.op n]=1 from rfl,<- hG1] at hl3
   obtain⟨hl4,-⟩:=dX hl3
   obtain⟨-,-,-,-,hp3⟩:=bR hl4
   have HPC:Hid (∀ W,DB base W b tv D (p+1) G1->Calls Tryz.prog 41 #[.pointer (some ⟨b,0,none⟩)] W (kI base W b tv D (p+1) G1 u)):=fun W hW=>hu base b (p+1) G1 W tv D _ hW hl3 (.inr ⟨_,rfl⟩)
   have HP3:=aC hp3
   have HP0:Hid (PZ=p+1+(pfl u).length+1/\GZ=G1+nop (pfl u)):=⟨by rw [<- hPZ];simp;omega,by rw [<- hGZ,hG1];show g+(nop (pfl u ++ [.cl])+1)=_;rw [dH];show g+(nop (pfl u)+0+1)=_;omega⟩
   have a7:(KK==7)=false:=by rw [<- HKK.out,hkd];rfl
   have a8:(KK==8)=false:=by rw [<- HKK.out,hkd];rfl
   have a1:(KK==1)=false:=by rw [<- HKK.out,hkd];rfl
   have a6:(KK==6)=false:=by rw [<- HKK.out,hkd];rfl
   have hwg:IntKind.wrap .i64 ((g:Int)+1)=(g:Int)+1:=wrap_small _ (by omega) (by omega)
   rw [<- hG1] at hn
   subst hn
   have HYE:=aC hy
   clear hs hok hkd hs0 hy hu hl2 hl3 hl4 hp3 hPZ hGZ
   have c2:=ST.out.1.db.c2
   have lb4:=ST.out.1.db.lt
   have fz:=fun z=>aP ST.out.1.db.bd z
   have I4:=aC (ST.out.1.deep (by omega))
   rw [<- hG1] at I4
   clear hG1
   go_upto_region 6 with fail
   generalize W4.setCell ⟨b,2,none⟩ (.int .i64 ((g:Int)+1))=W5 at I4 ⊢
   clear t0 t3 t6 tl n0 n1 n2 n3 n4 n5 nl nf z0 z1 z2 z3 z4 z5 zl zf c2 fz lb4 lb ST
   have c2:=I4.out.db.c2
   have lb:=I4.out.db.lt
   obtain⟨n0,n1,n2,n3,n4,n5⟩:=I4.out.box.six
   simp only [Nat.zero_add] at n1 n2 n3 n4 n5
   have nl:=aA I4.out.box
   have nf:=fun z=>aP I4.out.box z
   have I6:Hid (IL base b tv D w (.lf 7 (n:Int) []) (.mk ⟨7,(n:Int),0,0,[],none,0,none,0,0⟩ []) (p+1) n ((((((W5.setCell ⟨w.heap.size+1+1,0,none⟩ (.int .i64 7)).setCell ⟨w.heap.size+1+1,1,none⟩ (.int .i64 (n:Int))).setCell ⟨w.heap.size+1+1,2,none⟩ (.int .i64 0)).setCell ⟨w.heap.size+1+1,3,none⟩ (.int .i64 0)).setCell ⟨w.heap.size+1+1,4,none⟩ (.slice none 0 0)).setCell ⟨w.heap.size+1+1,5,none⟩ (.slice none 0 0))):=I4.out.put (y:=.lf 7 (n:Int) []) (.mk ⟨7,(n:Int),0,0,[],none,0,none,0,0⟩ []) (fun _=>oX 7 _)
   clear I4
   go_upto_region 7 with fail
   generalize (((((W5.setCell ⟨w.heap.size+1+1,0,none⟩ (.int .i64 7)).setCell ⟨w.heap.size+1+1,1,none⟩ (.int .i64 (n:Int))).setCell ⟨w.heap.size+1+1,2,none⟩ (.int .i64 0)).setCell ⟨w.heap.size+1+1,3,none⟩ (.int .i64 0)).setCell ⟨w.heap.size+1+1,4,none⟩ (.slice none 0 0)).setCell ⟨w.heap.size+1+1,5,none⟩ (.slice none 0 0)=W6 at I6 ⊢
   clear n0 n1 n2 n3 n4 n5 nl nf c2 lb
   have PC:=aC (HPC.out W6 I6.out.db)
   go_upto_region 8 with (go_at_call 41;(with_reducible refine(PC.out).mono ?_);rintro e w8 ⟨t8,rfl,h1,h2,h3⟩;have I8:=aC (I6.out.call h3 h2);have T8:=aC (h1.mono (M:=fun k=>w.heap.size+3<=k) (fun k hk=>by have:=aA I6.out.box;show w.heap.size+3<=k;have:W6.heap.size<=k:=hk;omega));clear h1 h2 h3)
   have B9:Below w8.heap.size w8 (w8.alloc (.cells #[.int .i64 t8.f.k,.int .i64 t8.f.n,.int .i64 t8.f.mn,.int .i64 t8.f.mx,.slice t8.f.rq t8.f.rs.length t8.f.rc,.slice t8.f.kq t8.f.kl t8.f.kc] 28)):=bz9
   have I9:=aC (I8.out.kept B9)
   have T9:=aC (T8.out.kept B9)
   have N9:Hid (BoxN (w8.alloc (.cells #[.int .i64 t8.f.k,.int .i64 t8.f.n,.int .i64 t8.f.mn,.int .i64 t8.f.mx,.slice t8.f.rq t8.f.rs.length t8.f.rc,.slice t8.f.kq t8.f.kl t8.f.kc] 28)) w8.heap.size t8.f):=aG w8 _
   generalize w8.alloc (.cells #[.int .i64 t8.f.k,.int .i64 t8.f.n,.int .i64 t8.f.mn,.int .i64 t8.f.mx,.slice t8.f.rq t8.f.rs.length t8.f.rc,.slice t8.f.kq t8.f.kl t8.f.kc] 28)=W9 at I9 T9 N9 ⊢
   clear I8 T8 B9
   have IX:Hid (IL base b tv D w (.grp n u) (.mk ⟨7,(n:Int),0,0,[],none,0,some ⟨W9.heap.size,0,none⟩,1,1⟩ [t8]) (p+1+(pfl u).length) (n+nop (pfl u)) ((W9.setCell ⟨w.heap.size+1+1,5,none⟩ (.slice (some ⟨W9.heap.size,0,none⟩) 1 1)).alloc (.cells #[.int .i64 t8.f.k,.int .i64 t8.f.n,.int .i64 t8.f.mn,.int .i64 t8.f.mx,.slice t8.f.rq t8.f.rs.length t8.f.rc,.slice t8.f.kq t8.f.kl t8.f.kc] 28))):=I9.out.grp T9.out
   obtain⟨s0,s1,s2,s3,s4,s5⟩:=N9.out.six
   simp only [Nat.zero_add] at s1 s2 s3 s4 s5
   have sl:=aA N9.out
   obtain⟨n0,n1,n2,n3,n4,n5⟩:=I9.out.box.six
   simp only [Nat.zero_add] at n1 n2 n3 n4 n5
   have nl:=aA I9.out.box
   have nf:=fun z=>aP I9.out.box z
   clear I9 T9 N9
   go_upto_region 9 with fail
   generalize (W9.setCell ⟨w.heap.size+1+1,5,none⟩ (.slice (some ⟨W9.heap.size,0,none⟩) 1 1)).alloc (.cells #[.int .i64 t8.f.k,.int .i64 t8.f.n,.int .i64 t8.f.mn,.int .i64 t8.f.mx,.slice t8.f.rq t8.f.rs.length t8.f.rc,.slice t8.f.kq t8.f.kl t8.f.kc] 28)=W10 at IX ⊢
   clear s0 s1 s2 s3 s4 s5 sl n0 n1 n2 n3 n4 n5 nl nf
   have I5:=aC (IX.out.step HP3.out)
   have hfz:=HP3.out
   have HYY:=aC HP0.out
   generalize p+1+(pfl u).length=PY at IX I5 HYY hfz
   generalize n+nop (pfl u)=GY at IX I5 HYY
   have lb:=IX.out.db.lt
   have c1:=IX.out.db.c1
   have fz:=fun z=>aP IX.out.db.bd z
   have hwz:IntKind.wrap .i64 ((PY:Int)+1)=(PY:Int)+1:=wrap_small _ (by omega) (by omega)
   clear IX
   go_wp2_with fail
   go_meet
   rw [HYE.out,HYY.out.1,HYY.out.2]
   exact⟨_,I5.out⟩
 case rest=>
  obtain⟨t5,hI5⟩:=hcut
  have I5:=aC hI5
  clear hI5 ST HY HV HD HOK HKK t0 t3 t6 tl n0 n1 n2 n3 n4 n5 nl nf z0 z1 z2 z3 z4 z5 zl zf
  go_wp2_with fail
  go_loopw [67] (fun _ wr=>∃ l1 l2 t,l=l1 ++ l2/\IL base b tv D w (dG y l1) t (PZ+l1.length) GZ wr) (fun _ wr=>D.length+1 - atP wr b)
  case atStart=>exact⟨[],l,_,rfl,I5.out⟩
  case round=>
   obtain⟨l1,l2,t,e,hI⟩:=hrel
   have hle:left D (PZ+l1.length) GZ=rps l2 ++ r:=by
    have h1:=HL.out
    rw [e,show rps (l1 ++ l2)=rps l1 ++ rps l2 by simp [rps],List.append_assoc] at h1
    have h2:=(dX h1).1
    rw [oU,show (rps l1).length=l1.length by simp [rps]] at h2
    exact h2
   generalize hP1:PZ+l1.length=P1 at *
   have KD:=aC (oS hI.db)
   have HE:=aC e
   have HI:=aC hI
   cases l2 with
   | nil=>
    have hk2:((cZ D P1:Int)==2)=false:=by
     have:=aW9 hI.db hle HR.out
     simp;omega
    have DN:=aC (fun W (hW:Below wr.heap.size wr W)=>(hI.kept hW).done)
    clear hle hI e
    go_wp2_with (go_at_call 73;(with_reducible refine(KD.out).mono ?_);rintro e w7 ⟨rfl,h1⟩;have B7:=aC h1;have I7:=HI.out.kept h1;obtain⟨n0,n1,n2,n3,n4,n5⟩:=I7.box.six;simp only [Nat.zero_add] at n1 n2 n3 n4 n5;have nl:=aA I7.box;obtain⟨z0,z1,z2,z3,z4,z5⟩:=I7.z.six;simp only [Nat.zero_add] at z1 z2 z3 z4 z5;have zl:=aA I7.z;have zf:=fun z=>aP I7.z z;clear h1 I7)
    have dn:=DN.out _ B7.out
    have e2:=HE.out
    rw [List.append_nil] at e2
    unfold bH at dn
    refine nF dn.1 rfl rfl ?_
    rw [<- HX.out,e2]
    refine⟨t,rfl,dn.2.1,?_,dn.2.2.2⟩
    have e3:p+(pfl (dG y l1)).length=P1/\g+nop (pfl (dG y l1))=GZ:=HPG.out l1 P1 hP1
    rw [e3.1,e3.2]
    exact dn.2.2.1
   | cons z l2=>
    obtain⟨d2,hd2,hs2,-,hp2⟩:=bR (show left D P1 GZ=.rp z.1 z.2 :: (rps l2 ++ r) from hle)
    obtain⟨rq2,rc2,hv2,-,-,hok2,-⟩:=hI.db.dt hd2
    obtain⟨hk,e1,e2⟩:=bB6 hok2.1 hok2.2.1 hs2
    have hk2:((cZ D P1:Int)==2)=true:=by rw [hI.db.seeing hle];rfl
    obtain⟨q2,cc2,htv2,hq2,hc2⟩:=hI.db.tl.tok hd2
    have u4:wr.cell? ⟨q2,P1 * 7+4,none⟩=some (.int .i64 z.1):=e1 ▸ hc2 4 _ rfl
    have u5:wr.cell? ⟨q2,P1 * 7+5,none⟩=some (.int .i64 z.2):=e2 ▸ hc2 5 _ rfl
    have own2:=hI.db.tl.own
    rw [htv2] at own2
    obtain⟨-,-,cur2,hcur2⟩:=aH own2 (g:=q2) rfl
    have nq1:w.heap.size+1+1≠q2:=dS hI.box hcur2 (by decide)
    have nb1:w.heap.size+1+1≠b:=dS hI.box hI.db.bd (by decide)
    clear own2 hcur2
    have hat:=aC hI.db.atP
    have i2:(P1:Int) < (D.length:Int):=by omega
    have hw2:IntKind.wrap .i64 ((P1:Int)+1)=(P1:Int)+1:=wrap_small _ (by omega) (by omega)
    have NX:=aC (fun W (hW:Below wr.heap.size wr W)=>(hI.kept hW).rep z.1 z.2)
    have HP2:=aC hp2
    clear hle hI e hd2 hs2 hv2 hok2 hk e1 e2 hc2 i1 hp2
    go_upto_region 19 with (go_at_call 73;(with_reducible refine(KD.out).mono ?_);rintro e w7 ⟨rfl,h1⟩;have B7:=aC h1;have I7:=HI.out.kept h1;obtain⟨n0,n1,n2,n3,n4,n5⟩:=I7.box.six;simp only [Nat.zero_add] at n1 n2 n3 n4 n5;have nl:=aA I7.box;have nf:=fun z=>aP I7.box z;have lb:=I7.db.lt;have c0:=I7.db.c0;rw [htv2] at c0;have c1:=I7.db.c1;have fz:=fun z=>aP I7.db.bd z;have u4:=(h1.cell (p:=⟨q2,P1 * 7+4,none⟩) hq2).trans u4;have u5:=(h1.cell (p:=⟨q2,P1 * 7+5,none⟩) hq2).trans u5;have hq2:=Nat.lt_of_lt_of_le hq2 h1.size;have nb:=dS I7.box I7.db.bd (by decide);clear h1 I7)
    have NX0:=aC (NX.out _ B7.out)
    simp only [bH,Nat.reduceAdd,List.length_nil] at NX0
    rw [show w.heap.size+2=w.heap.size+1+1 from rfl] at NX0
    go_cut [93] from 65 to 99 (fun _ wx=>IL base b tv D w (.rep z.1 z.2 (dG y l1)) (.mk ⟨9,0,z.1,z.2,[],none,0,some ⟨w7.heap.size,0,none⟩,1,1⟩ [t]) P1 GZ wx)
    case first=>
     clear HPG HPZ HGZ HL HR hgp htv hq hw1 HX HE HI hat NX HP2 hk2 B7 I5 KD
     refine wp_region_held_drew (S:=(fun W:World=>W.cell? ⟨b,0,none⟩=some (.slice (some ⟨q2,0,none⟩) D.length cc2)/\W.cell? ⟨b,1,none⟩=some (.int .i64 (P1:Int))/\W.cell? ⟨q2,P1 * 7+4,none⟩=some (.int .i64 z.1)/\W.cell? ⟨q2,P1 * 7+5,none⟩=some (.int .i64 z.2))) (by kernel_rfl) (by(try dsimp only);go_keep) (fun hHeld=>?_)
     refine wpAnyH_take (i:=0) (oi:=_) (v:=?_) rfl (by kernel_rfl) (by kernel_rfl) (by kernel_rfl) (fun _ _ _ h=>h) (Or.inl ⟨by rfl,?_⟩) (by assumption) ?_
     rotate_left
     ·intro wz hSw;(try dsimp only at hSw);go_simp;try with_reducible rfl
     simp only [Act.put,List.setIfInBounds_toArray,List.set_cons_zero,List.set_cons_succ]
     refine wpAnyH_take (i:=1) (oi:=_) (v:=?_) rfl (by kernel_rfl) (by kernel_rfl) (by kernel_rfl) (fun _ _ _ h=>h) (Or.inl ⟨by rfl,?_⟩) (by assumption) ?_
     rotate_left
     ·intro wz hSw;(try dsimp only at hSw);go_simp;try with_reducible rfl
     simp only [Act.put,List.setIfInBounds_toArray,List.set_cons_zero,List.set_cons_succ]
     refine wpAnyH_take (i:=2) (oi:=_) (v:=?_) rfl (by kernel_rfl) (by kernel_rfl) (by kernel_rfl) (fun _ _ _ h=>h) (Or.inl ⟨by rfl,?_⟩) (by assumption) ?_
     rotate_left
     ·intro wz hSw;(try dsimp only at hSw);go_simp;try with_reducible rfl
     simp only [Act.put,List.setIfInBounds_toArray,List.set_cons_zero,List.set_cons_succ]
     refine wpAnyH_take (i:=3) (oi:=_) (v:=?_) rfl (by kernel_rfl) (by kernel_rfl) (by kernel_rfl) (fun _ _ _ h=>h) (Or.inl ⟨by rfl,?_⟩) (by assumption) ?_
     rotate_left
     ·intro wz hSw;(try dsimp only at hSw);go_simp;try with_reducible rfl
     simp only [Act.put,List.setIfInBounds_toArray,List.set_cons_zero,List.set_cons_succ]
     refine wpAnyH_take (i:=4) (oi:=_) (v:=?_) rfl (by kernel_rfl) (by kernel_rfl) (by kernel_rfl) (fun _ _ _ h=>h) (Or.inl ⟨by rfl,?_⟩) (by assumption) ?_
     rotate_left
     ·intro wz hSw;(try dsimp only at hSw);go_simp;try with_reducible rfl
     simp only [Act.put,List.setIfInBounds_toArray,List.set_cons_zero,List.set_cons_succ]
     refine wpAnyH_take (i:=5) (oi:=_) (v:=?_) rfl (by kernel_rfl) (by kernel_rfl) (by kernel_rfl) (fun _ _ _ h=>h) (Or.inl ⟨by rfl,?_⟩) (by assumption) ?_
     rotate_left
     ·intro wz hSw;(try dsimp only at hSw);go_simp;try with_reducible rfl
     simp only [Act.put,List.setIfInBounds_toArray,List.set_cons_zero,List.set_cons_succ]
     refine wpAnyH_take (i:=6) (oi:=_) (v:=?_) rfl (by kernel_rfl) (by kernel_rfl) (by kernel_rfl) (fun _ _ _ h=>h) (Or.inl ⟨by rfl,?_⟩) (by assumption) ?_
     rotate_left
     ·intro wz hSw;(try dsimp only at hSw);go_simp;try with_reducible rfl
     simp only [Act.put,List.setIfInBounds_toArray,List.set_cons_zero,List.set_cons_succ]
     refine wpAnyH_take (i:=7) (oi:=_) (v:=?_) rfl (by kernel_rfl) (by kernel_rfl) (by kernel_rfl) (fun _ _ _ h=>h) (Or.inl ⟨by rfl,?_⟩) (by assumption) ?_
     rotate_left
     ·intro wz hSw;(try dsimp only at hSw);go_simp;try with_reducible rfl
     simp only [Act.put,List.setIfInBounds_toArray,List.set_cons_zero,List.set_cons_succ]
     refine wpAnyH_take (i:=8) (oi:=_) (v:=?_) rfl (by kernel_rfl) (by kernel_rfl) (by kernel_rfl) (fun _ _ _ h=>h) (Or.inl ⟨by rfl,?_⟩) (by assumption) ?_
     rotate_left
     ·intro wz hSw;(try dsimp only at hSw);go_simp;try with_reducible rfl
     simp only [Act.put,List.setIfInBounds_toArray,List.set_cons_zero,List.set_cons_succ]
     refine wpAnyH_take (i:=9) (oi:=_) (v:=?_) rfl (by kernel_rfl) (by kernel_rfl) (by kernel_rfl) (fun _ _ _ h=>h) (Or.inl ⟨by rfl,?_⟩) (by assumption) ?_
     rotate_left
     ·intro wz hSw;(try dsimp only at hSw);go_simp;try with_reducible rfl
     simp only [Act.put,List.setIfInBounds_toArray,List.set_cons_zero,List.set_cons_succ]
     refine wpAnyH_take (i:=10) (oi:=_) (v:=?_) rfl (by kernel_rfl) (by kernel_rfl) (by kernel_rfl) (fun _ _ _ h=>h) (Or.inl ⟨by rfl,?_⟩) (by assumption) ?_
     rotate_left
     ·intro wz hSw;(try dsimp only at hSw);go_simp;try with_reducible rfl
     simp only [Act.put,List.setIfInBounds_toArray,List.set_cons_zero,List.set_cons_succ]
     refine wpAnyH_take (i:=11) (oi:=_) (v:=?_) rfl (by kernel_rfl) (by kernel_rfl) (by kernel_rfl) (fun _ _ _ h=>h) (Or.inl ⟨by rfl,?_⟩) (by assumption) ?_
     rotate_left
     ·intro wz hSw;(try dsimp only at hSw);go_simp;try with_reducible rfl
     simp only [Act.put,List.setIfInBounds_toArray,List.set_cons_zero,List.set_cons_succ]
     refine wpAnyH_take (i:=12) (oi:=_) (v:=?_) rfl (by kernel_rfl) (by kernel_rfl) (by kernel_rfl) (fun _ _ _ h=>h) (Or.inl ⟨by rfl,?_⟩) (by assumption) ?_
     rotate_left
     ·intro wz hSw;(try dsimp only at hSw);go_simp;try with_reducible rfl
     simp only [Act.put,List.setIfInBounds_toArray,List.set_cons_zero,List.set_cons_succ]
     refine wpAnyH_take (i:=13) (oi:=_) (v:=?_) rfl (by kernel_rfl) (by kernel_rfl) (by kernel_rfl) (fun _ _ _ h=>h) (Or.inl ⟨by rfl,?_⟩) (by assumption) ?_
     rotate_left
     ·intro wz hSw;(try dsimp only at hSw);go_simp;try with_reducible rfl
     simp only [Act.put,List.setIfInBounds_toArray,List.set_cons_zero,List.set_cons_succ]
     refine wpAnyH_take (i:=14) (oi:=_) (v:=?_) rfl (by kernel_rfl) (by kernel_rfl) (by kernel_rfl) (fun _ _ _ h=>h) (Or.inl ⟨by rfl,?_⟩) (by assumption) ?_
     rotate_left
     ·intro wz hSw;(try dsimp only at hSw);go_simp;try with_reducible rfl
     simp only [Act.put,List.setIfInBounds_toArray,List.set_cons_zero,List.set_cons_succ]
     refine wpAnyH_take (i:=15) (oi:=_) (v:=?_) rfl (by kernel_rfl) (by kernel_rfl) (by kernel_rfl) (fun _ _ _ h=>h) (Or.inl ⟨by rfl,?_⟩) (by assumption) ?_
     rotate_left
     ·intro wz hSw;(try dsimp only at hSw);go_simp;try with_reducible rfl
     simp only [Act.put,List.setIfInBounds_toArray,List.set_cons_zero,List.set_cons_succ]
     refine wpAnyH_take (i:=16) (oi:=_) (v:=?_) rfl (by kernel_rfl) (by kernel_rfl) (by kernel_rfl) (fun _ _ _ h=>h) (Or.inl ⟨by rfl,?_⟩) (by assumption) ?_
     rotate_left
     ·intro wz hSw;(try dsimp only at hSw);go_simp;try with_reducible rfl
     simp only [Act.put,List.setIfInBounds_toArray,List.set_cons_zero,List.set_cons_succ]
     refine wpAnyH_take (i:=17) (oi:=_) (v:=?_) rfl (by kernel_rfl) (by kernel_rfl) (by kernel_rfl) (fun _ _ _ h=>h) (Or.inl ⟨by rfl,?_⟩) (by assumption) ?_
     rotate_left
     ·intro wz hSw;(try dsimp only at hSw);go_simp;try with_reducible rfl
     simp only [Act.put,List.setIfInBounds_toArray,List.set_cons_zero,List.set_cons_succ]
     refine wpAnyH_take (i:=18) (oi:=_) (v:=?_) rfl (by kernel_rfl) (by kernel_rfl) (by kernel_rfl) (fun _ _ _ h=>h) (Or.inl ⟨by rfl,?_⟩) (by assumption) ?_
     rotate_left
     ·intro wz hSw;(try dsimp only at hSw);go_simp;try with_reducible rfl
     simp only [Act.put,List.setIfInBounds_toArray,List.set_cons_zero,List.set_cons_succ]
     refine wpAnyH_take (i:=19) (oi:=_) (v:=?_) rfl (by kernel_rfl) (by kernel_rfl) (by kernel_rfl) (fun _ _ _ h=>h) (Or.inl ⟨by rfl,?_⟩) (by assumption) ?_
     rotate_left
     ·intro wz hSw;(try dsimp only at hSw);go_simp;try with_reducible rfl
     simp only [Act.put,List.setIfInBounds_toArray,List.set_cons_zero,List.set_cons_succ]
     refine wpAnyH_take (i:=20) (oi:=_) (v:=?_) rfl (by kernel_rfl) (by kernel_rfl) (by kernel_rfl) (fun _ _ _ h=>h) (Or.inl ⟨by rfl,?_⟩) (by assumption) ?_
     rotate_left
     ·intro wz hSw;(try dsimp only at hSw);go_simp;try with_reducible rfl
     simp only [Act.put,List.setIfInBounds_toArray,List.set_cons_zero,List.set_cons_succ]
     refine wpAnyH_take (i:=21) (oi:=_) (v:=?_) rfl (by kernel_rfl) (by kernel_rfl) (by kernel_rfl) (fun _ _ _ h=>h) (Or.inl ⟨by rfl,?_⟩) (by assumption) ?_
     rotate_left
     ·intro wz hSw;(try dsimp only at hSw);go_simp;try with_reducible rfl
     simp only [Act.put,List.setIfInBounds_toArray,List.set_cons_zero,List.set_cons_succ]
     refine wpAnyH_ready (rs:=[22]) (by kernel_rfl) (by simp) ?_
     refine AllReadyH.cons rfl (fun K hK=>?_) AllReadyH.nil
     go_simp
     refine hK.out _ _ (by(try dsimp only);go_keep) (fun hHeld2=>?_)
     clear hK K
     clear hHeld
     refine wpAnyH_ready (rs:=[23]) (by kernel_rfl) (by simp) ?_
     refine AllReadyH.cons rfl (fun K hK=>?_) AllReadyH.nil
     go_simp
     refine hK.out _ _ (by(try dsimp only);go_keep) (fun hHeld3=>?_)
     clear hK K
     clear hHeld2
     refine wpAnyH_take (i:=24) (oi:=_) (v:=?_) rfl (by kernel_rfl) (by kernel_rfl) (by kernel_rfl) (fun _ _ _ h=>h) (Or.inl ⟨by rfl,?_⟩) (by assumption) ?_
     rotate_left
     ·intro wz hSw;(try dsimp only at hSw);go_simp;try with_reducible rfl
     simp only [Act.put,List.setIfInBounds_toArray,List.set_cons_zero,List.set_cons_succ]
     refine wpAnyH_ready (rs:=[25]) (by kernel_rfl) (by simp) ?_
     refine AllReadyH.cons rfl (fun K hK=>?_) AllReadyH.nil
     go_simp
     refine hK.out _ _ (by(try dsimp only);go_keep) (fun hHeld4=>?_)
     clear hK K
     refine wpAnyH_done (by kernel_rfl) ?_ _
     go_wp2_with fail
     go_meet
     exact NX0.out
    case rest=>
     clear n0 n1 n2 n3 n4 n5 nl nf lb c0 c1 fz u4 u5 hq2 nb NX0 nq1 nb1
     have lb:=hcut.db.lt
     have c1:=hcut.db.c1
     have fz:=fun z=>aP hcut.db.bd z
     have NX2:=aC (hcut.step HP2.out)
     clear hcut
     go_wp2
     go_roundw
     case rel=>
      refine⟨l1 ++ [z],l2,.mk ⟨9,0,z.1,z.2,[],none,0,some ⟨w7.heap.size,0,none⟩,1,1⟩ [t],by rw [HE.out];simp,?_⟩
      rw [show l1 ++ [z]=l1 ++ [(z.1,z.2)] from rfl,kN,List.length_append,List.length_singleton,<- Nat.add_assoc,hP1]
      exact NX2.out
     case measure=>
      have m1:=NX2.out.db.atP
      have m2:=hat.out
      have m3:=HP2.out
      omega
end Go.Proofs.YtpfdapnfkghgkaaGreatDoor
