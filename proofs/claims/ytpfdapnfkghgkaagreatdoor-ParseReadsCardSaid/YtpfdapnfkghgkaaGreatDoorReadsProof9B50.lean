/-
  Parts of the proof.
-/
import Derived.Test.YtpfdapnfkghgkaaGreatDoorReadsProof9B49
import Derived.Test.YtpfdapnfkghgkaaGreatDoorReadsProof9B13
import Derived.Test.YtpfdapnfkghgkaaGreatDoorReadsProof9B33
import Derived.Test.YtpfdapnfkghgkaaGreatDoorReadsProof9B34
import Derived.Test.YtpfdapnfkghgkaaGreatDoorReadsProof9B35
import Derived.Test.YtpfdapnfkghgkaaGreatDoorReadsProof9B48
import Derived.Test.YtpfdapnfkghgkaaGreatDoorReadsProof9B15
import Derived.Test.YtpfdapnfkghgkaaGreatDoorReadsProof9B0
import Derived.Test.YtpfdapnfkghgkaaGreatDoorReadsProof9B36
import Derived.Test.YtpfdapnfkghgkaaGreatDoorReadsProof9B29
set_option maxRecDepth 100000
set_option maxHeartbeats 8000000
namespace Go.Proofs.YtpfdapnfkghgkaaGreatDoor
open Go Go.RowKit
def pW(most:Nat)(t:Tr):List Zl:=lQ most [] ([],t)
theorem mQ(most:Nat)(t:Tr):(pW most t).map (·.1)=(pp [] t).take most:=by
 unfold pW lQ
 rw [List.nil_append,List.length_nil,Nat.sub_zero,List.map_take,aI5]
theorem vT(most:Nat)(t:Tr):(pW most t).length=min most (pp [] t).length:=by
 have:=congrArg List.length (mQ most t)
 rwa [List.length_map,List.length_take] at this
theorem nN(t:Tr):(pW 2001 t).length=jE t:=by rw [vT,jE];omega
def bG6(w:World)(L:List Zl)(e:Ending)(w':World):Prop:=∃ q c,e=.returned (.slice q L.length c)/\ZR w.heap.size w' (.slice q L.length c) L/\Below w.heap.size w w'
theorem tG{w:World}{t:Tr}(most:Nat)(hm:most<=100000)(hta:TA w t):Calls Tryz.prog 45 #[.agg #[.int .i64 t.f.k,.int .i64 t.f.n,.int .i64 t.f.mn,.int .i64 t.f.mx,.slice t.f.rq t.f.rs.length t.f.rc,.slice t.f.kq t.f.kl t.f.kc],.int .i64 (most:Int)] w (bG6 w (pW most t)):=by
 have B1:Hid (Below w.heap.size w (w.alloc (.cells #[.int .i64 t.f.k,.int .i64 t.f.n,.int .i64 t.f.mn,.int .i64 t.f.mx,.slice t.f.rq t.f.rs.length t.f.rc,.slice t.f.kq t.f.kl t.f.kc] 28))):=bz9
 have N1:BoxN (w.alloc (.cells #[.int .i64 t.f.k,.int .i64 t.f.n,.int .i64 t.f.mn,.int .i64 t.f.mx,.slice t.f.rq t.f.rs.length t.f.rc,.slice t.f.kq t.f.kl t.f.kc] 28)) w.heap.size t.f:=aG w _
 obtain⟨c0,c1,c2,c3,c4,c5⟩:=N1.six
 simp only [Nat.zero_add] at c1 c2 c3 c4 c5
 have LY:Hid (Calls Tryz.prog 75 #[.slice none 0 0,.agg #[.int .i64 t.f.k,.int .i64 t.f.n,.int .i64 t.f.mn,.int .i64 t.f.mx,.slice t.f.rq t.f.rs.length t.f.rc,.slice t.f.kq t.f.kl t.f.kc,.int .i64 1,.int .i64 0,.bool true,.bool true,.bool true,.int .i64 0],.int .i64 (most:Int)] (w.alloc (.cells #[.int .i64 t.f.k,.int .i64 t.f.n,.int .i64 t.f.mn,.int .i64 t.f.mx,.slice t.f.rq t.f.rs.length t.f.rc,.slice t.f.kq t.f.kl t.f.kc] 28)) (wT w (w.alloc (.cells #[.int .i64 t.f.k,.int .i64 t.f.n,.int .i64 t.f.mn,.int .i64 t.f.mx,.slice t.f.rq t.f.rs.length t.f.rc,.slice t.f.kq t.f.kl t.f.kc] 28)) (.slice none 0 0) (pW most t))):=(by
  have h:=bH6 (w0:=w) hm t.sz t [] (w.alloc (.cells #[.int .i64 t.f.k,.int .i64 t.f.n,.int .i64 t.f.mn,.int .i64 t.f.mx,.slice t.f.rq t.f.rs.length t.f.rc,.slice t.f.kq t.f.kl t.f.kc] 28)) [] none 0 lz9 hta B1.out (World.ownsRow_nil _ _ _ _) lz9
  have e:(zc (([],t),0)).toArray=#[.int .i64 t.f.k,.int .i64 t.f.n,.int .i64 t.f.mn,.int .i64 t.f.mx,.slice t.f.rq t.f.rs.length t.f.rc,.slice t.f.kq t.f.kl t.f.kc,.int .i64 1,.int .i64 0,.bool true,.bool true,.bool true,.int .i64 0]:=(by simp [zc,Fl.cells,arP,fiP,laP,brP])
  rw [e] at h
  exact h)
 clear N1 hta
 go_enter Tryz.func45,Tryz.ntmps45
 go_wp2_with (go_at_call 75;(with_reducible refine(LY.out).mono ?_);rintro e w5 ⟨q5,k5,rfl,h51,h52,h53⟩;have X5:=aC h51;have F5:=aC h53;clear h51 h52 h53)
 go_ret
 exact⟨q5,k5,rfl,X5.out,bM B1.out F5.out lz9 (fun k e=>by cases e)⟩
theorem aV8{w:World}{t:Tr}(hta:TA w t):Calls Tryz.prog 42 #[.agg #[.int .i64 t.f.k,.int .i64 t.f.n,.int .i64 t.f.mn,.int .i64 t.f.mx,.slice t.f.rq t.f.rs.length t.f.rc,.slice t.f.kq t.f.kl t.f.kc]] w fun e w'=>e=.returned (.int .i64 (jE t:Int))/\Below w.heap.size w w':=by
 have B1:Hid (Below w.heap.size w (w.alloc (.cells #[.int .i64 t.f.k,.int .i64 t.f.n,.int .i64 t.f.mn,.int .i64 t.f.mx,.slice t.f.rq t.f.rs.length t.f.rc,.slice t.f.kq t.f.kl t.f.kc] 28))):=bz9
 have N1:BoxN (w.alloc (.cells #[.int .i64 t.f.k,.int .i64 t.f.n,.int .i64 t.f.mn,.int .i64 t.f.mx,.slice t.f.rq t.f.rs.length t.f.rc,.slice t.f.kq t.f.kl t.f.kc] 28)) w.heap.size t.f:=aG w _
 obtain⟨c0,c1,c2,c3,c4,c5⟩:=N1.six
 simp only [Nat.zero_add] at c1 c2 c3 c4 c5
 have LD:=aC (tG (w:=w.alloc (.cells #[.int .i64 t.f.k,.int .i64 t.f.n,.int .i64 t.f.mn,.int .i64 t.f.mx,.slice t.f.rq t.f.rs.length t.f.rc,.slice t.f.kq t.f.kl t.f.kc] 28)) 2001 (by omega) (hta.kept B1.out))
 have hl:=nN t
 have HL:=aC hl
 clear N1 hta hl
 go_enter Tryz.func42,Tryz.ntmps42
 go_wp2_with (go_at_call 45;refine(LD.out).mono ?_;rintro e w5 ⟨q5,k5,rfl,h51,h52⟩;have B5:=aC h52;clear h51 h52)
 go_ret
 refine⟨?_,aE B1.out B5.out lz9⟩
 show Ending.returned (.int .i64 ((pW 2001 t).length:Int))=_
 rw [HL.out]
theorem ZR.cells{base:Nat}{W:World}{g c:Nat}{L:List Zl}(h:ZR base W (.slice (some ⟨g,0,none⟩) L.length c) L){i:Nat}{z:Zl}(hi:L[i]?=some z){j:Nat}{v:Value}(hj:(zc z)[j]?=some v):W.cell? ⟨g,i * 12+j,none⟩=some v:=
 bC h ((jG L i j z hi (by have:=(List.getElem?_eq_some_iff.1 hj).1;rw [jK] at this;exact this)).trans hj)
theorem yT(l:List El)(j:Nat)(x:El)(h:l[j]?=some x):dO (l.take (j+1))=max (dO (l.take j)) (x.1.length+1):=by rw [List.take_add_one,h];exact yU _ _
theorem zS{w:World}{t:Tr}(hta:TA w t):Calls Tryz.prog 44 #[.agg #[.int .i64 t.f.k,.int .i64 t.f.n,.int .i64 t.f.mn,.int .i64 t.f.mx,.slice t.f.rq t.f.rs.length t.f.rc,.slice t.f.kq t.f.kl t.f.kc]] w fun e w'=>e=.returned (.int .i64 ((if 2000 < (pp [] t).length then 0 else dO (pp [] t):Nat):Int))/\Below w.heap.size w w':=by
 have B1:Hid (Below w.heap.size w (w.alloc (.cells #[.int .i64 t.f.k,.int .i64 t.f.n,.int .i64 t.f.mn,.int .i64 t.f.mx,.slice t.f.rq t.f.rs.length t.f.rc,.slice t.f.kq t.f.kl t.f.kc] 28))):=bz9
 have N1:BoxN (w.alloc (.cells #[.int .i64 t.f.k,.int .i64 t.f.n,.int .i64 t.f.mn,.int .i64 t.f.mx,.slice t.f.rq t.f.rs.length t.f.rc,.slice t.f.kq t.f.kl t.f.kc] 28)) w.heap.size t.f:=aG w _
 obtain⟨c0,c1,c2,c3,c4,c5⟩:=N1.six
 simp only [Nat.zero_add] at c1 c2 c3 c4 c5
 have LD:=aC (tG (w:=w.alloc (.cells #[.int .i64 t.f.k,.int .i64 t.f.n,.int .i64 t.f.mn,.int .i64 t.f.mx,.slice t.f.rq t.f.rs.length t.f.rc,.slice t.f.kq t.f.kl t.f.kc] 28)) 2001 (by omega) (hta.kept B1.out))
 have hl:=vT 2001 t
 have HMP:=aC (mQ 2001 t)
 have HL:=aC hl
 have hle:(pW 2001 t).length<=2001:=by omega
 generalize pW 2001 t=Z at LD HMP HL hle
 obtain⟨R,hR⟩:∃ R,(if 2000 < (pp [] t).length then 0 else dO (pp [] t))=R:=⟨_,rfl⟩
 rw [hR]
 have HR:=aC hR
 clear hR
 clear N1 hta hl
 go_enter Tryz.func44,Tryz.ntmps44
 go_upto_region 4 with (go_at_call 45;refine(LD.out).mono ?_;rintro e w5 ⟨q5,k5,rfl,h51,h52⟩;have Z5:=aC h51;have B5:=aC h52;clear h51 h52)
 have B6:=aC (aE B1.out B5.out lz9)
 clear c0 c1 c2 c3 c4 c5 B1 B5 LD
 by_cases hbig:Z.length<=2000
 ·have b0:(Z.length:Int)<=2000:=by omega
  have hn:¬ 2000 < (pp [] t).length:=by have:=HL.out;omega
  have he:Z.map (·.1)=pp [] t:=by rw [HMP.out,List.take_of_length_le (by omega)]
  have HE:=aC he
  have HN:=aC hn
  clear he hn
  go_loopw [5,4] (fun i d wr=>∃ j:Nat,j<=Z.length/\i=.int .i64 (j:Int)/\d=.int .i64 (dO ((pp [] t).take j):Int)/\wr=w5) (fun i _ _=>Z.length - (intOf i).toNat)
  case atStart=>exact⟨0,Nat.zero_le _,rfl,rfl,rfl⟩
  case round=>
   obtain⟨j,hj,rfl,rfl,rfl⟩:=hrel
   by_cases hjl:j < Z.length
   ·have i0:(j:Int) < (Z.length:Int):=by omega
    obtain⟨z,hz⟩:∃ z,Z[j]?=some z:=⟨_,List.getElem?_eq_getElem hjl⟩
    obtain⟨g,cc,hq⟩:=aI Z5.out (by omega)
    injection hq with hq1 _ hq2
    subst hq1 hq2
    have y6:=Z5.out.cells hz (j:=6) (v:=.int .i64 ((z.1.1.length:Int)+1)) rfl
    have hx:(pp [] t)[j]?=some z.1:=by rw [<- HE.out,List.getElem?_map,hz];rfl
    have mx:=kS Tryz.prog #[3,3] 3
    have HD:=aC (show (dO ((pp [] t).take (j+1)):Int)=max (dO ((pp [] t).take j):Int) ((z.1.1.length:Int)+1) by rw [yT _ _ _ hx];omega)
    clear hz hx
    go_wp2
    go_roundw
    case rel=>exact⟨j+1,by omega,by go_num,by rw [HD.out],by trivial⟩
    case measure=>simp only [intOf];omega
   ·have i0:¬ (j:Int) < (Z.length:Int):=by omega
    have HD:=aC (show (if 2000 < (pp [] t).length then 0 else dO (pp [] t))=dO ((pp [] t).take j) by
     have h1:=congrArg List.length HE.out
     rw [List.length_map] at h1
     rw [if_neg HN.out,List.take_of_length_le (by omega)])
    go_wp2
    go_ret
    have hRR:=HR.out.symm.trans HD.out
    subst hRR
    exact⟨rfl,B6.out⟩
 ·have b0:¬ (Z.length:Int)<=2000:=by omega
  have HD:=aC (show (if 2000 < (pp [] t).length then 0 else dO (pp [] t))=0 by rw [if_pos (by have:=HL.out;omega)])
  go_loopw [5,4] (fun i d wr=>i=.int .i64 0/\d=.int .i64 0/\wr=w5) (fun _ _ _=>0)
  case atStart=>exact⟨rfl,rfl,rfl⟩
  case round=>
   obtain⟨rfl,rfl,rfl⟩:=hrel
   have i0:(0:Int) < (Z.length:Int):=by omega
   go_wp2
   go_ret
   have hRR:=HR.out.symm.trans HD.out
   subst hRR
   exact⟨rfl,B6.out⟩
section
attribute [local go_sem] aR
theorem fO{R:Ending->World->Prop}{a:Act}{W:World}{b:Nat}{f:Fl}{x y:Value}(h:Six W b 0 f)(ha:a.tmps[4]?.getD undef=.pointer (some ⟨b,0,none⟩))(hb:a.tmps[5]?.getD undef=x)(hc:a.tmps[6]?.getD undef=y)(hd:a.defers=[])(hR:R (.returned (.tuple #[.agg #[.int .i64 f.k,.int .i64 f.n,.int .i64 f.mn,.int .i64 f.mx,.slice f.rq f.rs.length f.rc,.slice f.kq f.kl f.kc],x,y])) W):bodyPost Tryz.prog Tryz.f19 R .ret a W:=by
 obtain⟨z0,z1,z2,z3,z4,z5⟩:=h
 simp only [Nat.zero_add] at z1 z2 z3 z4 z5
 refine bodyPost_ret (v:=.tuple #[.agg #[.int .i64 f.k,.int .i64 f.n,.int .i64 f.mn,.int .i64 f.mx,.slice f.rq f.rs.length f.rc,.slice f.kq f.kl f.kc],x,y]) ?_ hd hR
 simp [results,Tryz.results19,go_sem,ha,hb,hc,z0,z1,z2,z3,z4,z5]
def oG(w:World)(c a:Nat)(e:Ending)(w':World):Prop:=e=.returned (.tuple #[.agg #[.int .i64 0,.int .i64 0,.int .i64 0,.int .i64 0,.slice none 0 0,.slice none 0 0],.int .i64 (c:Int),.int .i64 (a:Int)])/\Below w.heap.size w w'
def bG5(w:World)(x:Ps)(e:Ending)(w':World):Prop:=∃ t',e=.returned (.tuple #[.agg #[.int .i64 t'.f.k,.int .i64 t'.f.n,.int .i64 t'.f.mn,.int .i64 t'.f.mx,.slice t'.f.rq t'.f.rs.length t'.f.rc,.slice t'.f.kq t'.f.kl t'.f.kc],.int .i64 0,.int .i64 0])/\TA w' t'/\er t'=te x/\Below w.heap.size w w'
def qN(w:World)(x:Ps)(e:Ending)(w':World):Prop:=if 40 < x.dp then oG w 43 0 e w' else if 2000 < x.sz then oG w 42 0 e w' else bG5 w x e w'
theorem iH{w w5:World}(hz:BoxN w5 (w.heap.size+1) (bare 0))(hB:Below w.heap.size w w5):Six (bH w5 (w.heap.size+1) 0 (bare 0)) (w.heap.size+1) 0 (bare 0)/\Below w.heap.size w (bH w5 (w.heap.size+1) 0 (bare 0)):=
 ⟨(iN hz (bare 0)).six,bM hB (cU w5 (w.heap.size+1) 0 (bare 0)) lz9 (fun k e=>by omega)⟩
theorem xN{base:Nat}{w:World}{tv:Value}{D:List Dt}(h:TL base w tv D)(hok:∀ d∈D,eD d.1.1/\d.2.2.length<=1000000)(hfew:D.length<=2000){c a:Nat}(hh:dC (D.map Prod.fst)=some (c,a)):Calls Tryz.prog 40 #[tv] w fun e w'=>e=.returned (.tuple #[.int .i64 (c:Int),.int .i64 (a:Int)])/\Below w.heap.size w w':=by
 have:=zQ h (fun d hd=>(hok d hd).1) hfew
 rw [hh] at this
 exact this
theorem xO{base:Nat}{w:World}{tv:Value}{D:List Dt}(h:TL base w tv D)(hok:∀ d∈D,eD d.1.1/\d.2.2.length<=1000000)(hfew:D.length<=2000)(hh:dC (D.map Prod.fst)=none):Calls Tryz.prog 40 #[tv] w fun e w'=>e=.returned (.tuple #[.int .i64 0,.int .i64 0])/\Below w.heap.size w w':=by
 have:=zQ h (fun d hd=>(hok d hd).1) hfew
 rw [hh] at this
 exact this
theorem rL{t:Tr}{x:Ps}{W:World}{q:Bool}(hta:TA W t)(he:er t=te x)(hq:decide (40 < x.dp)=q):Calls Tryz.prog 43 #[.agg #[.int .i64 t.f.k,.int .i64 t.f.n,.int .i64 t.f.mn,.int .i64 t.f.mx,.slice t.f.rq t.f.rs.length t.f.rc,.slice t.f.kq t.f.kl t.f.kc],.int .i64 1] W fun e w'=>e=.returned (.bool q)/\Below W.heap.size W w':=by
 have:=aV7 t.sz t W 0 lz9 hta (by omega)
 rw [he,bI5,Nat.zero_add,hq] at this
 exact this
theorem aP8{x:Ps}{t:Tr}(h:er t=te x):(pp [] t).length=x.sz:=by rw [tD,<- wJ,h,aI9]
theorem xK{w:World}(s:ByteArray)(m:Md){c a:Nat}(hl:gB m s=.error (c,a))(hc:c≠0):Calls Tryz.prog 19 #[.string s,.agg #[.bool m.c,.bool m.f]] w (oG w c a):=by
 have B1:Below w.heap.size w ((w.alloc (.cells #[.bool m.c,.bool m.f] 23)).alloc aX):=(bz9).alloc (by simp) _
 have HB1:=aC B1
 have HM1:Hid (((w.alloc (.cells #[.bool m.c,.bool m.f] 23)).alloc aX).heap[w.heap.size]?=some (.cells #[.bool m.c,.bool m.f] 23 (0,0))):=(Below.heap_alloc _ _ _ (by simp)).trans (aG w _)
 have HZ1:Hid (BoxN ((w.alloc (.cells #[.bool m.c,.bool m.f] 23)).alloc aX) (w.heap.size+1) (bare 0)):=(by
  have:=aG (w.alloc (.cells #[.bool m.c,.bool m.f] 23)) aX
  rwa [World.size_alloc] at this)
 have LC:=aL6 (w:=((w.alloc (.cells #[.bool m.c,.bool m.f] 23)).alloc aX)) s m
 rw [hl] at LC
 have HL:=aC LC
 have n0:((c:Int) != 0)=true:=by simp;omega
 have n1:((c:Int)==0)=false:=by simp;omega
 have n2:¬ (c:Int)=0:=by omega
 clear hl LC B1 hc
 go_enter Tryz.func19,Tryz.ntmps19
 go_upto_region 1 with fail
 generalize ((w.alloc (.cells #[.bool m.c,.bool m.f] 23)).alloc aX)=W1 at HB1 HM1 HZ1 HL ⊢
 have m0:=aB HM1.out (i:=0) rfl
 have m1:=aB HM1.out (i:=1) rfl
 have lz:=aA HZ1.out
 go_wp2_with (go_at_call 39;(with_reducible refine(HL.out).mono ?_);rintro e w5 ⟨h1,rfl⟩;have Z5:=aC (HZ1.out.kept h1);have E5:=aC (iH Z5.out (aE HB1.out h1 lz9));unfold bH at E5;have lz:=aA Z5.out;obtain⟨r0,r1,r2,r3,r4,r5⟩:=Z5.out.six;simp only [Nat.zero_add] at r1 r2 r3 r4 r5;have fz:=fun z=>aP Z5.out z;clear h1)
 exact fO E5.out.1 rfl rfl rfl rfl ⟨rfl,E5.out.2⟩
theorem rH(s:ByteArray)(m:Md){T:List Tp}(hl:gB m s=.ok T)(W:World):Calls Tryz.prog 39 #[.string s,.agg #[.bool m.c,.bool m.f]] W fun e w5=>∃ q c D,e=.returned (.tuple #[.slice q D.length c,.int .i64 0,.int .i64 0])/\Below W.heap.size W w5/\TL W.heap.size w5 (.slice q D.length c) D/\D.map Prod.fst=T/\(∀ d∈D,eD d.1.1/\d.2.2.length<=1000000)/\D.length<=2000:=by
 have LC:=aL6 (w:=W) s m
 rw [hl] at LC
 refine LC.mono fun e w5 ⟨h1,v,D,h2,h3,h4⟩=>?_
 obtain⟨q,c,rfl⟩:=aL h3.own
 have h5:=zJ hl h4 (fun d hd=>(h3.each d hd).2)
 exact⟨q,c,D,h2,h1,h3,h4,h5.1,h5.2.1⟩
theorem uN{w:World}(s:ByteArray)(m:Md){T:List Tp}(hl:gB m s=.ok T){c a:Nat}(hh:dC T=some (c,a))(hc:c≠0):Calls Tryz.prog 19 #[.string s,.agg #[.bool m.c,.bool m.f]] w (oG w c a):=by
 have B1:Below w.heap.size w ((w.alloc (.cells #[.bool m.c,.bool m.f] 23)).alloc aX):=(bz9).alloc (by simp) _
 have HB1:=aC B1
 have HM1:Hid (((w.alloc (.cells #[.bool m.c,.bool m.f] 23)).alloc aX).heap[w.heap.size]?=some (.cells #[.bool m.c,.bool m.f] 23 (0,0))):=(Below.heap_alloc _ _ _ (by simp)).trans (aG w _)
 have HZ1:Hid (BoxN ((w.alloc (.cells #[.bool m.c,.bool m.f] 23)).alloc aX) (w.heap.size+1) (bare 0)):=(by
  have:=aG (w.alloc (.cells #[.bool m.c,.bool m.f] 23)) aX
  rwa [World.size_alloc] at this)
 have HL:=aC (rH s m hl ((w.alloc (.cells #[.bool m.c,.bool m.f] 23)).alloc aX))
 have HH:=aC hh
 have n0:((c:Int) != 0)=true:=by simp;omega
 have n1:((c:Int)==0)=false:=by simp;omega
 have n2:¬ (c:Int)=0:=by omega
 clear hl B1 hc hh
 go_enter Tryz.func19,Tryz.ntmps19
 go_upto_region 1 with fail
 generalize ((w.alloc (.cells #[.bool m.c,.bool m.f] 23)).alloc aX)=W1 at HB1 HM1 HZ1 HL ⊢
 have m0:=aB HM1.out (i:=0) rfl
 have m1:=aB HM1.out (i:=1) rfl
 have lz:=aA HZ1.out
 go_wp2_with first
  |(go_at_call 39;(with_reducible refine(HL.out).mono ?_);rintro e w5 ⟨q5,c5,D,rfl,h1,h2,h3,h4,h5⟩;have B5:=aC h1;have T5:=aC h2;have E5:=aC h3;have K5:=aC h4;have N5:=aC h5;have GC:=aC (xN h2 h4 h5 (by rw [h3];exact HH.out));have Z5:=aC (HZ1.out.kept h1);clear h1 h2 h3 h4 h5)
  |(go_at_call 40;(with_reducible refine(GC.out).mono ?_);rintro e w6 ⟨rfl,h1⟩;have Z6:=aC (Z5.out.kept h1);have E6:=aC (iH Z6.out (aE (aE HB1.out B5.out lz9) h1 lz9));unfold bH at E6;have lz:=aA Z6.out;obtain⟨r0,r1,r2,r3,r4,r5⟩:=Z6.out.six;simp only [Nat.zero_add] at r1 r2 r3 r4 r5;have fz:=fun z=>aP Z6.out z;clear h1)
 exact fO E6.out.1 rfl rfl rfl rfl ⟨rfl,E6.out.2⟩
theorem uM{w:World}(s:ByteArray)(m:Md){T:List Tp}(hl:gB m s=.ok T)(hh:dC T=none){x:Ps}(hw:wf x)(hx:pfl x=mC 0 T):Calls Tryz.prog 19 #[.string s,.agg #[.bool m.c,.bool m.f]] w (qN w x):=by
 have B1:Below w.heap.size w ((w.alloc (.cells #[.bool m.c,.bool m.f] 23)).alloc aX):=(bz9).alloc (by simp) _
 have HB1:=aC B1
 have HM1:Hid (((w.alloc (.cells #[.bool m.c,.bool m.f] 23)).alloc aX).heap[w.heap.size]?=some (.cells #[.bool m.c,.bool m.f] 23 (0,0))):=(Below.heap_alloc _ _ _ (by simp)).trans (aG w _)
 have HZ1:Hid (BoxN ((w.alloc (.cells #[.bool m.c,.bool m.f] 23)).alloc aX) (w.heap.size+1) (bare 0)):=(by
  have:=aG (w.alloc (.cells #[.bool m.c,.bool m.f] 23)) aX
  rwa [World.size_alloc] at this)
 have HL:=aC (rH s m hl ((w.alloc (.cells #[.bool m.c,.bool m.f] 23)).alloc aX))
 have HH:=aC hh
 have HXX:=aC hx
 have HRP:=aC (aL3 x hw)
 clear hl hh B1 hw hx
 go_enter Tryz.func19,Tryz.ntmps19
 go_upto_region 1 with fail
 generalize ((w.alloc (.cells #[.bool m.c,.bool m.f] 23)).alloc aX)=W1 at HB1 HM1 HZ1 HL ⊢
 have m0:=aB HM1.out (i:=0) rfl
 have m1:=aB HM1.out (i:=1) rfl
 have lz:=aA HZ1.out
 go_upto_region 9 with first
  |(go_at_call 39;(with_reducible refine(HL.out).mono ?_);rintro e w5 ⟨q5,c5,D,rfl,h1,h2,h3,h4,h5⟩;have B5:=aC h1;have T5:=aC h2;have E5:=aC h3;have K5:=aC h4;have N5:=aC h5;have GC:=aC (xO h2 h4 h5 (by rw [h3];exact HH.out));have Z5:=aC (HZ1.out.kept h1);clear h1 h2 h3 h4 h5)
  |(go_at_call 40;(with_reducible refine(GC.out).mono ?_);rintro e w6 ⟨rfl,h1⟩;have B6:=aC h1;have Z6:=aC (Z5.out.kept h1);have B7:Hid (Below w6.heap.size w6 (w6.alloc (.cells #[.slice q5 D.length c5,.int .i64 0,.int .i64 0] 90))):=bz9;have DB7:Hid (DB W1.heap.size (w6.alloc (.cells #[.slice q5 D.length c5,.int .i64 0,.int .i64 0] 90)) w6.heap.size (.slice q5 D.length c5) D 0 0):=⟨aG w6 _,(T5.out.kept B6.out).kept B7.out,Nat.zero_le _,N5.out,Nat.le_refl _,K5.out⟩;have PC:=aC (HRP.out W1.heap.size w6.heap.size 0 0 _ _ D [] DB7.out (by unfold left;rw [List.drop_zero,E5.out,<- HXX.out,List.append_nil]) (.inl rfl));clear h1)
  |(go_at_call 41;(with_reducible refine(PC.out).mono ?_);rintro e w8 ⟨t8,rfl,h1,h2,h3⟩;have T8:=aC h1;have F8:=aC h3;clear h1 h2 h3)
 have B8:Hid (Below w.heap.size w w8):=bM (aE (aE (aE HB1.out B5.out lz9) B6.out lz9) B7.out lz9) F8.out lz9 (fun k hk=>by have:k=w6.heap.size:=hk;have:=HB1.out.size;have:=B5.out.size;have:=B6.out.size;omega)
 have Z8:Hid (BoxN w8 (w.heap.size+1) (bare 0)):=(Z6.out.kept B7.out).at DB7.out F8.out
 have B89:Below w8.heap.size w8 (w8.alloc (.cells #[.int .i64 t8.f.k,.int .i64 t8.f.n,.int .i64 t8.f.mn,.int .i64 t8.f.mx,.slice t8.f.rq t8.f.rs.length t8.f.rc,.slice t8.f.kq t8.f.kl t8.f.kc] 28)):=bz9
 have B9:=aC (aE B8.out B89 lz9)
 have Z9:=aC (Z8.out.kept B89)
 have N9:Hid (BoxN (w8.alloc (.cells #[.int .i64 t8.f.k,.int .i64 t8.f.n,.int .i64 t8.f.mn,.int .i64 t8.f.mx,.slice t8.f.rq t8.f.rs.length t8.f.rc,.slice t8.f.kq t8.f.kl t8.f.kc] 28)) w8.heap.size t8.f):=aG w8 _
 have T9:=aC ((T8.out.mono (M:=fun k=>k≠w.heap.size+1) (fun k hk=>by have:_<=k:=hk;have:=B7.out.size;have:=aA Z6.out;omega)).kept B89)
 have CC:=aV8 T9.out.ta
 have hcn:jE t8=min x.sz 2001:=by unfold jE;rw [aP8 T9.out.er]
 rw [hcn] at CC
 have HTN:=aC (aP8 T9.out.er)
 generalize w8.alloc (.cells #[.int .i64 t8.f.k,.int .i64 t8.f.n,.int .i64 t8.f.mn,.int .i64 t8.f.mx,.slice t8.f.rq t8.f.rs.length t8.f.rc,.slice t8.f.kq t8.f.kl t8.f.kc] 28)=W9 at B9 Z9 N9 T9 CC ⊢
 have CC:=aC CC
 clear m0 m1 lz B89 hcn
 have n9:=aA N9.out
 obtain⟨q0,q1,q2,q3,q4,q5'⟩:=N9.out.six
 simp only [Nat.zero_add] at q1 q2 q3 q4 q5'
 by_cases hn:2000 < x.sz
 ·have i1:(2000:Int) < ((min x.sz 2001:Nat):Int):=by omega
  generalize min x.sz 2001=NN at *
  by_cases hd:40 < x.dp
  ·have RES:Hid (∀ e w',oG w 43 0 e w'->qN w x e w'):=fun e w' h=>(by unfold qN;rw [if_pos hd];exact h)
   clear hn
   go_wp2_with first
    |(go_at_call 42;(with_reducible refine(CC.out).mono ?_);rintro e wA ⟨rfl,h1⟩;have TA9:=aC (T9.out.kept h1);have BA:=aC (aE B9.out h1 lz9);have NA9:=N9.out.kept h1;have lA:=aA NA9;obtain⟨s0,s1,s2,s3,s4,s5⟩:=NA9.six;simp only [Nat.zero_add] at s1 s2 s3 s4 s5;have ZA:=aC (Z9.out.kept h1);have DC:=aC (rL TA9.out.ta TA9.out.er (decide_eq_true hd));clear h1 NA9)
    |(go_at_call 43;(with_reducible refine(DC.out).mono ?_);rintro e wB ⟨rfl,h1⟩;have ZB:=aC (ZA.out.kept h1);have EZ:=aC (iH ZB.out (aE BA.out h1 lz9));unfold bH at EZ;have lz:=aA ZB.out;obtain⟨r0,r1,r2,r3,r4,r5⟩:=ZB.out.six;simp only [Nat.zero_add] at r1 r2 r3 r4 r5;have fz:=fun z=>aP ZB.out z;clear h1)
   exact fO EZ.out.1 rfl rfl rfl rfl (RES.out _ _ ⟨rfl,EZ.out.2⟩)
  ·have RES:Hid (∀ e w',oG w 42 0 e w'->qN w x e w'):=fun e w' h=>(by unfold qN;rw [if_neg hd,if_pos hn];exact h)
   go_wp2_with first
    |(go_at_call 42;(with_reducible refine(CC.out).mono ?_);rintro e wA ⟨rfl,h1⟩;have TA9:=aC (T9.out.kept h1);have BA:=aC (aE B9.out h1 lz9);have NA9:=N9.out.kept h1;have lA:=aA NA9;obtain⟨s0,s1,s2,s3,s4,s5⟩:=NA9.six;simp only [Nat.zero_add] at s1 s2 s3 s4 s5;have ZA:=aC (Z9.out.kept h1);have DC:=aC (rL TA9.out.ta TA9.out.er (decide_eq_false hd));clear h1 NA9)
    |(go_at_call 43;(with_reducible refine(DC.out).mono ?_);rintro e wB ⟨rfl,h1⟩;have ZB:=aC (ZA.out.kept h1);have EZ:=aC (iH ZB.out (aE BA.out h1 lz9));unfold bH at EZ;have lz:=aA ZB.out;obtain⟨r0,r1,r2,r3,r4,r5⟩:=ZB.out.six;simp only [Nat.zero_add] at r1 r2 r3 r4 r5;have fz:=fun z=>aP ZB.out z;clear h1)
   exact fO EZ.out.1 rfl rfl rfl rfl (RES.out _ _ ⟨rfl,EZ.out.2⟩)
 ·have i1:¬ (2000:Int) < ((min x.sz 2001:Nat):Int):=by omega
  generalize min x.sz 2001=NN at *
  by_cases hd:40 < x.dp
  ·have i2:(40:Int) < (x.dp:Int):=by omega
   have RES:Hid (∀ e w',oG w 43 0 e w'->qN w x e w'):=fun e w' h=>(by unfold qN;rw [if_pos hd];exact h)
   go_wp2_with first
    |(go_at_call 42;(with_reducible refine(CC.out).mono ?_);rintro e wA ⟨rfl,h1⟩;have TA9:=aC (T9.out.kept h1);have BA:=aC (aE B9.out h1 lz9);have NA9:=N9.out.kept h1;have lA:=aA NA9;obtain⟨s0,s1,s2,s3,s4,s5⟩:=NA9.six;simp only [Nat.zero_add] at s1 s2 s3 s4 s5;have ZA:=aC (Z9.out.kept h1);have DC0:=zS TA9.out.ta;rw [HTN.out,if_neg hn,aB5 x t8 [] TA9.out.er,List.length_nil,Nat.zero_add] at DC0;have DC:=aC DC0;clear DC0;clear h1 NA9)
    |(go_at_call 44;(with_reducible refine(DC.out).mono ?_);rintro e wB ⟨rfl,h1⟩;have ZB:=aC (ZA.out.kept h1);have EZ:=aC (iH ZB.out (aE BA.out h1 lz9));unfold bH at EZ;have lz:=aA ZB.out;obtain⟨r0,r1,r2,r3,r4,r5⟩:=ZB.out.six;simp only [Nat.zero_add] at r1 r2 r3 r4 r5;have fz:=fun z=>aP ZB.out z;clear h1)
   exact fO EZ.out.1 rfl rfl rfl rfl (RES.out _ _ ⟨rfl,EZ.out.2⟩)
  ·have i2:¬ (40:Int) < (x.dp:Int):=by omega
   have RES:Hid (∀ e w',bG5 w x e w'->qN w x e w'):=fun e w' h=>(by unfold qN;rw [if_neg hd,if_neg hn];exact h)
   go_wp2_with first
    |(go_at_call 42;(with_reducible refine(CC.out).mono ?_);rintro e wA ⟨rfl,h1⟩;have TA9:=aC (T9.out.kept h1);have BA:=aC (aE B9.out h1 lz9);have NA9:=N9.out.kept h1;have lA:=aA NA9;obtain⟨s0,s1,s2,s3,s4,s5⟩:=NA9.six;simp only [Nat.zero_add] at s1 s2 s3 s4 s5;have ZA:=aC (Z9.out.kept h1);have DC0:=zS TA9.out.ta;rw [HTN.out,if_neg hn,aB5 x t8 [] TA9.out.er,List.length_nil,Nat.zero_add] at DC0;have DC:=aC DC0;have NAH:=aC NA9;clear DC0;clear h1 NA9)
    |(go_at_call 44;(with_reducible refine(DC.out).mono ?_);rintro e wB ⟨rfl,h1⟩;have BB:=aC (aE BA.out h1 lz9);have ZB:=aC (ZA.out.kept h1);have TB:=aC (TA9.out.kept h1);have NB:=NAH.out.kept h1;have lB:=aA NB;obtain⟨v0,v1,v2,v3,v4,v5⟩:=NB.six;simp only [Nat.zero_add] at v1 v2 v3 v4 v5;have lz:=aA ZB.out;obtain⟨r0,r1,r2,r3,r4,r5⟩:=ZB.out.six;simp only [Nat.zero_add] at r1 r2 r3 r4 r5;have fz:=fun z=>aP ZB.out z;clear h1 NB)
   have ft:=cU wB (w.heap.size+1) 0 t8.f
   have E6:=(iN ZB.out t8.f).six
   have ET:=TB.out.fr ft (nB ZB.out (fun z=>z rfl))
   have EB:=bM BB.out ft lz9 (fun k e=>by omega)
   unfold bH at E6 ET EB
   exact fO E6 rfl rfl rfl rfl (RES.out _ _ ⟨t8,rfl,ET.ta,ET.er,EB⟩)
end
structure XN9(N:Nat->Prop)(W:World)(t:Tr):Prop where
 r:t.f.rs=[]\/∃ g off cur,t.f.rq=some ⟨g,off,none⟩/\N g/\W.heap[g]?=some (.cells cur 99 (0,0))/\off+2 * t.f.rs.length<=cur.size
 k:t.ks=[]\/∃ g off,t.f.kq=some ⟨g,off,none⟩/\N g/\(∃ cur,W.heap[g]?=some (.cells cur 28 (0,0)))/\∀ i u,t.ks[i]?=some u->Six W g (off+i * 6) u.f\/Six W g (off+i * 6) (bare (-5))
 kl:t.f.kl=t.ks.length
 rl:t.f.rs.length<=8796093022208
 ml:t.ks.length<=maxLen
def XA9(N:Nat->Prop)(W:World)(t:Tr):Prop:=dQ (XN9 N W) t
theorem aZ5{W:World}{g i:Nat}{cur:Array Value}{t:TypeId}{v:Value}(hc:W.heap[g]?=some (.cells cur t (0,0)))(h:W.cell? ⟨g,i,none⟩=some v):i < cur.size:=by
 unfold World.cell? at h
 simp only [hc] at h
 by_cases hi:i < cur.size
 ·exact hi
 ·rw [Array.getElem?_eq_none (by omega)] at h;cases h
theorem NA.sn{N:Nat->Prop}{W:World}{t:Tr}(h:NA W t)(hf:aA9 N t):XN9 N W t:=by
 refine⟨?_,?_,h.kl,by have:=h.len;omega,?_⟩
 ·by_cases e:t.f.rs=[]
  ·exact .inl e
  ·rcases h.r with⟨p,cap,-,z,-⟩ | ⟨g,off,cap,z,h2,h3,h4,h5⟩
   ·exact absurd z e
   ·injection z with z1
    obtain⟨cur,hc⟩:=h.own.1 _ z1 e
    refine .inr ⟨g,off,cur,z1,hf.1 _ z1 e,hc,?_⟩
    have hl:t.f.rs.length - 1 < t.f.rs.length:=by have:t.f.rs.length≠0:=fun q=>e (List.eq_nil_of_length_eq_zero q);omega
    have:=aZ5 hc (h5 _ _ (List.getElem?_eq_getElem hl)).2
    omega
 ·rcases h.k with⟨p,cap,-,z,-⟩ | ⟨g,off,cap,z,h2,h3,h4,h5⟩
  ·exact .inl z
  ·by_cases e:t.ks=[]
   ·exact .inl e
   ·injection z with z1
    exact .inr ⟨g,off,z1,hf.2 _ z1 e,h.own.2 _ z1 e,fun i u hu=>.inl (h5 i u hu)⟩
 ·obtain⟨q,cap,-,z,-⟩:=h.k.slice
  exact z
theorem TA.sa{N:Nat->Prop}{W:World}{t:Tr}(h:TA W t)(hf:Foot N t):XA9 N W t:=iS (fun _ a b=>NA.sn a b) t h hf
theorem XN9.mono{N M:Nat->Prop}{W:World}{t:Tr}(h:XN9 N W t)(hm:∀ k,k < W.heap.size->N k->M k):XN9 M W t:=
 ⟨h.r.imp id fun⟨g,off,cur,a,b,c,d⟩=>⟨g,off,cur,a,hm g (aA c) b,c,d⟩,h.k.imp id fun⟨g,off,a,b,c,d⟩=>⟨g,off,a,(by obtain⟨cur,c'⟩:=c;exact hm g (aA c') b),c,d⟩,h.kl,h.rl,h.ml⟩
theorem XA9.mono{N M:Nat->Prop}{W:World}{t:Tr}(h:XA9 N W t)(hm:∀ k,k < W.heap.size->N k->M k):XA9 M W t:=dD (fun _ q=>q.mono hm) t h
theorem kL{W W':World}{g o:Nat}{f:Fl}(h:Six W g o f)(hb:W'.heap[g]?=W.heap[g]?):Six W' g o f:=by
 have e:∀ i,W'.cell? ⟨g,i,none⟩=W.cell? ⟨g,i,none⟩:=fun i=>(by unfold World.cell?;simp only [hb])
 unfold Six
 simp only [e]
 exact h
theorem XN9.kept{N:Nat->Prop}{W W':World}{t:Tr}(h:XN9 N W t)(hb:Below W.heap.size W W'):XN9 N W' t:=
 ⟨h.r.imp id fun⟨g,off,cur,a,b,c,d⟩=>⟨g,off,cur,a,b,(hb.block _ (aA c)).trans c,d⟩,h.k.imp id fun⟨g,off,a,b,c,d⟩=>by
  obtain⟨cur,c'⟩:=c
  have e:=hb.block _ (aA c')
  exact⟨g,off,a,b,⟨cur,e.trans c'⟩,fun i u hu=>(d i u hu).imp (fun q=>kL q e) (fun q=>kL q e)⟩,h.kl,h.rl,h.ml⟩
theorem XA9.kept{N:Nat->Prop}{W W':World}{t:Tr}(h:XA9 N W t)(hb:Below W.heap.size W W'):XA9 N W' t:=dD (fun _ q=>q.kept hb) t h
theorem XN9.rng{N:Nat->Prop}{W W':World}{t:Tr}{b:Nat}{c1 c2:Array Value}(h:XN9 N W t)(hf:Fr (At b) W W')(h1:W.heap[b]?=some (.cells c1 99 (0,0)))(h2:W'.heap[b]?=some (.cells c2 99 (0,0)))(hs:c2.size=c1.size):XN9 N W' t:=by
 refine⟨h.r.imp id fun⟨g,off,cur,a,b',c,d⟩=>?_,h.k.imp id fun⟨g,off,a,b',c,d⟩=>?_,h.kl,h.rl,h.ml⟩
 ·by_cases e:g=b
  ·subst e
   rw [h1] at c
   cases c
   exact⟨g,off,c2,a,b',h2,by omega⟩
  ·exact⟨g,off,cur,a,b',(hf.block _ (aA c) e).trans c,d⟩
 ·obtain⟨cur,c'⟩:=c
  have e:=hf.block _ (aA c') (fun z:g=b=>dS c' h1 (by decide) z)
  exact⟨g,off,a,b',⟨cur,e.trans c'⟩,fun i u hu=>(d i u hu).imp (fun q=>kL q e) (fun q=>kL q e)⟩
theorem aD0{W:World}{g o p:Nat}{f f':Fl}(h:Six W g o f)(h':Six W g p f'):o=p\/p+6<=o\/o+6<=p:=by
 have key:∀ (o d:Nat) (f f':Fl),Six W g o f->Six W g (o+d) f'->d=0\/6<=d:=by
  intro o d f f' h h'
  obtain⟨a0,a1,a2,a3,a4,a5⟩:=h
  obtain⟨b0,b1,b2,b3,b4,b5⟩:=h'
  by_cases hd:6<=d
  ·exact .inr hd
  ·have:d=0\/d=1\/d=2\/d=3\/d=4\/d=5:=by omega
   rcases this with rfl | rfl | rfl | rfl | rfl | rfl
   ·exact .inl rfl
   ·rw [show o+1+3=o+4 from rfl,a4] at b3;cases b3
   ·rw [show o+2+2=o+4 from rfl,a4] at b2;cases b2
   ·rw [show o+3+1=o+4 from rfl,a4] at b1;cases b1
   ·rw [a4] at b0;cases b0
   ·rw [a5] at b0;cases b0
 rcases Nat.le_total o p with q | q
 ·obtain⟨d,rfl⟩:=Nat.exists_eq_add_of_le q
  have:=key o d f f' h h'
  omega
 ·obtain⟨d,rfl⟩:=Nat.exists_eq_add_of_le q
  have:=key p d f' f h' h
  omega
theorem zM{W:World}{g o p:Nat}{f f':Fl}(h:Six W g o f)(h':Six W g p f'):Six (bH W g o (bare (-5))) g p f'\/Six (bH W g o (bare (-5))) g p (bare (-5)):=by
 rcases aD0 h h' with e | e
 ·subst e
  exact .inr (fF h)
 ·obtain⟨k0,k1,k2,k3,k4,k5⟩:=h'
  exact .inl ⟨dV k0 (by omega),dV k1 (by omega),dV k2 (by omega),dV k3 (by omega),dV k4 (by omega),dV k5 (by omega)⟩
theorem XN9.kid{N:Nat->Prop}{W:World}{t:Tr}{b o:Nat}{f:Fl}{c1:Array Value}(h:XN9 N W t)(h1:W.heap[b]?=some (.cells c1 28 (0,0)))(h6:Six W b o f):XN9 N (bH W b o (bare (-5))) t:=by
 have hf:=cU W b o (bare (-5))
 refine⟨h.r.imp id fun⟨g,off,cur,a,b',c,d⟩=>?_,h.k.imp id fun⟨g,off,a,b',c,d⟩=>?_,h.kl,h.rl,h.ml⟩
 ·exact⟨g,off,cur,a,b',(hf.block _ (aA c) (fun z:g=b=>dS c h1 (by decide) z)).trans c,d⟩
 ·by_cases e:g=b
  ·subst e
   refine⟨g,off,a,b',?_,fun i u hu=>?_⟩
   ·unfold bH
    exact cM (cM (cM (cM (cM (cM ⟨_,h1⟩ _ _) _ _) _ _) _ _) _ _) _ _
   ·rcases d i u hu with q | q
    ·exact zM h6 q
    ·exact(zM h6 q).elim .inr .inr
  ·obtain⟨cur,c'⟩:=c
   have e2:=hf.block _ (aA c') e
   exact⟨g,off,a,b',⟨cur,e2.trans c'⟩,fun i u hu=>(d i u hu).imp (fun q=>kL q e2) (fun q=>kL q e2)⟩
structure XW9(N:Nat->Prop)(W W':World):Prop where
 fr:Fr N W W'
 sa:∀ t,XA9 N W t->XA9 N W' t
theorem XW9.refl(N:Nat->Prop)(W:World):XW9 N W W:=⟨Fr.refl _ _,fun _ h=>h⟩
theorem XW9.trans{N:Nat->Prop}{A B C:World}(h:XW9 N A B)(k:XW9 N B C):XW9 N A C:=⟨h.fr.trans k.fr,fun t q=>k.sa t (h.sa t q)⟩
theorem XW9.below{N:Nat->Prop}{A B:World}(h:Below A.heap.size A B):XW9 N A B:=⟨Fr.of_below h,fun _ q=>q.kept h⟩
theorem XW9.rng{N:Nat->Prop}{W:World}{g o:Nat}{cur:Array Value}(hN:N g)(h:W.heap[g]?=some (.cells cur 99 (0,0)))(x y:Value):XW9 N W ((W.setCell ⟨g,o,none⟩ x).setCell ⟨g,o+1,none⟩ y):=by
 have hf:∀ S:Nat->Prop,S g->Fr S W ((W.setCell ⟨g,o,none⟩ x).setCell ⟨g,o+1,none⟩ y):=fun S hS=>((Fr.refl S W).setCell (p:=⟨g,o,none⟩) hS _).setCell (p:=⟨g,o+1,none⟩) hS _
 exact⟨hf N hN,fun t q=>dD (fun _ q=>q.rng (hf (At g) rfl) h (aK (aK h o x) (o+1) y) (by simp)) t q⟩
theorem XW9.kid{N:Nat->Prop}{W:World}{g o:Nat}{f:Fl}{cur:Array Value}(hN:N g)(h:W.heap[g]?=some (.cells cur 28 (0,0)))(h6:Six W g o f):XW9 N W (bH W g o (bare (-5))):=by
 refine⟨?_,fun t q=>dD (fun _ q=>q.kid h h6) t q⟩
 have:=cU W g o (bare (-5))
 exact⟨this.os,this.tape,this.output,this.size,fun i hi hn=>this.block i hi (fun e=>hn (e ▸ hN))⟩
theorem XW9.mono{N M:Nat->Prop}{A B:World}(h:XW9 N A B)(h1:∀ k,N k->M k)(h2:∀ k,k < A.heap.size->M k->N k):XW9 M A B:=
 ⟨⟨h.fr.os,h.fr.tape,h.fr.output,h.fr.size,fun i hi hn=>h.fr.block i hi (fun z=>hn (h1 i z))⟩,fun t q=>(h.sa t (q.mono h2)).mono (fun k _ z=>h1 k z)⟩
theorem aZ9(N:Nat->Prop)(W:World):XA9 N W (.mk (bare (-5)) []):=(aY _).2 ⟨⟨.inl rfl,.inl rfl,rfl,Nat.zero_le _,Nat.zero_le _⟩,(aW _).2 fun u hu=>by cases hu⟩
theorem aJ3:∀ (m:Nat) (t:Tr) (N:Nat->Prop) (W:World),t.sz<=m->XA9 N W t->Calls Tryz.prog 21 #[.agg #[.int .i64 t.f.k,.int .i64 t.f.n,.int .i64 t.f.mn,.int .i64 t.f.mx,.slice t.f.rq t.f.rs.length t.f.rc,.slice t.f.kq t.f.kl t.f.kc]] W fun e w'=>e=.returned (.tuple #[])/\XW9 N W w':=by
 intro m
 induction m with
 | zero=>intro t N W hm;exact absurd (jM t) (by omega)
 | succ m ih=>
  intro t N W hm hsa
  obtain⟨M,hM⟩:∃ M:Nat->Prop,M=fun k=>N k/\k < W.heap.size:=⟨_,rfl⟩
  have h1:XA9 M W t:=hsa.mono (fun k a b=>by rw [hM];exact⟨b,a⟩)
  have RES:Hid (∀ w',XW9 M W w'->XW9 N W w'):=fun w' h=>h.mono (fun k hk=>by rw [hM] at hk;exact hk.1) (fun k a b=>by rw [hM];exact⟨b,a⟩)
  have HML:Hid (¬ M W.heap.size):=fun h=>by rw [hM] at h;exact absurd h.2 (Nat.lt_irrefl _)
  have B0:Below W.heap.size W (W.alloc (.cells #[.int .i64 t.f.k,.int .i64 t.f.n,.int .i64 t.f.mn,.int .i64 t.f.mx,.slice t.f.rq t.f.rs.length t.f.rc,.slice t.f.kq t.f.kl t.f.kc] 28)):=bz9
  have S0:=aC (XW9.below (N:=M) B0)
  have SA1:=aC (h1.kept B0)
  have N1:Hid (BoxN (W.alloc (.cells #[.int .i64 t.f.k,.int .i64 t.f.n,.int .i64 t.f.mn,.int .i64 t.f.mx,.slice t.f.rq t.f.rs.length t.f.rc,.slice t.f.kq t.f.kl t.f.kc] 28)) W.heap.size t.f):=aG W _
  have IH:Hid (∀ u W',u.sz<=m->XA9 M W' u->Calls Tryz.prog 21 #[.agg #[.int .i64 u.f.k,.int .i64 u.f.n,.int .i64 u.f.mn,.int .i64 u.f.mx,.slice u.f.rq u.f.rs.length u.f.rc,.slice u.f.kq u.f.kl u.f.kc]] W' fun e w'=>e=.returned (.tuple #[])/\XW9 M W' w'):=fun u W' a b=>ih u M W' a b
  have HSZ:=aC hm
  have hkl:=((aY t).1 h1).1.kl
  have hrl:=((aY t).1 h1).1.rl
  have hml:=((aY t).1 h1).1.ml
  rw [<- hkl] at hml
  unfold maxLen at hml
  have HKL:=aC hkl
  clear ih hm hsa hM h1 B0 hkl
  go_enter Tryz.func21,Tryz.ntmps21
  go_upto_region 2 with fail
  generalize W.alloc (.cells #[.int .i64 t.f.k,.int .i64 t.f.n,.int .i64 t.f.mn,.int .i64 t.f.mx,.slice t.f.rq t.f.rs.length t.f.rc,.slice t.f.kq t.f.kl t.f.kc] 28)=W1 at S0 SA1 N1 ⊢
  go_loopw [2] (fun i wr=>∃ j:Nat,j<=t.f.rs.length/\i=.int .i64 (j:Int)/\XW9 M W1 wr) (fun i _=>t.f.rs.length - (intOf i).toNat)
  case atStart=>exact⟨0,Nat.zero_le _,rfl,XW9.refl _ _⟩
  case round=>
   obtain⟨j,hj,rfl,hs⟩:=hrel
   have HS:=aC hs
   have hn:BoxN wr W.heap.size t.f:=(hs.fr.block _ (aA N1.out) HML.out).trans N1.out
   have ln:=aA hn
   have n4:=hn.six.2.2.2.2.1
   have HN:=aC hn
   clear hs hn
   by_cases hjl:j < t.f.rs.length
   ·have i0:(j:Int) < (t.f.rs.length:Int):=by omega
    rcases ((aY t).1 (HS.out.sa t SA1.out)).1.r with z | ⟨g,off,cur,z1,z2,z3,z4⟩
    ·rw [z] at hjl;exact absurd hjl (by simp)
    ·rw [z1] at n4
     obtain⟨v0,r0⟩:∃ v,wr.cell? ⟨g,off+j * 2,none⟩=some v:=⟨_,aB z3 (i:=off+j * 2) (Array.getElem?_eq_getElem (by omega))⟩
     obtain⟨v1,r1⟩:∃ v,wr.cell? ⟨g,off+j * 2+1,none⟩=some v:=⟨_,aB z3 (i:=off+j * 2+1) (Array.getElem?_eq_getElem (by omega))⟩
     have fz:=fun z=>aP z3 z
     have lg:=aA z3
     have NX:=aC (XW9.rng (o:=off+j * 2) z2 z3 (.int .i64 5) (.int .i64 (-5)))
     clear z1 z2 z3 z4
     go_wp2
     go_roundw
     case rel=>exact⟨j+1,by omega,by go_num,HS.out.trans NX.out⟩
     case measure=>simp only [intOf];omega
   ·have i0:¬ (j:Int) < (t.f.rs.length:Int):=by omega
    go_wp2
    go_loopw [3] (fun i wr=>∃ j:Nat,j<=t.f.kl/\i=.int .i64 (j:Int)/\XW9 M W1 wr) (fun i _=>t.f.kl - (intOf i).toNat)
    case atStart=>exact⟨0,Nat.zero_le _,rfl,HS.out⟩
    case round=>
     clear HS HN ln
     obtain⟨j,hj,rfl,hs⟩:=hrel
     have HS:=aC hs
     have hn:BoxN wr W.heap.size t.f:=(hs.fr.block _ (aA N1.out) HML.out).trans N1.out
     have ln:=aA hn
     have n5:=hn.six.2.2.2.2.2
     clear hs hn
     by_cases hjl:j < t.f.kl
     ·have i0:(j:Int) < (t.f.kl:Int):=by omega
      obtain⟨v,hv⟩:∃ u,t.ks[j]?=some u:=⟨_,List.getElem?_eq_getElem (by rw [<- HKL.out];exact hjl)⟩
      have hT:=HS.out.sa t SA1.out
      have hin:=List.mem_of_getElem? hv
      rcases ((aY t).1 hT).1.k with z | ⟨g,off,z1,z2,⟨cur,z3⟩,z4⟩
      ·rw [z] at hin;cases hin
      ·obtain⟨u,hu6,husz,husa⟩:∃ u:Tr,Six wr g (off+j * 6) u.f/\u.sz<=m/\XA9 M wr u:=by
        rcases z4 j v hv with q | q
        ·exact⟨v,q,by have:=gY hin;have:=HSZ.out;omega,gO hT hin⟩
        ·exact⟨.mk (bare (-5)) [],q,by have:=gY hin;have:=jM v;have:=HSZ.out;rw [lK];show szs []+1<=m;rw [fR];omega,aZ9 _ _⟩
       rw [z1] at n5
       obtain⟨c0,c1,c2,c3,c4,c5⟩:=hu6
       have lg:=aA z3
       have CC:=aC (IH.out u wr husz husa)
       have HV:=aC (show t.f.kq=some ⟨g,off,none⟩/\t.ks[j]?=some v from ⟨z1,hv⟩)
       clear z1 z2 z3 z4 hv hT hin husz husa
       go_upto_region 9 with (go_at_call 21;(with_reducible refine(CC.out).mono ?_);rintro e w6 ⟨rfl,h1⟩;have H6:=aC (HS.out.trans h1);clear h1)
       clear c0 c1 c2 c3 c4 c5 n5 lg ln
       have hT:=H6.out.sa t SA1.out
       have hn:BoxN w6 W.heap.size t.f:=(H6.out.fr.block _ (aA N1.out) HML.out).trans N1.out
       have ln:=aA hn
       have n5:=hn.six.2.2.2.2.2
       rcases ((aY t).1 hT).1.k with z | ⟨g',off',z1,z2,⟨cur',z3⟩,z4⟩
       ·have:=List.mem_of_getElem? HV.out.2;rw [z] at this;cases this
       ·have hq:=HV.out.1
        rw [z1] at hq
        cases hq
        rw [z1] at n5
        obtain⟨f,hf⟩:∃ f,Six w6 g (off+j * 6) f:=(z4 j v HV.out.2).elim (fun q=>⟨_,q⟩) (fun q=>⟨_,q⟩)
        have NX:=aC (XW9.kid z2 z3 hf)
        unfold bH at NX
        obtain⟨c0,c1,c2,c3,c4,c5⟩:=hf
        have lg:=aA z3
        have fz:=fun z=>aP z3 z
        clear z1 z2 z3 z4 hT hn
        go_wp2
        go_roundw
        case rel=>exact⟨j+1,by omega,by go_num,H6.out.trans NX.out⟩
        case measure=>simp only [intOf];omega
     ·have i0:¬ (j:Int) < (t.f.kl:Int):=by omega
      go_wp2
      go_end0
      exact⟨rfl,RES.out _ (S0.out.trans HS.out)⟩
abbrev Sg:=Int × Int × Int × Int × List (Int × Int) × Nat
def sig(t:Tr):Sg:=(t.f.k,t.f.n,t.f.mn,t.f.mx,t.f.rs,t.ks.length)
def sgs(l:List El):List Sg:=l.map fun x=>sig x.2
theorem iX(a b:List El):sgs (a ++ b)=sgs a ++ sgs b:=by simp [sgs]
theorem bD8{a b:Tr}(h:er a=er b):sig a=sig b:=by
 obtain⟨h1,h2,h3,h4,h5,h6⟩:=(yR a b).1 h
 have:=congrArg List.length h6
 rw [List.length_map,List.length_map] at this
 unfold sig
 rw [h1,h2,h3,h4,h5,this]
theorem aT5(a:Tr):∀ (b:Tr) (p q:Way) (X Y:List Sg),sgs (pp p a) ++ X=sgs (pp q b) ++ Y->er a=er b/\X=Y:=by
 refine Tr.ind (P:=fun a=>∀ (b:Tr) (p q:Way) (X Y:List Sg),sgs (pp p a) ++ X=sgs (pp q b) ++ Y->er a=er b/\X=Y) (fun a ih b p q X Y h=>?_) a
 have key:∀ (ks js:List Tr) (i i':Nat) (X Y:List Sg),(∀ u∈ks,u∈a.ks)->ks.length=js.length->sgs (pps a p i ks) ++ X=sgs (pps b q i' js) ++ Y->ks.map er=js.map er/\X=Y:=by
  intro ks
  induction ks with
  | nil=>
   intro js i i' X Y _ hl h
   cases js with
   | nil=>rw [eP,eP] at h;exact⟨rfl,h⟩
   | cons v js=>cases hl
  | cons u ks ihk=>
   intro js i i' X Y hm hl h
   cases js with
   | nil=>cases hl
   | cons v js=>
    rw [eN,eN,iX,iX,List.append_assoc,List.append_assoc] at h
    obtain⟨h1,h2⟩:=ih u (hm u List.mem_cons_self) v _ _ _ _ h
    obtain⟨h3,h4⟩:=ihk js _ _ X Y (fun z hz=>hm z (List.mem_cons_of_mem _ hz)) (by simpa using hl) h2
    rw [List.map_cons,List.map_cons,h1,h3]
    exact⟨rfl,h4⟩
 rw [mH,mH] at h
 simp only [sgs,List.map_cons,List.cons_append] at h
 injection h with h1 h2
 obtain⟨h5,h6⟩:=key a.ks b.ks 0 0 X Y (fun _ z=>z) (congrArg (fun s:Sg=>s.2.2.2.2.2) h1) h2
 refine⟨(yR a b).2 ⟨congrArg (fun s:Sg=>s.1) h1,congrArg (fun s:Sg=>s.2.1) h1,congrArg (fun s:Sg=>s.2.2.1) h1,congrArg (fun s:Sg=>s.2.2.2.1) h1,congrArg (fun s:Sg=>s.2.2.2.2.1) h1,h5⟩,h6⟩
theorem bD9(a:Tr):∀ (b:Tr) (p q:Way),er a=er b->sgs (pp p a)=sgs (pp q b):=by
 refine Tr.ind (P:=fun a=>∀ (b:Tr) (p q:Way),er a=er b->sgs (pp p a)=sgs (pp q b)) (fun a ih b p q h=>?_) a
 have hs:=bD8 h
 obtain⟨-,-,-,-,-,h6⟩:=(yR a b).1 h
 have key:∀ (ks js:List Tr) (i i':Nat),(∀ u∈ks,u∈a.ks)->ks.map er=js.map er->sgs (pps a p i ks)=sgs (pps b q i' js):=by
  intro ks
  induction ks with
  | nil=>
   intro js i i' _ hl
   cases js with
   | nil=>rw [eP,eP]
   | cons v js=>cases hl
  | cons u ks ihk=>
   intro js i i' hm hl
   cases js with
   | nil=>cases hl
   | cons v js=>
    rw [List.map_cons,List.map_cons] at hl
    injection hl with h1 h2
    rw [eN,eN,iX,iX,ih u (hm u List.mem_cons_self) v _ _ h1,ihk js _ _ (fun z hz=>hm z (List.mem_cons_of_mem _ hz)) h2]
 rw [mH,mH]
 have:=key a.ks b.ks 0 0 (fun _ z=>z) h6
 simp only [sgs,List.map_cons] at this ⊢
 rw [hs,this]
theorem pI(a b:Tr):nZ (er a) (er b)=true ↔ sgs (pp [] a)=sgs (pp [] b):=by
 rw [rD]
 refine⟨bD9 a b [] [],fun h=>(aT5 a b [] [] [] [] (by rw [h])).1⟩
theorem aT4(a b:Tr)(h:sgs (pp [] a)=sgs (pp [] b)):(pp [] a).length=(pp [] b).length:=by
 have:=congrArg List.length h
 simpa [sgs] using this
noncomputable def rsB (a b:Tr):Bool:=!decide (2000 < (pp [] a).length) && !decide (2000 < (pp [] b).length) && nZ (er a) (er b)
theorem aK9{a b:Tr}(h:jE a≠jE b\/2000 < jE a):rsB a b=false:=by
 unfold rsB jE at *
 cases hs:nZ (er a) (er b) with
 | false=>rw [Bool.and_false]
 | true=>
  have hl:=aT4 a b ((pI a b).1 hs)
  rw [decide_eq_true (show 2000 < (pp [] a).length by omega)]
  rfl
theorem aL0{a b:Tr}(h1:jE a=jE b)(h2:¬ 2000 < jE a):rsB a b=nZ (er a) (er b)/\(pp [] a).length<=2000/\(pp [] b).length<=2000:=by
 unfold rsB jE at *
 have l1:(pp [] a).length<=2000:=by omega
 have l2:(pp [] b).length<=2000:=by omega
 rw [decide_eq_false (by omega),decide_eq_false (by omega)]
 exact⟨rfl,l1,l2⟩
theorem aK7{w:World}{a b:Tr}(ha:TA w a)(hb:TA w b):Calls Tryz.prog 20 #[.agg #[.int .i64 a.f.k,.int .i64 a.f.n,.int .i64 a.f.mn,.int .i64 a.f.mx,.slice a.f.rq a.f.rs.length a.f.rc,.slice a.f.kq a.f.kl a.f.kc],.agg #[.int .i64 b.f.k,.int .i64 b.f.n,.int .i64 b.f.mn,.int .i64 b.f.mx,.slice b.f.rq b.f.rs.length b.f.rc,.slice b.f.kq b.f.kl b.f.kc]] w fun e w'=>e=.returned (.bool (rsB a b))/\Below w.heap.size w w':=by
 have B1:Hid (Below w.heap.size w ((w.alloc (.cells #[.int .i64 a.f.k,.int .i64 a.f.n,.int .i64 a.f.mn,.int .i64 a.f.mx,.slice a.f.rq a.f.rs.length a.f.rc,.slice a.f.kq a.f.kl a.f.kc] 28)).alloc (.cells #[.int .i64 b.f.k,.int .i64 b.f.n,.int .i64 b.f.mn,.int .i64 b.f.mx,.slice b.f.rq b.f.rs.length b.f.rc,.slice b.f.kq b.f.kl b.f.kc] 28))):=(bz9).alloc (by simp) _
 have NA1:Hid (BoxN ((w.alloc (.cells #[.int .i64 a.f.k,.int .i64 a.f.n,.int .i64 a.f.mn,.int .i64 a.f.mx,.slice a.f.rq a.f.rs.length a.f.rc,.slice a.f.kq a.f.kl a.f.kc] 28)).alloc (.cells #[.int .i64 b.f.k,.int .i64 b.f.n,.int .i64 b.f.mn,.int .i64 b.f.mx,.slice b.f.rq b.f.rs.length b.f.rc,.slice b.f.kq b.f.kl b.f.kc] 28)) w.heap.size a.f):=(Below.heap_alloc _ _ _ (by simp)).trans (aG w _)
 have NB1:Hid (BoxN ((w.alloc (.cells #[.int .i64 a.f.k,.int .i64 a.f.n,.int .i64 a.f.mn,.int .i64 a.f.mx,.slice a.f.rq a.f.rs.length a.f.rc,.slice a.f.kq a.f.kl a.f.kc] 28)).alloc (.cells #[.int .i64 b.f.k,.int .i64 b.f.n,.int .i64 b.f.mn,.int .i64 b.f.mx,.slice b.f.rq b.f.rs.length b.f.rc,.slice b.f.kq b.f.kl b.f.kc] 28)) (w.heap.size+1) b.f):=(by
  have:=aG (w.alloc (.cells #[.int .i64 a.f.k,.int .i64 a.f.n,.int .i64 a.f.mn,.int .i64 a.f.mx,.slice a.f.rq a.f.rs.length a.f.rc,.slice a.f.kq a.f.kl a.f.kc] 28)) (.cells #[.int .i64 b.f.k,.int .i64 b.f.n,.int .i64 b.f.mn,.int .i64 b.f.mx,.slice b.f.rq b.f.rs.length b.f.rc,.slice b.f.kq b.f.kl b.f.kc] 28)
  rwa [World.size_alloc] at this)
 have HA:=aC ha
 have HB:=aC hb
 obtain⟨R,hR⟩:∃ R,rsB a b=R:=⟨_,rfl⟩
 rw [hR]
 have HR:=aC hR
 clear ha hb hR
 go_enter Tryz.func20,Tryz.ntmps20
 go_upto_region 1 with fail
 generalize ((w.alloc (.cells #[.int .i64 a.f.k,.int .i64 a.f.n,.int .i64 a.f.mn,.int .i64 a.f.mx,.slice a.f.rq a.f.rs.length a.f.rc,.slice a.f.kq a.f.kl a.f.kc] 28)).alloc (.cells #[.int .i64 b.f.k,.int .i64 b.f.n,.int .i64 b.f.mn,.int .i64 b.f.mx,.slice b.f.rq b.f.rs.length b.f.rc,.slice b.f.kq b.f.kl b.f.kc] 28))=W1 at B1 NA1 NB1 ⊢
 generalize w.heap.size+1=bb at NB1 ⊢
 obtain⟨c0,c1,c2,c3,c4,c5⟩:=NA1.out.six
 simp only [Nat.zero_add] at c1 c2 c3 c4 c5
 have LA:=aC (tG (w:=W1) 2001 (by omega) (HA.out.kept B1.out))
 have hza:=nN a
 have HMA:=aC (mQ 2001 a)
 generalize pW 2001 a=ZA at LA hza HMA
 have HZA:=aC hza
 clear hza
 go_upto_region 2 with (go_at_call 45;refine(LA.out).mono ?_;rintro e w5 ⟨q5,k5,rfl,h51,h52⟩;have Z5:=aC h51;have B5:=aC h52;clear h51 h52)
 clear c0 c1 c2 c3 c4 c5 LA
 obtain⟨c0,c1,c2,c3,c4,c5⟩:=(show BoxN w5 bb b.f from (B5.out.block _ (aA NB1.out)).trans NB1.out).six
 simp only [Nat.zero_add] at c1 c2 c3 c4 c5
 have B6:=aC (aE B1.out B5.out lz9)
 have LB:=aC (tG (w:=w5) 2001 (by omega) (HB.out.kept B6.out))
 have hzb:=nN b
 have HMB:=aC (mQ 2001 b)
 generalize pW 2001 b=ZB at LB hzb HMB
 have HZB:=aC hzb
 clear hzb
 go_upto_region 3 with (go_at_call 45;refine(LB.out).mono ?_;rintro e w7 ⟨q7,k7,rfl,h51,h52⟩;have Z7:=aC h51;have B7:=aC h52;clear h51 h52)
 have Y7:Hid (ZR W1.heap.size w7 (.slice q5 ZA.length k5) ZA):=aQ Z5.out (Fr.of_below (S:=fun _=>False) B7.out) (fun _ _ z=>z)
 have B8:=aC (aE B6.out B7.out lz9)
 have hua:jE a<=2001:=Nat.min_le_right _ _
 have hub:jE b<=2001:=Nat.min_le_right _ _
 have hal:ZA.length<=2001:=by rw [HZA.out];exact hua
 have hbl:ZB.length<=2001:=by rw [HZB.out];exact hub
 clear c0 c1 c2 c3 c4 c5 LB B1 B5 B6 B7 Z5 NA1 NB1 hua hub
 by_cases hne:ZA.length=ZB.length
 ·have e0:((ZA.length:Int) != (ZB.length:Int))=false:=by simp;omega
  by_cases hbig:2000 < ZA.length
  ·have e1:(2000:Int) < (ZA.length:Int):=by omega
   have HF:=aC (HR.out.symm.trans (aK9 (.inr (by rw [<- HZA.out];exact hbig))))
   clear hne hbig
   go_wp2
   go_ret
   exact⟨by rw [HF.out];rfl,B8.out⟩
  ·have e1:¬ (2000:Int) < (ZA.length:Int):=by omega
   obtain⟨h1,h2,h3⟩:=aL0 (a:=a) (b:=b) (by rw [<- HZA.out,<- HZB.out];exact hne) (by rw [<- HZA.out];exact hbig)
   have HQ:=aC (HR.out.symm.trans h1)
   have HEA:=aC (show ZA.map (·.1)=pp [] a by rw [HMA.out,List.take_of_length_le (by omega)])
   have HEB:=aC (show ZB.map (·.1)=pp [] b by rw [HMB.out,List.take_of_length_le (by omega)])
   have HNE:=aC hne
   clear h1 h2 h3 hbig HMA HMB HZA HZB
   go_upto_region 6 with fail
   go_loopw [7] (fun i wr=>∃ j:Nat,j<=ZA.length/\i=.int .i64 (j:Int)/\Below w7.heap.size w7 wr/\(sgs (pp [] a)).take j=(sgs (pp [] b)).take j) (fun i _=>ZA.length - (intOf i).toNat)
   case atStart=>exact⟨0,Nat.zero_le _,rfl,Below.refl _ _,rfl⟩
   case round=>
    obtain⟨j,hj,rfl,hbw,hsg⟩:=hrel
    have HBW:=aC hbw
    have HSG:=aC hsg
    clear hbw hsg
    by_cases hjl:j < ZA.length
    ·have i0:(j:Int) < (ZA.length:Int):=by omega
     have i1:(j:Int) < (ZB.length:Int):=by omega
     obtain⟨x,hx⟩:∃ x,ZA[j]?=some x:=⟨_,List.getElem?_eq_getElem hjl⟩
     obtain⟨y,hy⟩:∃ y,ZB[j]?=some y:=⟨_,List.getElem?_eq_getElem (by omega)⟩
     obtain⟨ga,ca,hqa⟩:=aI Y7.out (by omega)
     obtain⟨gb,cb,hqb⟩:=aI Z7.out (by omega)
     injection hqa with hqa1 _ hqa2
     injection hqb with hqb1 _ hqb2
     subst hqa1 hqa2 hqb1 hqb2
     have YA:ZR W1.heap.size wr (.slice (some ⟨ga,0,none⟩) ZA.length k5) ZA:=aQ Y7.out (Fr.of_below (S:=fun _=>False) HBW.out) (fun _ _ z=>z)
     have YB:ZR w5.heap.size wr (.slice (some ⟨gb,0,none⟩) ZB.length k7) ZB:=aQ Z7.out (Fr.of_below (S:=fun _=>False) HBW.out) (fun _ _ z=>z)
     have x0:wr.cell? ⟨ga,j * 12,none⟩=some (.int .i64 x.1.2.f.k):=YA.cells hx (j:=0) rfl
     have x1:wr.cell? ⟨ga,j * 12+1,none⟩=some (.int .i64 x.1.2.f.n):=YA.cells hx (j:=1) rfl
     have x2:wr.cell? ⟨ga,j * 12+2,none⟩=some (.int .i64 x.1.2.f.mn):=YA.cells hx (j:=2) rfl
     have x3:wr.cell? ⟨ga,j * 12+3,none⟩=some (.int .i64 x.1.2.f.mx):=YA.cells hx (j:=3) rfl
     have x4:wr.cell? ⟨ga,j * 12+4,none⟩=some (.slice x.1.2.f.rq x.1.2.f.rs.length x.1.2.f.rc):=YA.cells hx (j:=4) rfl
     have x5:wr.cell? ⟨ga,j * 12+5,none⟩=some (.slice x.1.2.f.kq x.1.2.f.kl x.1.2.f.kc):=YA.cells hx (j:=5) rfl
     have y0:wr.cell? ⟨gb,j * 12,none⟩=some (.int .i64 y.1.2.f.k):=YB.cells hy (j:=0) rfl
     have y1:wr.cell? ⟨gb,j * 12+1,none⟩=some (.int .i64 y.1.2.f.n):=YB.cells hy (j:=1) rfl
     have y2:wr.cell? ⟨gb,j * 12+2,none⟩=some (.int .i64 y.1.2.f.mn):=YB.cells hy (j:=2) rfl
     have y3:wr.cell? ⟨gb,j * 12+3,none⟩=some (.int .i64 y.1.2.f.mx):=YB.cells hy (j:=3) rfl
     have y4:wr.cell? ⟨gb,j * 12+4,none⟩=some (.slice y.1.2.f.rq y.1.2.f.rs.length y.1.2.f.rc):=YB.cells hy (j:=4) rfl
     have y5:wr.cell? ⟨gb,j * 12+5,none⟩=some (.slice y.1.2.f.kq y.1.2.f.kl y.1.2.f.kc):=YB.cells hy (j:=5) rfl
     have hxa:(pp [] a)[j]?=some x.1:=by rw [<- HEA.out,List.getElem?_map,hx];rfl
     have hyb:(pp [] b)[j]?=some y.1:=by rw [<- HEB.out,List.getElem?_map,hy];rfl
     have lga:ga < wr.heap.size:=(aH YA (g:=ga) rfl).2.1
     have lgb:gb < wr.heap.size:=(aH YB (g:=gb) rfl).2.1
     have BW:=aE B8.out HBW.out lz9
     have TX:=(HA.out.at (List.mem_of_getElem? hxa)).node.ck (CK.of_below BW)
     have TY:=(HB.out.at (List.mem_of_getElem? hyb)).node.ck (CK.of_below BW)
     have klx:=TX.kl
     have kly:=TY.kl
     have SN:Hid (sig x.1.2=sig y.1.2->(sgs (pp [] a)).take (j+1)=(sgs (pp [] b)).take (j+1)):=fun h=>(by
      rw [List.take_add_one,List.take_add_one,HSG.out]
      simp only [sgs,List.getElem?_map,hxa,hyb,Option.map_some]
      rw [h])
     have SD:Hid (sig x.1.2≠sig y.1.2->R=false):=fun h=>(by
      rw [HQ.out]
      cases hs:nZ (er a) (er b) with
      | false=>rfl
      | true=>
       exfalso
       have:=(pI a b).1 hs
       have h2:=congrArg (fun l=>l[j]?) this
       simp only [sgs,List.getElem?_map,hxa,hyb,Option.map_some] at h2
       injection h2 with h2
       exact h h2)
     have SG:=aC (show sig x.1.2=sig y.1.2 ↔ x.1.2.f.k=y.1.2.f.k/\x.1.2.f.n=y.1.2.f.n/\x.1.2.f.mn=y.1.2.f.mn/\x.1.2.f.mx=y.1.2.f.mx/\x.1.2.f.rs=y.1.2.f.rs/\x.1.2.f.kl=y.1.2.f.kl by
      unfold sig
      rw [klx,kly]
      simp [Prod.ext_iff])
     obtain⟨⟨wa,ta⟩,oa⟩:=x
     obtain⟨⟨wb,tb⟩,ob⟩:=y
     dsimp only at *
     have TX':=aC TX
     have TY':=aC TY
     clear hx hy hxa hyb YA YB TX TY klx kly BW
     go_upto_region 10 with fail
     have K2:Below wr.heap.size wr ((wr.alloc (.cells #[.int .i64 ta.f.k,.int .i64 ta.f.n,.int .i64 ta.f.mn,.int .i64 ta.f.mx,.slice ta.f.rq ta.f.rs.length ta.f.rc,.slice ta.f.kq ta.f.kl ta.f.kc] 28)).alloc (.cells #[.int .i64 tb.f.k,.int .i64 tb.f.n,.int .i64 tb.f.mn,.int .i64 tb.f.mx,.slice tb.f.rq tb.f.rs.length tb.f.rc,.slice tb.f.kq tb.f.kl tb.f.kc] 28)):=(bz9).alloc (by simp) _
     have N8:Hid (BoxN ((wr.alloc (.cells #[.int .i64 ta.f.k,.int .i64 ta.f.n,.int .i64 ta.f.mn,.int .i64 ta.f.mx,.slice ta.f.rq ta.f.rs.length ta.f.rc,.slice ta.f.kq ta.f.kl ta.f.kc] 28)).alloc (.cells #[.int .i64 tb.f.k,.int .i64 tb.f.n,.int .i64 tb.f.mn,.int .i64 tb.f.mx,.slice tb.f.rq tb.f.rs.length tb.f.rc,.slice tb.f.kq tb.f.kl tb.f.kc] 28)) wr.heap.size ta.f):=(Below.heap_alloc _ _ _ (by simp)).trans (aG wr _)
     have N9:Hid (BoxN ((wr.alloc (.cells #[.int .i64 ta.f.k,.int .i64 ta.f.n,.int .i64 ta.f.mn,.int .i64 ta.f.mx,.slice ta.f.rq ta.f.rs.length ta.f.rc,.slice ta.f.kq ta.f.kl ta.f.kc] 28)).alloc (.cells #[.int .i64 tb.f.k,.int .i64 tb.f.n,.int .i64 tb.f.mn,.int .i64 tb.f.mx,.slice tb.f.rq tb.f.rs.length tb.f.rc,.slice tb.f.kq tb.f.kl tb.f.kc] 28)) (wr.heap.size+1) tb.f):=(by
      have:=aG (wr.alloc (.cells #[.int .i64 ta.f.k,.int .i64 ta.f.n,.int .i64 ta.f.mn,.int .i64 ta.f.mx,.slice ta.f.rq ta.f.rs.length ta.f.rc,.slice ta.f.kq ta.f.kl ta.f.kc] 28)) (.cells #[.int .i64 tb.f.k,.int .i64 tb.f.n,.int .i64 tb.f.mn,.int .i64 tb.f.mx,.slice tb.f.rq tb.f.rs.length tb.f.rc,.slice tb.f.kq tb.f.kl tb.f.kc] 28)
      rwa [World.size_alloc] at this)
     have AK:=aC (bA6 (TX'.out.ck (CK.of_below K2)).r (TY'.out.ck (CK.of_below K2)).r)
     have HK2:=aC K2
     clear K2
     generalize ((wr.alloc (.cells #[.int .i64 ta.f.k,.int .i64 ta.f.n,.int .i64 ta.f.mn,.int .i64 ta.f.mx,.slice ta.f.rq ta.f.rs.length ta.f.rc,.slice ta.f.kq ta.f.kl ta.f.kc] 28)).alloc (.cells #[.int .i64 tb.f.k,.int .i64 tb.f.n,.int .i64 tb.f.mn,.int .i64 tb.f.mx,.slice tb.f.rq tb.f.rs.length tb.f.rc,.slice tb.f.kq tb.f.kl tb.f.kc] 28))=W2 at N8 N9 AK HK2 ⊢
     generalize wr.heap.size+1=b9 at N9 ⊢
     obtain⟨b8,hb8⟩:∃ b8,wr.heap.size=b8:=⟨_,rfl⟩
     rw [hb8] at N8 ⊢
     clear hb8
     have a4:W2.cell? ⟨b8,4,none⟩=some (.slice ta.f.rq ta.f.rs.length ta.f.rc):=N8.out.six.2.2.2.2.1
     have d4:W2.cell? ⟨b9,4,none⟩=some (.slice tb.f.rq tb.f.rs.length tb.f.rc):=N9.out.six.2.2.2.2.1
     obtain⟨rr,hrr⟩:∃ rr,decide (ta.f.rs=tb.f.rs)=rr:=⟨_,rfl⟩
     rw [hrr] at AK
     have HRR:=aC hrr
     clear hrr x0 x1 x2 x3 x4 x5 y0 y1 y2 y3 y4 y5
     go_upto_region 11 with (go_at_call 46;(with_reducible refine(AK.out).mono ?_);rintro e W3 ⟨rfl,h3⟩;have B3:=aC h3;have N8':=aC ((h3.block _ (aA N8.out)).trans N8.out);have N9':=aC ((h3.block _ (aA N9.out)).trans N9.out);clear h3)
     have HB4:=aC (aE HBW.out (aE HK2.out B3.out lz9) (by have:=HBW.out.size;omega))
     obtain⟨x0,x1,x2,x3,x4,x5⟩:=(show BoxN W3 b8 ta.f from N8'.out).six
     obtain⟨y0,y1,y2,y3,y4,y5⟩:=(show BoxN W3 b9 tb.f from N9'.out).six
     simp only [Nat.zero_add] at x1 x2 x3 x4 x5 y1 y2 y3 y4 y5
     clear a4 d4 N8 N9 AK HK2 B3 N8' N9'
     obtain⟨S,hS⟩:∃ S:Bool,(S=true ↔ sig ta=sig tb):=by
      by_cases h:sig ta=sig tb
      ·exact⟨true,⟨fun _=>h,fun _=>rfl⟩⟩
      ·exact⟨false,⟨fun z=>(by cases z),fun z=>absurd z h⟩⟩
     have HSS:=aC hS
     clear hS
     go_cut [84] (fun u wx=>u=.bool (!S)/\wx=W3)
     case first=>
      by_cases hk:ta.f.k=tb.f.k
      case neg=>
       have ek:(ta.f.k != tb.f.k)=true:=by simpa using hk
       have HF:=aC (show S=false from Bool.eq_false_iff.2 fun z0=>(fun z=>hk ((SG.out.1 z).1)) (HSS.out.1 z0))
       clear hk
       go_wp2
       go_meet
       exact⟨by rw [HF.out];rfl,rfl⟩
      have ek:(ta.f.k != tb.f.k)=false:=by simpa using hk
      have Hk9:=aC hk
      clear hk
      by_cases hn:ta.f.n=tb.f.n
      case neg=>
       have en:(ta.f.n != tb.f.n)=true:=by simpa using hn
       have HF:=aC (show S=false from Bool.eq_false_iff.2 fun z0=>(fun z=>hn ((SG.out.1 z).2.1)) (HSS.out.1 z0))
       clear hn
       go_wp2
       go_meet
       exact⟨by rw [HF.out];rfl,rfl⟩
      have en:(ta.f.n != tb.f.n)=false:=by simpa using hn
      have Hn9:=aC hn
      clear hn
      by_cases hm:ta.f.mn=tb.f.mn
      case neg=>
       have em:(ta.f.mn != tb.f.mn)=true:=by simpa using hm
       have HF:=aC (show S=false from Bool.eq_false_iff.2 fun z0=>(fun z=>hm ((SG.out.1 z).2.2.1)) (HSS.out.1 z0))
       clear hm
       go_wp2
       go_meet
       exact⟨by rw [HF.out];rfl,rfl⟩
      have em:(ta.f.mn != tb.f.mn)=false:=by simpa using hm
      have Hm9:=aC hm
      clear hm
      by_cases hx:ta.f.mx=tb.f.mx
      case neg=>
       have ex:(ta.f.mx != tb.f.mx)=true:=by simpa using hx
       have HF:=aC (show S=false from Bool.eq_false_iff.2 fun z0=>(fun z=>hx ((SG.out.1 z).2.2.2.1)) (HSS.out.1 z0))
       clear hx
       go_wp2
       go_meet
       exact⟨by rw [HF.out];rfl,rfl⟩
      have ex:(ta.f.mx != tb.f.mx)=false:=by simpa using hx
      have Hx9:=aC hx
      clear hx
      cases rr with
      | false=>
       have HF:=aC (show S=false from Bool.eq_false_iff.2 fun z0=>(fun z=>(of_decide_eq_false HRR.out) ((SG.out.1 z).2.2.2.2.1)) (HSS.out.1 z0))
       go_wp2
       go_meet
       exact⟨by rw [HF.out];rfl,rfl⟩
      | true=>
       by_cases hl:ta.f.kl=tb.f.kl
       ·have el:((ta.f.kl:Int) != (tb.f.kl:Int))=false:=by simp;omega
        have HF:=aC (show S=true from HSS.out.2 (SG.out.2 ⟨Hk9.out,Hn9.out,Hm9.out,Hx9.out,of_decide_eq_true HRR.out,hl⟩))
        clear hl
        go_wp2
        go_meet
        exact⟨by rw [HF.out];rfl,rfl⟩
       ·have el:((ta.f.kl:Int) != (tb.f.kl:Int))=true:=by simp;omega
        have HF:=aC (show S=false from Bool.eq_false_iff.2 fun z0=>(fun z=>hl ((SG.out.1 z).2.2.2.2.2)) (HSS.out.1 z0))
        clear hl
        go_wp2
        go_meet
        exact⟨by rw [HF.out];rfl,rfl⟩
     case rest=>
      obtain⟨rfl,hW⟩:=hcut
      subst hW
      cases S with
      | true=>
       have HN:=aC (SN.out (HSS.out.1 rfl))
       go_wp2
       go_roundw
       case rel=>exact⟨j+1,by omega,by go_num,HB4.out,HN.out⟩
       case measure=>simp only [intOf];omega
      | false=>
       have HF:=aC (SD.out fun z=>by have:=HSS.out.2 z;cases this)
       go_wp2
       go_ret
       exact⟨by rw [HF.out];rfl,aE B8.out HB4.out lz9⟩
    ·have i0:¬ (j:Int) < (ZA.length:Int):=by omega
     have HF:=aC (show R=true by
      rw [HQ.out]
      refine(pI a b).2 ?_
      have h:=HSG.out
      have la:(sgs (pp [] a)).length=ZA.length:=by rw [<- HEA.out];simp [sgs]
      have lb:(sgs (pp [] b)).length=ZB.length:=by rw [<- HEB.out];simp [sgs]
      have:=HNE.out
      rwa [List.take_of_length_le (by omega),List.take_of_length_le (by omega)] at h)
     go_wp2
     go_ret
     exact⟨by rw [HF.out];rfl,aE B8.out HBW.out lz9⟩
 ·have e0:((ZA.length:Int) != (ZB.length:Int))=true:=by simp;omega
  have HF:=aC (HR.out.symm.trans (aK9 (.inl (by rw [<- HZA.out,<- HZB.out];exact hne))))
  clear hne
  go_wp2
  go_ret
  exact⟨by rw [HF.out];rfl,B8.out⟩
section
attribute [local go_sem] aR
abbrev aB8(w:World)(m:Md):World:=w.alloc (.cells #[.bool m.c,.bool m.f] 23)
theorem uL{a b:Tr}(h:er a=er b)(hs:a.sz<=2000):rsB a b=true:=by
 have hb:b.sz=a.sz:=by rw [<- wJ,<- wJ,h]
 have ca:jE a=a.sz:=by unfold jE;rw [tD];omega
 have cb:jE b=b.sz:=by unfold jE;rw [tD];omega
 rw [(aL0 (a:=a) (b:=b) (by omega) (by omega)).1,h]
 exact xG _
structure LRW(w:World)(wb:Nat)(m:Md)(tw:Tr)(W:World):Prop where
 bel:Below w.heap.size w W
 md:W.heap[w.heap.size]?=some (.cells #[.bool m.c,.bool m.f] 23 (0,0))
 box:BoxN W wb tw.f
 ta:TA W tw
theorem LRW.kept{w:World}{wb:Nat}{m:Md}{tw:Tr}{W W':World}(h:LRW w wb m tw W)(hb:Below W.heap.size W W'):LRW w wb m tw W':=
 ⟨aE h.bel hb lz9,(hb.block _ (aA h.md)).trans h.md,h.box.kept hb,h.ta.kept hb⟩
theorem kP{w:World}(hG:Glb w)(s:ByteArray)(m:Md){c a:Nat}(hr:∀ W,Calls Tryz.prog 19 #[.string s,.agg #[.bool m.c,.bool m.f]] W (oG W c a))(hp:∀ W,Below w.heap.size w W->Calls Tryz.prog 9 #[.string s,.agg #[.bool m.c,.bool m.f]] W (fN W c a)) :
  Calls Tryz.prog 7 #[.string s,.agg #[.bool m.c,.bool m.f]] w fun e w'=>e=.returned (.bool true)/\Below w.heap.size w w':=by
 have BX:Hid (Below w.heap.size w (aB8 w m)):=bz9
 have MX:Hid ((aB8 w m).heap[w.heap.size]?=some (.cells #[.bool m.c,.bool m.f] 23 (0,0))):=aG w _
 have HE:=aC (oF (hG.kept BX.out))
 have HR:=aC hr
 have HP:=aC hp
 have ne0:((c:Int) != (c:Int))=false:=by simp
 have ne1:((a:Int) != (a:Int))=false:=by simp
 clear hG hr hp
 go_enter Tryz.func7,Tryz.ntmps7
 go_upto_region 4 with first
  |(go_at_call 8;(with_reducible refine(HE.out).mono ?_);rintro e w5 ⟨rfl,h1⟩;have X5:=aC (aE BX.out h1 lz9);have M5:=aC ((h1.block _ (aA MX.out)).trans MX.out);have c0:=aB M5.out (i:=0) rfl;have c1:=aB M5.out (i:=1) rfl;have l5:=aA M5.out;clear h1)
  |(go_at_call 19;(with_reducible refine(HR.out w5).mono ?_);rintro e w6 ⟨rfl,h1⟩;have b6:=((Below.refl w6.heap.size w6).alloc lz9 aX);have B6:=aC (aE h1 b6 lz9);have N6:Hid (BoxN (w6.alloc aX) w6.heap.size (Tr.f (.mk (bare 0) []))):=aG w6 _;have T6:Hid (TA (w6.alloc aX) (.mk (bare 0) [])):=lF _ 0;clear h1 b6)
 have L6:=aC (LRW.kept (w:=w) (m:=m) ⟨aE X5.out B6.out lz9,(B6.out.block _ l5).trans M5.out,N6.out,T6.out⟩ (Below.refl _ _))
 generalize w6.alloc aX=W6 at L6 ⊢
 generalize w6.heap.size=wb at L6 ⊢
 clear c0 c1 l5
 go_loopw [9] (fun i wr=>∃ j:Nat,j<=2/\i=.int .i64 (j:Int)/\LRW w wb m (.mk (bare 0) []) wr) (fun i _=>2 - (intOf i).toNat)
 case atStart=>exact⟨0,by omega,rfl,L6.out⟩
 case round=>
  obtain⟨j,hj,rfl,hL⟩:=hrel
  have HL:=aC hL
  clear hL
  by_cases hj2:j < 2
  ·have i0:(j:Int) < 2:=by omega
   have c0:=aB HL.out.md (i:=0) rfl
   have c1:=aB HL.out.md (i:=1) rfl
   have l5:=aA HL.out.md
   have PC:=aC (HP.out wr HL.out.bel)
   go_wp2_with first
    |(go_at_call 9;(with_reducible refine(PC.out).mono ?_);rintro e w7 ⟨g7,h1,rfl,h2,h3⟩;have B7:=aC h3;have G7:Hid (bL (w7.alloc aX) g7 c a):=((bz9).block _ (aA h2)).trans h2;have T7:Hid (TA w7 (.mk (bare 0) [])):=lF _ 0;clear h1 h2 h3;have N8:BoxN (w7.alloc aX) w7.heap.size (Tr.f (.mk (bare 0) [])):=aG w7 _;have HN8:=aC N8;have b8:=(Below.refl w7.heap.size w7).alloc lz9 aX;have B8:=aC (aE B7.out b8 lz9);have T8:=aC (T7.out.kept b8);clear N8 b8)
    |(go_at_call 10;(with_reducible refine(rB G7.out).mono ?_);rintro e w9 ⟨rfl,h1⟩;have B9:=aC (aE B8.out h1 lz9);have T9:=aC (T8.out.kept h1);have N9:=aC (HN8.out.kept h1);have L9:=aC (HL.out.kept B9.out);have SC0:=aK7 T9.out L9.out.ta;rw [uL (a:=.mk (bare 0) []) (b:=.mk (bare 0) []) rfl (by rw [lK];show szs []+1<=2000;rw [fR];omega)] at SC0;have SC:=aC SC0;have n9:=aA N9.out;obtain⟨n0,n1,n2,n3,n4,n5⟩:=N9.out.six;simp only [Nat.zero_add] at n1 n2 n3 n4 n5;have k9:=aA L9.out.box;obtain⟨k0,k1,k2,k3,k4,k5⟩:=L9.out.box.six;simp only [Nat.zero_add] at k1 k2 k3 k4 k5;clear h1 SC0)
    |(go_at_call 20;(with_reducible refine(SC.out).mono ?_);rintro e wA ⟨rfl,h1⟩;have BA:=aC (aE B9.out h1 lz9);have SA0:=aC (aJ3 (Tr.mk (bare 0) []).sz (.mk (bare 0) []) (fun k=>wr.heap.size<=k) wA lz9 ((T9.out.kept h1).sa (nW _ 0)));have NA0:=N9.out.kept h1;have nA:=aA NA0;obtain⟨a0,a1,a2,a3,a4,a5⟩:=NA0.six;simp only [Nat.zero_add] at a1 a2 a3 a4 a5;clear h1 NA0)
    |(go_at_call 21;(with_reducible refine(SA0.out).mono ?_);rintro e wB ⟨rfl,h1⟩;have BB:=aC (bM BA.out h1.fr lz9 (fun k hk=>hk));clear h1)
   go_roundw
   case rel=>exact⟨j+1,by omega,by go_num,HL.out.kept BB.out⟩
   case measure=>simp only [intOf];omega
  ·have i0:¬ (j:Int) < 2:=by omega
   go_wp2
   go_ret
   exact⟨rfl,HL.out.bel⟩
theorem aM4{w:World}(hG:Glb w)(s:ByteArray)(m:Md){x:Ps}(hsz:x.sz<=2000)(hr:∀ W,Calls Tryz.prog 19 #[.string s,.agg #[.bool m.c,.bool m.f]] W (bG5 W x))(hp:∀ W,Below w.heap.size w W->Calls Tryz.prog 9 #[.string s,.agg #[.bool m.c,.bool m.f]] W (oY W x)) :
  Calls Tryz.prog 7 #[.string s,.agg #[.bool m.c,.bool m.f]] w fun e w'=>e=.returned (.bool true)/\Below w.heap.size w w':=by
 have BX:Hid (Below w.heap.size w (aB8 w m)):=bz9
 have MX:Hid ((aB8 w m).heap[w.heap.size]?=some (.cells #[.bool m.c,.bool m.f] 23 (0,0))):=aG w _
 have HE:=aC (oF (hG.kept BX.out))
 have HR:=aC hr
 have HP:=aC hp
 have HSZ:=aC hsz
 clear hsz
 clear hG hr hp
 go_enter Tryz.func7,Tryz.ntmps7
 go_upto_region 4 with first
  |(go_at_call 8;(with_reducible refine(HE.out).mono ?_);rintro e w5 ⟨rfl,h1⟩;have X5:=aC (aE BX.out h1 lz9);have M5:=aC ((h1.block _ (aA MX.out)).trans MX.out);have c0:=aB M5.out (i:=0) rfl;have c1:=aB M5.out (i:=1) rfl;have l5:=aA M5.out;clear h1)
  |(go_at_call 19;(with_reducible refine(HR.out w5).mono ?_);rintro e w6 ⟨t6,rfl,h1,h2,h3⟩;have b6:=((Below.refl w6.heap.size w6).alloc lz9 (.cells #[.int .i64 t6.f.k,.int .i64 t6.f.n,.int .i64 t6.f.mn,.int .i64 t6.f.mx,.slice t6.f.rq t6.f.rs.length t6.f.rc,.slice t6.f.kq t6.f.kl t6.f.kc] 28));have B6:=aC (aE h3 b6 lz9);have N6:Hid (BoxN (w6.alloc (.cells #[.int .i64 t6.f.k,.int .i64 t6.f.n,.int .i64 t6.f.mn,.int .i64 t6.f.mx,.slice t6.f.rq t6.f.rs.length t6.f.rc,.slice t6.f.kq t6.f.kl t6.f.kc] 28)) w6.heap.size t6.f):=aG w6 _;have T6:=aC (h1.kept b6);have E6:=aC h2;clear h1 h2 h3 b6)
 have L6:=aC (LRW.kept (w:=w) (m:=m) ⟨aE X5.out B6.out lz9,(B6.out.block _ l5).trans M5.out,N6.out,T6.out⟩ (Below.refl _ _))
 generalize w6.alloc (.cells #[.int .i64 t6.f.k,.int .i64 t6.f.n,.int .i64 t6.f.mn,.int .i64 t6.f.mx,.slice t6.f.rq t6.f.rs.length t6.f.rc,.slice t6.f.kq t6.f.kl t6.f.kc] 28)=W6 at L6 ⊢
 generalize w6.heap.size=wb at L6 ⊢
 clear c0 c1 l5
 go_loopw [9] (fun i wr=>∃ j:Nat,j<=2/\i=.int .i64 (j:Int)/\LRW w wb m t6 wr) (fun i _=>2 - (intOf i).toNat)
 case atStart=>exact⟨0,by omega,rfl,L6.out⟩
 case round=>
  obtain⟨j,hj,rfl,hL⟩:=hrel
  have HL:=aC hL
  clear hL
  by_cases hj2:j < 2
  ·have i0:(j:Int) < 2:=by omega
   have c0:=aB HL.out.md (i:=0) rfl
   have c1:=aB HL.out.md (i:=1) rfl
   have l5:=aA HL.out.md
   have PC:=aC (HP.out wr HL.out.bel)
   go_wp2_with first
    |(go_at_call 9;(with_reducible refine(PC.out).mono ?_);rintro e w7 ⟨t7,rfl,h1,h2,h3,h4⟩;have B7:=aC h4;have T7:=aC h1;have E7:=aC h2;have FT7:=aC h3;have N8:BoxN (w7.alloc (.cells #[.int .i64 t7.f.k,.int .i64 t7.f.n,.int .i64 t7.f.mn,.int .i64 t7.f.mx,.slice t7.f.rq t7.f.rs.length t7.f.rc,.slice t7.f.kq t7.f.kl t7.f.kc] 28)) w7.heap.size t7.f:=aG w7 _;have HN8:=aC N8;have b8:=(Below.refl w7.heap.size w7).alloc lz9 (.cells #[.int .i64 t7.f.k,.int .i64 t7.f.n,.int .i64 t7.f.mn,.int .i64 t7.f.mx,.slice t7.f.rq t7.f.rs.length t7.f.rc,.slice t7.f.kq t7.f.kl t7.f.kc] 28);have B8:=aC (aE B7.out b8 lz9);have T8:=aC (T7.out.kept b8);clear N8 b8 h1 h2 h3 h4)
    |(go_at_call 10;(with_reducible refine(aC1 _).mono ?_);rintro e w9 ⟨rfl,h1⟩;have B9:=aC (aE B8.out h1 lz9);have T9:=aC (T8.out.kept h1);have N9:=aC (HN8.out.kept h1);have L9:=aC (HL.out.kept B9.out);have SC0:=aK7 T9.out L9.out.ta;rw [uL (E7.out.trans E6.out.symm) (by rw [<- wJ,E7.out,aI9];exact HSZ.out)] at SC0;have SC:=aC SC0;have n9:=aA N9.out;obtain⟨n0,n1,n2,n3,n4,n5⟩:=N9.out.six;simp only [Nat.zero_add] at n1 n2 n3 n4 n5;have k9:=aA L9.out.box;obtain⟨k0,k1,k2,k3,k4,k5⟩:=L9.out.box.six;simp only [Nat.zero_add] at k1 k2 k3 k4 k5;clear h1 SC0)
    |(go_at_call 20;(with_reducible refine(SC.out).mono ?_);rintro e wA ⟨rfl,h1⟩;have BA:=aC (aE B9.out h1 lz9);have SA0:=aC (aJ3 t7.sz t7 (fun k=>wr.heap.size<=k) wA lz9 ((T9.out.kept h1).sa FT7.out));have NA0:=N9.out.kept h1;have nA:=aA NA0;obtain⟨a0,a1,a2,a3,a4,a5⟩:=NA0.six;simp only [Nat.zero_add] at a1 a2 a3 a4 a5;clear h1 NA0)
    |(go_at_call 21;(with_reducible refine(SA0.out).mono ?_);rintro e wB ⟨rfl,h1⟩;have BB:=aC (bM BA.out h1.fr lz9 (fun k hk=>hk));clear h1)
   go_roundw
   case rel=>exact⟨j+1,by omega,by go_num,HL.out.kept BB.out⟩
   case measure=>simp only [intOf];omega
  ·have i0:¬ (j:Int) < 2:=by omega
   go_wp2
   go_ret
   exact⟨rfl,HL.out.bel⟩
theorem yL{w:World}(hG:Glb w)(s:ByteArray)(m:Md) :
  Calls Tryz.prog 7 #[.string s,.agg #[.bool m.c,.bool m.f]] w fun e w'=>e=.returned (.bool true)/\Below w.heap.size w w':=by
 have hends:=nL m s
 cases hl:gB m s with
 | error y=>
  obtain⟨c,a⟩:=y
  rw [hl] at hends
  obtain⟨h1,h2⟩:=hends
  exact kP hG s m (c:=c) (a:=a) (fun W=>xK s m hl (by omega)) (fun W hW=>aF0 (hG.kept hW) s m hl)
 | ok T=>
  rw [hl] at hends
  have hst:Stands s T s.size:=hends
  cases hh:dC T with
  | some y=>
   obtain⟨c,a⟩:=y
   have:=aX9 hst hh
   exact kP hG s m (c:=c) (a:=a) (fun W=>uN s m hl hh (by omega)) (fun W hW=>iZ (hG.kept hW) s m hl hh)
  | none=>
   obtain⟨x,hw,hx⟩:=aS4 hl hh
   have PT:∀ W,Below w.heap.size w W->Calls Tryz.prog 9 #[.string s,.agg #[.bool m.c,.bool m.f]] W (fT W x):=fun W hW=>pR (hG.kept hW) s m hl hh hw hx
   have RT:∀ W,Calls Tryz.prog 19 #[.string s,.agg #[.bool m.c,.bool m.f]] W (qN W x):=fun W=>uM s m hl hh hw hx
   unfold fT at PT
   unfold qN at RT
   by_cases hd:40 < x.dp
   ·simp only [if_pos hd] at PT RT
    exact kP hG s m (c:=43) (a:=0) RT PT
   ·simp only [if_neg hd] at PT RT
    by_cases hn:2000 < x.sz
    ·simp only [if_pos hn] at PT RT
     exact kP hG s m (c:=42) (a:=0) RT PT
    ·simp only [if_neg hn] at PT RT
     exact aM4 hG s m (x:=x) (by omega) RT PT
end
end Go.Proofs.YtpfdapnfkghgkaaGreatDoor
