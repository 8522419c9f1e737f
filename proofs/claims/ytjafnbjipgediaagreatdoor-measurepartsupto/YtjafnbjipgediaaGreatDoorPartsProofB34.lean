/-
  Parts of the proof.
-/
import Derived.Test.YtjafnbjipgediaaGreatDoorPartsProofB33
import Derived.Test.YtjafnbjipgediaaGreatDoorPartsProofB17
import Derived.Test.YtjafnbjipgediaaGreatDoorPartsProofB3
import Derived.Test.YtjafnbjipgediaaGreatDoorPartsProofB2
import Derived.Deep.Slices
import Derived.Deep.SlicePairs
import Derived.ChangeSame
import Derived.SizedLaws
import Derived.Test.YtjafnbjipgediaaGreatDoorRows
set_option maxRecDepth 100000
set_option maxHeartbeats 8000000
namespace Go.Proofs.YtjafnbjipgediaaGreatDoor
open Go Go.RowKit
section
open Go Go.RowKit Go.Shelf
attribute [local go_sem] Oper.semAt_some aZ
noncomputable def szK (c o:Bool) (u:Tr):Int:=tvI (dY c) c o u
noncomputable def loK (c o:Bool) (u:Tr):Int:=(tvW (bS c) c o u).1
theorem qS{c o:Bool}{t:Tr}(hr:aS c o 0 0 (pp [] t)=0)(hg:bG (pp [] t)=0)(hk:t.f.k=5\/t.f.k=6) :
  (∀ u∈t.ks,(0<=szK c o u/\szK c o u<=10001)/\0<=loK c o u/\loK c o u<=1000000)/\szK c o t=min ((t.ks.length:Int)+(t.ks.map (szK c o)).sum) 10001/\(t.f.k=5->loK c o t=min ((t.ks.map (loK c o)).sum) 1000000)/\(t.f.k=6->loK c o t=min (dS (t.ks.map (loK c o))) 1000000):=by
 have hnp:=fK hr
 have hsz:=fJ hr
 have hE:bQ (fun u=>u.f.k≠8) t:=vA t [] (rA hr hg)
 have hS:∀ u∈t.ks,szK c o u=sG c u:=fun u hu=>by
  unfold szK
  rw [aE1,if_pos (qX hu hr hg).1]
 have hW:∀ u∈t.ks,tvW (bS c) c o u=evG (bS c) (fun _=>(0,0)) u:=fun u hu=>by
  unfold tvW
  rw [if_pos (qX hu hr hg).1]
  exact yO (oT c) _ u _ (bD hE hu)
 have hGW:∀ u∈t.ks,bV (evG (bS c) (fun _=>(0,0)) u):=fun u hu=>aI6 (fun t xs g=>kP (c:=c) (o:=o) t xs g) (fun _=>eW) u (bD hnp hu)
 have hx:∀ x∈t.ks.map (evG (bS c) (fun _=>(0,0))),bV x:=fun x hx=>by
  obtain⟨u,hu,rfl⟩:=List.mem_map.1 hx
  exact hGW u hu
 have hlo:t.ks.map (loK c o)=(t.ks.map (evG (bS c) (fun _=>(0,0)))).map (·.1):=by
  rw [List.map_map]
  refine List.map_congr_left fun u hu=>?_
  show (tvW (bS c) c o u).1=_
  rw [hW u hu]
  rfl
 have hT:tvW (bS c) c o t=bS c t.f t.ks (t.ks.map (evG (bS c) (fun _=>(0,0)))) (fun _=>(0,0)):=by
  unfold tvW
  rw [if_pos hr,yO (oT c) (fun _=>(0,0)) t _ hE,sS,pD]
 have hmany:=sJ ((aX t).1 hnp).1 hk
 have hxl:(t.ks.map (evG (bS c) (fun _=>(0,0)))).length=t.ks.length:=by rw [List.length_map]
 generalize t.ks.map (evG (bS c) (fun _=>(0,0)))=xs at hx hlo hT hxl
 refine⟨fun u hu=>⟨?_,?_⟩,?_,fun h5=>?_,fun h6=>?_⟩
 ·rw [hS u hu]
  exact xO c o u.sz u lz9 (by have:=dW hu;omega) (bD hnp hu)
 ·show 0<=(tvW (bS c) c o u).1/\(tvW (bS c) c o u).1<=1000000
  rw [hW u hu]
  exact(hGW u hu).1
 ·have e:t.ks.map (szK c o)=t.ks.map (sG c):=List.map_congr_left hS
  show tvI (dY c) c o t=_
  rw [aE1,if_pos hr,aF3,e]
  unfold cU
  rw [if_neg (by omega),if_pos hk,List.length_map]
 ·show (tvW (bS c) c o t).1=_
  rw [hT,hlo]
  unfold bS
  rw [if_neg (by omega),if_pos h5]
  rcases rE _ (0,0) (by simp) hx with e | ⟨e,-⟩
  ·rw [e];simp
  ·rw [e] at hxl
   simp at hxl
   omega
 ·obtain⟨x0,hx0⟩:∃ x,xs[0]?=some x:=⟨_,List.getElem?_eq_getElem (by omega)⟩
  have hg2:bV (tvW (bS c) c o t):=by
   rw [hT]
   exact kP (o:=o) t _ _ ((aX t).1 hnp).1 hxl hx (fun _=>eW)
  have e:(tvW (bS c) c o t).1=dS (t.ks.map (loK c o)):=by
   rw [hT,hlo,<- aC4 hx0 hx]
   unfold bS
   rw [if_neg (by omega),if_neg (by omega),if_pos h6,aH9 hx0]
  show (tvW (bS c) c o t).1=_
  rw [<- e]
  have:=hg2.1
  omega
theorem rY(l:List Int){a:Int}(h:∀ x∈l,0<=x/\x<=a):0<=l.sum/\l.sum<=a * (l.length:Int):=by
 induction l with
 | nil=>simp
 | cons x l ih=>
  have h1:=h x List.mem_cons_self
  have h2:=ih (fun y hy=>h y (List.mem_cons_of_mem _ hy))
  have e:a * ((x :: l).length:Int)=a * (l.length:Int)+a:=by rw [List.length_cons,Int.natCast_add,Int.mul_add];simp
  rw [List.sum_cons,e]
  omega
theorem yB:∀ (l:List Int),(∀ x∈l,0<=x/\x<=1000000)->-1<=dS l/\dS l<=1000000:=by
 have key:∀ (l:List Int) (a:Int),-1<=a->a<=1000000->(∀ x∈l,0<=x/\x<=1000000)->-1<=l.foldl (fun a x=>if a < 0\/x < a then x else a) a/\l.foldl (fun a x=>if a < 0\/x < a then x else a) a<=1000000:=by
  intro l
  induction l with
  | nil=>intro a h1 h2 _;exact⟨h1,h2⟩
  | cons x l ih=>
   intro a h1 h2 hl
   have hx:=hl x List.mem_cons_self
   rw [List.foldl_cons]
   refine ih _ ?_ ?_ (fun y hy=>hl y (List.mem_cons_of_mem _ hy))
   ·split <;> omega
   ·split <;> omega
 exact fun l hl=>key l (-1) (by omega) (by omega) hl
theorem uQ{w:World}{t:Tr}(c o:Bool)(hT:TB w t)(hf:∀ x∈pp [] t,x.2.f.rs.length<=1048576)(hG:GloS w) :
  Calls Tryz.prog 5 #[.agg #[.int .i64 t.f.k,.int .i64 t.f.n,.int .i64 t.f.mn,.int .i64 t.f.mx,.slice t.f.rq t.f.rs.length t.f.rc,.slice t.f.kq t.f.kl t.f.kc],.agg #[.bool c,.bool o]] w fun e w'=>e=.returned (.bool true)/\Below w.heap.size w w':=by
 have hsm:Sm t:=fun x hx=>Nat.le_trans (hf x hx) (by omega)
 have X1:Hid (Bx2 w ((w.alloc (.cells #[.int .i64 t.f.k,.int .i64 t.f.n,.int .i64 t.f.mn,.int .i64 t.f.mx,.slice t.f.rq t.f.rs.length t.f.rc,.slice t.f.kq t.f.kl t.f.kc] 25)).alloc (.cells #[.bool c,.bool o] 27)) t.f c o):=⟨(bz9).alloc (by simp) _,(Below.heap_alloc _ _ _ (by simp)).trans (aE w _),aI _ (by simp only [World.size_alloc])⟩
 have EX:Hid (∀ W,Below w.heap.size w W->Calls Tryz.prog 9 #[] W fun e w'=>e=.returned (.bool true)/\Below W.heap.size W w'):=fun W hW=>sQ (GloS.ck (CK.of_below hW) hG)
 have PF:Hid (∀ W,Below w.heap.size w W->Calls Tryz.prog 22 #[.agg #[.int .i64 t.f.k,.int .i64 t.f.n,.int .i64 t.f.mn,.int .i64 t.f.mx,.slice t.f.rq t.f.rs.length t.f.rc,.slice t.f.kq t.f.kl t.f.kc],.agg #[.bool c,.bool o]] W fun e w'=>e=.returned (.bool (frV c o t))/\Below W.heap.size W w'):=fun W hW=>pR c o (hT.kept hW)
 have PU:Hid (∀ W,Below w.heap.size w W->Calls Tryz.prog 23 #[.agg #[.int .i64 t.f.k,.int .i64 t.f.n,.int .i64 t.f.mn,.int .i64 t.f.mx,.slice t.f.rq t.f.rs.length t.f.rc,.slice t.f.kq t.f.kl t.f.kc],.agg #[.bool c,.bool o]] W (fun e w'=>(∃ (q:Option Addr) (k:Nat),e=.returned (.slice q (usV c o t).length k))/\Below W.heap.size W w')):=fun W hW=>(vO c o (hT.kept hW)).mono (by
  rintro e w' ⟨q,k,h1,h2,h3⟩
  exact⟨⟨q,k,h1⟩,h3⟩)
 have DR:Hid (∀ W,Below w.heap.size w W->Calls Tryz.prog 10 #[.agg #[.int .i64 t.f.k,.int .i64 t.f.n,.int .i64 t.f.mn,.int .i64 t.f.mx,.slice t.f.rq t.f.rs.length t.f.rc,.slice t.f.kq t.f.kl t.f.kc],.agg #[.bool c,.bool o]] W fun e w'=>e=.returned (.int .i64 (aS c o 0 0 (pp [] t)))/\Below W.heap.size W w'):=fun W hW=>aM1 c o (hT.kept hW) hsm
 have PW:Hid (∀ W,Below w.heap.size w W->Calls Tryz.prog 12 #[.agg #[.int .i64 t.f.k,.int .i64 t.f.n,.int .i64 t.f.mn,.int .i64 t.f.mx,.slice t.f.rq t.f.rs.length t.f.rc,.slice t.f.kq t.f.kl t.f.kc],.agg #[.bool c,.bool o]] W fun e w'=>e=.returned (.tuple #[.int .i64 (tvW (bS c) c o t).1,.int .i64 (tvW (bS c) c o t).2])/\Below W.heap.size W w'):=fun W hW=>jA c o (hT.kept hW)
 have PS:Hid (∀ W,Below w.heap.size w W->Calls Tryz.prog 24 #[.agg #[.int .i64 t.f.k,.int .i64 t.f.n,.int .i64 t.f.mn,.int .i64 t.f.mx,.slice t.f.rq t.f.rs.length t.f.rc,.slice t.f.kq t.f.kl t.f.kc],.agg #[.bool c,.bool o]] W fun e w'=>e=.returned (.int .i64 (tvI (dY c) c o t))/\Below W.heap.size W w'):=fun W hW=>mK c o (hT.kept hW)
 have PP:Hid (∀ W,Below w.heap.size w W->Calls Tryz.prog 16 #[.agg #[.int .i64 t.f.k,.int .i64 t.f.n,.int .i64 t.f.mn,.int .i64 t.f.mx,.slice t.f.rq t.f.rs.length t.f.rc,.slice t.f.kq t.f.kl t.f.kc],.agg #[.bool c,.bool o]] W fun e w'=>e=.returned (.string (tvO (dM c) c o t).1)/\Below W.heap.size W w'):=fun W hW=>pP c o (hT.kept hW)
 have DG:Hid (∀ W,Below w.heap.size w W->Calls Tryz.prog 25 #[.agg #[.int .i64 t.f.k,.int .i64 t.f.n,.int .i64 t.f.mn,.int .i64 t.f.mx,.slice t.f.rq t.f.rs.length t.f.rc,.slice t.f.kq t.f.kl t.f.kc]] W fun e w'=>e=.returned (.int .i64 ((if 2000 < (pp [] t).length then 0 else bG (pp [] t):Nat):Int))/\Below W.heap.size W w'):=fun W hW=>zP (hT.kept hW)
 have HTA:=aD hT
 obtain⟨r,hr⟩:∃ r,aS c o 0 0 (pp [] t)=r:=⟨_,rfl⟩
 rw [hr] at DR
 have HR:=aD hr
 clear hT hf hG hsm hr
 go_enter Tryz.func5,Tryz.ntmps5
 go_upto_region 1 with fail
 generalize ((w.alloc (.cells #[.int .i64 t.f.k,.int .i64 t.f.n,.int .i64 t.f.mn,.int .i64 t.f.mx,.slice t.f.rq t.f.rs.length t.f.rc,.slice t.f.kq t.f.kl t.f.kc] 25)).alloc (.cells #[.bool c,.bool o] 27))=w1 at X1 ⊢
 go_upto_region 2 with (go_at_call 9;refine(EX.out _ X1.out.1).mono ?_;rintro e w2 ⟨rfl,h2⟩;have X2:=aD (X1.out.kept h2);clear h2)
 obtain⟨n0,n1,n2,n3,n4,n5⟩:=X2.out.2.1.six
 simp only [Nat.zero_add] at n1 n2 n3 n4 n5
 have a0:=aA X2.out.2.2 (i:=0) rfl
 have a1:=aA X2.out.2.2 (i:=1) rfl
 go_upto_region 3 with (go_at_call 22;refine(PF.out _ X2.out.1).mono ?_;rintro e w3 ⟨rfl,h3⟩;have X3:=aD (X2.out.kept h3);clear h3)
 clear n0 n1 n2 n3 n4 n5 a0 a1
 obtain⟨n0,n1,n2,n3,n4,n5⟩:=X3.out.2.1.six
 simp only [Nat.zero_add] at n1 n2 n3 n4 n5
 have a0:=aA X3.out.2.2 (i:=0) rfl
 have a1:=aA X3.out.2.2 (i:=1) rfl
 go_upto_region 4 with (go_at_call 23;refine(PU.out _ X3.out.1).mono ?_;rintro e w4 ⟨⟨q4,k4,rfl⟩,h4⟩;have X4:=aD (X3.out.kept h4);clear h4)
 clear n0 n1 n2 n3 n4 n5 a0 a1
 obtain⟨n0,n1,n2,n3,n4,n5⟩:=X4.out.2.1.six
 simp only [Nat.zero_add] at n1 n2 n3 n4 n5
 have a0:=aA X4.out.2.2 (i:=0) rfl
 have a1:=aA X4.out.2.2 (i:=1) rfl
 by_cases hr0:r=0
 ·subst hr0
  have q0:((0:Int) != 0)=false:=rfl
  obtain⟨N,hN⟩:∃ N,(usV c o t).length=N:=⟨_,rfl⟩
  have HF:Hid (frV c o t=((N:Int)==0)):=aD (by rw [<- hN];unfold frV usV;rw [if_pos HR.out,if_pos HR.out])
  rw [hN,HF.out]
  have HGR:(if 2000 < (pp [] t).length then 0 else bG (pp [] t))=bG (pp [] t):=if_neg (by have:=iC HR.out;omega)
  rw [HGR] at DG
  obtain⟨g,hg⟩:∃ g,bG (pp [] t)=g:=⟨_,rfl⟩
  rw [hg] at DG
  have HGG:=aD hg
  have HNN:=aD hN
  clear hg hN HGR
  go_upto_region 7 with (go_at_call 10;refine(DR.out _ X4.out.1).mono ?_;rintro e w5 ⟨rfl,h5⟩;have X5:=aD (X4.out.kept h5);clear h5)
  clear n0 n1 n2 n3 n4 n5 a0 a1
  obtain⟨n0,n1,n2,n3,n4,n5⟩:=X5.out.2.1.six
  simp only [Nat.zero_add] at n1 n2 n3 n4 n5
  have a0:=aA X5.out.2.2 (i:=0) rfl
  have a1:=aA X5.out.2.2 (i:=1) rfl
  have y0:(((N:Int)==0)==((N:Int)==0))=true:=by simp
  by_cases hk:t.f.k=5\/t.f.k=6
  ·rcases Nat.eq_zero_or_pos g with hg | hg
   ·subst hg
    rcases hk with hk | hk
    ·have HK:=aD hk
     have VAL:=aD (qS HR.out HGG.out (.inl hk))
     have HKL:=aD (HTA.out.node.kl)
     have HLN:Hid (t.ks.length<=2000):=by have h1:=eB t.ks;have h2:=jF t;have h3:=fJ HR.out;exact aD (by omega)
     have e5:(t.f.k != 5)=false:=by rw [hk];rfl
     have e6:(t.f.k==6)=false:=by rw [hk];rfl
     have NZ:Hid (N=0):=aD (by rw [<- HNN.out];unfold usV;rw [if_pos HR.out,yL HR.out HGG.out];rfl)
     have FS:Hid (tvI (dY c) c o t=min ((t.ks.length:Int)+(t.ks.map (szK c o)).sum) 10001):=VAL.out.2.1
     have FL:Hid ((tvW (bS c) c o t).1=min ((t.ks.map (loK c o)).sum) 1000000):=VAL.out.2.2.1 HK.out
     rw [FS.out] at PS
     rw [FL.out] at PW
     have dg:decide ((0:Int) < ((0:Nat):Int))=false:=rfl
     clear hk
     go_upto_region 9 with (go_at_call 25;refine(DG.out _ X5.out.1).mono ?_;rintro e w6 ⟨rfl,h6⟩;have X6:=aD (X5.out.kept h6);clear h6)
     clear n0 n1 n2 n3 n4 n5 a0 a1
     obtain⟨n0,n1,n2,n3,n4,n5⟩:=X6.out.2.1.six
     simp only [Nat.zero_add] at n1 n2 n3 n4 n5
     rw [HKL.out] at n5
     go_upto_region 13 with fail
     clear n0 n1 n2 n3 n4 n5
     go_loopw [10,11,12,13] (fun s l m i wr=>∃ j:Nat,j<=t.ks.length/\s=.int .i64 ((t.ks.length:Int)+((t.ks.take j).map (szK c o)).sum)/\l=.int .i64 ((t.ks.take j).map (loK c o)).sum/\m=.int .i64 (dS ((t.ks.take j).map (loK c o)))/\i=.int .i64 (j:Int)/\Bx2 w wr t.f c o) (fun _ _ _ i _=>t.ks.length - (intOf i).toNat)
     case atStart=>exact⟨0,Nat.zero_le _,by simp,rfl,rfl,rfl,X6.out⟩
     case round=>
      obtain⟨j,hj,rfl,rfl,rfl,rfl,hx⟩:=hrel
      have XW:=aD hx
      clear hx
      have hln:=HLN.out
      have b1:=rY ((t.ks.take j).map (szK c o)) (a:=10001) (fun x hx=>by obtain⟨u,hu,rfl⟩:=List.mem_map.1 hx;exact(VAL.out.1 u (List.mem_of_mem_take hu)).1)
      have b2:=rY ((t.ks.take j).map (loK c o)) (a:=1000000) (fun x hx=>by obtain⟨u,hu,rfl⟩:=List.mem_map.1 hx;exact(VAL.out.1 u (List.mem_of_mem_take hu)).2)
      have b3:=yB ((t.ks.take j).map (loK c o)) (fun x hx=>by obtain⟨u,hu,rfl⟩:=List.mem_map.1 hx;exact(VAL.out.1 u (List.mem_of_mem_take hu)).2)
      have hlt1:((t.ks.take j).map (szK c o)).length<=2000:=by rw [List.length_map,List.length_take];omega
      have hlt2:((t.ks.take j).map (loK c o)).length<=2000:=by rw [List.length_map,List.length_take];omega
      have c1:((t.ks.take j).map (szK c o)).sum<=20002000:=by omega
      have c2:((t.ks.take j).map (loK c o)).sum<=2000000000:=by omega
      have hA:Hid (∀ u,t.ks[j]?=some u->((t.ks.take (j+1)).map (szK c o)).sum=((t.ks.take j).map (szK c o)).sum+szK c o u/\((t.ks.take (j+1)).map (loK c o)).sum=((t.ks.take j).map (loK c o)).sum+loK c o u/\dS ((t.ks.take (j+1)).map (loK c o))=if dS ((t.ks.take j).map (loK c o)) < 0\/loK c o u < dS ((t.ks.take j).map (loK c o)) then loK c o u else dS ((t.ks.take j).map (loK c o))):=fun u hu=>⟨lE hu,lE hu,by rw [List.take_add_one,hu,Option.toList_some,List.map_append];exact qT _ _⟩
      have hB:Hid (j=t.ks.length->((t.ks.take j).map (szK c o)).sum=(t.ks.map (szK c o)).sum/\((t.ks.take j).map (loK c o)).sum=(t.ks.map (loK c o)).sum/\dS ((t.ks.take j).map (loK c o))=dS (t.ks.map (loK c o))):=fun e=>by rw [e,List.take_length];exact⟨rfl,rfl,rfl⟩
      have d1:=b1.1
      have d2:=b2.1
      clear b1 b2 hlt1 hlt2
      generalize ((t.ks.take j).map (szK c o)).sum=S at hA hB c1 d1 ⊢
      generalize ((t.ks.take j).map (loK c o)).sum=L at hA hB c2 d2 ⊢
      generalize dS ((t.ks.take j).map (loK c o))=M at hA hB b3 ⊢
      obtain⟨n0,n1,n2,n3,n4,n5⟩:=XW.out.2.1.six
      simp only [Nat.zero_add] at n1 n2 n3 n4 n5
      have a0:=aA XW.out.2.2 (i:=0) rfl
      have a1:=aA XW.out.2.2 (i:=1) rfl
      have l0:=aB XW.out.2.1
      have l1:=aB XW.out.2.2
      by_cases hjl:j < t.ks.length
      ·obtain⟨u,hu⟩:∃ u,t.ks[j]?=some u:=⟨_,List.getElem?_eq_getElem hjl⟩
       have inu:u∈t.ks:=List.mem_of_getElem? hu
       obtain⟨qk,capk,f1,hm1,hcp1,hx1⟩:=((HTA.out.kept XW.out.1).node).k.slice
       injection f1 with f11 f12 f13
       obtain⟨gk,off,eq,hgk,six⟩:=hx1 j u hu
       rw [f11,HKL.out,eq] at n5
       obtain⟨k0,k1',k2,k3,k4',k5⟩:=six
       have hgr:gk < wr.heap.size:=hgk
       have i1:(j:Int) < (t.ks.length:Int):=by omega
       have hwr:IntKind.wrap .i64 ((j:Int)+1)=(j:Int)+1:=wrap_small _ (by omega) (by omega)
       obtain⟨A1,A2,A3⟩:=hA.out u hu
       have HA1:=aD A1
       have HA2:=aD A2
       have HA3:=aD A3
       have bu:=VAL.out.1 u inu
       have KS1:Hid (∀ W,Below wr.heap.size wr W->Calls Tryz.prog 24 #[.agg #[.int .i64 u.f.k,.int .i64 u.f.n,.int .i64 u.f.mn,.int .i64 u.f.mx,.slice u.f.rq u.f.rs.length u.f.rc,.slice u.f.kq u.f.kl u.f.kc],.agg #[.bool c,.bool o]] W fun e w'=>e=.returned (.int .i64 (szK c o u))/\Below W.heap.size W w'):=fun W hW=>mK c o (((HTA.out.kept XW.out.1).kid inu).kept hW)
       have KW1:Hid (∀ W,Below w.heap.size w W->Calls Tryz.prog 12 #[.agg #[.int .i64 u.f.k,.int .i64 u.f.n,.int .i64 u.f.mn,.int .i64 u.f.mx,.slice u.f.rq u.f.rs.length u.f.rc,.slice u.f.kq u.f.kl u.f.kc],.agg #[.bool c,.bool o]] W fun e w'=>e=.returned (.tuple #[.int .i64 (loK c o u),.int .i64 (tvW (bS c) c o u).2])/\Below W.heap.size W w'):=fun W hW=>jA c o ((HTA.out.kept hW).kid inu)
       generalize szK c o u=su at HA1 bu KS1
       generalize loK c o u=lu at HA2 HA3 bu KW1
       generalize (tvW (bS c) c o u).2=hu2 at KW1
       have wr1:IntKind.wrap .i64 ((t.ks.length:Int)+S+su)=(t.ks.length:Int)+S+su:=by rw [IntKind.wrap_i64];omega
       have wr2:IntKind.wrap .i64 (L+lu)=L+lu:=by rw [IntKind.wrap_i64];omega
       have wr3:wrap64 ((t.ks.length:Int)+S+su)=(t.ks.length:Int)+S+su:=by unfold wrap64;omega
       have HSIX:Hid (∀ W,Below wr.heap.size wr W->Six W gk (off+j * 6) u.f):=fun W hW=>Six.ck ⟨k0,k1',k2,k3,k4',k5⟩ (CK.of_below hW) hgr
       have HN5:Hid (∀ W,BoxN W w.heap.size t.f->W.cell? ⟨w.heap.size,5,none⟩=some (.slice (some ⟨gk,off,none⟩) t.ks.length t.f.kc)):=fun W hW=>by
        have:=hW.six.2.2.2.2.2
        simp only [Nat.zero_add] at this
        rw [f11,HKL.out,eq] at this
        exact this
       clear hu f11 f12 f13 eq hx1 hm1 hcp1 A1 A2 A3 hgk
       go_upto_region 15 with fail
       refine wx9 ?_
       repeat (go_big_quiet_step (first | exact rfl |(go_at_call 24;exact cE (KS1.out _ (gA _)))))
       refine wpQuiet_nil ?_
       intro w8 hw
       have X8:=aD (XW.out.kept (aN hw))
       obtain⟨r0,r1,r2,r3,r4,r5⟩:=HSIX.out _ (aN hw)
       have hgr8:gk < w8.heap.size:=Nat.lt_of_lt_of_le hgr (aN hw).size
       clear hw n0 n1 n2 n3 n4 n5 a0 a1 l0 l1 k0 k1' k2 k3 k4' k5
       have n5:=HN5.out _ X8.out.2.1
       have a0:=aA X8.out.2.2 (i:=0) rfl
       have a1:=aA X8.out.2.2 (i:=1) rfl
       have l0:=aB X8.out.2.1
       have l1:=aB X8.out.2.2
       have KW2:Hid (∀ W,Below w8.heap.size w8 W->Calls Tryz.prog 12 #[.agg #[.int .i64 u.f.k,.int .i64 u.f.n,.int .i64 u.f.mn,.int .i64 u.f.mx,.slice u.f.rq u.f.rs.length u.f.rc,.slice u.f.kq u.f.kl u.f.kc],.agg #[.bool c,.bool o]] W fun e w'=>e=.returned (.tuple #[.int .i64 lu,.int .i64 hu2])/\Below W.heap.size W w'):=fun W hW=>KW1.out W (aK X8.out.1 hW lz9)
       go_upto_region 16 with fail
       refine wx9 ?_
       repeat (go_big_quiet_step (first | exact rfl |(go_at_call 12;exact cE (KW2.out _ (gA _)))))
       refine wpQuiet_nil ?_
       intro w9 hw
       have X9:=aD (X8.out.kept (aN hw))
       clear hw n5 a0 a1 l0 l1 r0 r1 r2 r3 r4 r5
       by_cases hM:M < 0
       ·have HM:Hid (dS ((t.ks.take (j+1)).map (loK c o))=lu):=aD (by rw [HA3.out,if_pos (.inl hM)])
        go_wp2
        go_roundw
        case rel=>exact⟨j+1,by omega,by rw [HA1.out,<- Int.add_assoc],by rw [HA2.out],by rw [HM.out],by go_num,X9.out⟩
        case measure=>simp only [intOf];omega
       ·by_cases hM2:lu < M
        ·have HM:Hid (dS ((t.ks.take (j+1)).map (loK c o))=lu):=aD (by rw [HA3.out,if_pos (.inr hM2)])
         go_wp2
         go_roundw
         case rel=>exact⟨j+1,by omega,by rw [HA1.out,<- Int.add_assoc],by rw [HA2.out],by rw [HM.out],by go_num,X9.out⟩
         case measure=>simp only [intOf];omega
        ·have HM:Hid (dS ((t.ks.take (j+1)).map (loK c o))=M):=aD (by rw [HA3.out,if_neg (by omega)])
         go_wp2
         go_roundw
         case rel=>exact⟨j+1,by omega,by rw [HA1.out,<- Int.add_assoc],by rw [HA2.out],by rw [HM.out],by go_num,X9.out⟩
         case measure=>simp only [intOf];omega
      ·have hjl2:j=t.ks.length:=by omega
       obtain⟨B1,B2,B3⟩:=hB.out hjl2
       have i1:¬ (j:Int) < (t.f.kl:Int):=by rw [HKL.out];omega
       rw [<- B1] at PS
       rw [<- B2] at PW
       clear B1 B2 B3 hjl2 hB hA
       generalize (tvW (bS c) c o t).2=hi2 at PW
       have nz:N=0:=NZ.out
       have nz2:((N:Int)==0)=true:=by rw [nz];rfl
       clear nz
       have mn1:∀ ty tt W,(Builtin.min_ ty tt #[.int .i64 ((t.ks.length:Int)+S),.int .i64 10001]).run Tryz.prog W=.ok (.int .i64 (min ((t.ks.length:Int)+S) 10001)) W:=fun ty tt W=>fT _ ty tt W _ _
       have mn2:∀ ty tt W,(Builtin.min_ ty tt #[.int .i64 L,.int .i64 1000000]).run Tryz.prog W=.ok (.int .i64 (min L 1000000)) W:=fun ty tt W=>fT _ ty tt W _ _
       go_upto_region 21 with (go_at_call 12;refine(PW.out _ XW.out.1).mono ?_;rintro e w7 ⟨rfl,h7⟩;have X7:=aD (XW.out.kept h7);clear h7)
       clear n0 n1 n2 n3 n4 n5 a0 a1
       obtain⟨n0,n1,n2,n3,n4,n5⟩:=X7.out.2.1.six
       simp only [Nat.zero_add] at n1 n2 n3 n4 n5
       have a0:=aA X7.out.2.2 (i:=0) rfl
       have a1:=aA X7.out.2.2 (i:=1) rfl
       go_wp2_with (go_at_call 24;refine(PS.out _ X7.out.1).mono ?_;rintro e w8 ⟨rfl,h8⟩;have X8:=aD (X7.out.kept h8);clear h8)
       go_ret
       exact⟨by simp,X8.out.1⟩
    ·have HK:=aD hk
     have VAL:=aD (qS HR.out HGG.out (.inr hk))
     have HKL:=aD (HTA.out.node.kl)
     have HLN:Hid (t.ks.length<=2000):=by have h1:=eB t.ks;have h2:=jF t;have h3:=fJ HR.out;exact aD (by omega)
     have e5:(t.f.k != 5)=true:=by rw [hk];rfl
     have e6:(t.f.k != 6)=false:=by rw [hk];rfl
     have e7:(t.f.k==6)=true:=by rw [hk];rfl
     have NZ:Hid (N=0):=aD (by rw [<- HNN.out];unfold usV;rw [if_pos HR.out,yL HR.out HGG.out];rfl)
     have FS:Hid (tvI (dY c) c o t=min ((t.ks.length:Int)+(t.ks.map (szK c o)).sum) 10001):=VAL.out.2.1
     have FL:Hid ((tvW (bS c) c o t).1=min (dS (t.ks.map (loK c o))) 1000000):=VAL.out.2.2.2 HK.out
     rw [FS.out] at PS
     rw [FL.out] at PW
     have dg:decide ((0:Int) < ((0:Nat):Int))=false:=rfl
     clear hk
     go_upto_region 9 with (go_at_call 25;refine(DG.out _ X5.out.1).mono ?_;rintro e w6 ⟨rfl,h6⟩;have X6:=aD (X5.out.kept h6);clear h6)
     clear n0 n1 n2 n3 n4 n5 a0 a1
     obtain⟨n0,n1,n2,n3,n4,n5⟩:=X6.out.2.1.six
     simp only [Nat.zero_add] at n1 n2 n3 n4 n5
     rw [HKL.out] at n5
     go_upto_region 13 with fail
     clear n0 n1 n2 n3 n4 n5
     go_loopw [10,11,12,13] (fun s l m i wr=>∃ j:Nat,j<=t.ks.length/\s=.int .i64 ((t.ks.length:Int)+((t.ks.take j).map (szK c o)).sum)/\l=.int .i64 ((t.ks.take j).map (loK c o)).sum/\m=.int .i64 (dS ((t.ks.take j).map (loK c o)))/\i=.int .i64 (j:Int)/\Bx2 w wr t.f c o) (fun _ _ _ i _=>t.ks.length - (intOf i).toNat)
     case atStart=>exact⟨0,Nat.zero_le _,by simp,rfl,rfl,rfl,X6.out⟩
     case round=>
      obtain⟨j,hj,rfl,rfl,rfl,rfl,hx⟩:=hrel
      have XW:=aD hx
      clear hx
      have hln:=HLN.out
      have b1:=rY ((t.ks.take j).map (szK c o)) (a:=10001) (fun x hx=>by obtain⟨u,hu,rfl⟩:=List.mem_map.1 hx;exact(VAL.out.1 u (List.mem_of_mem_take hu)).1)
      have b2:=rY ((t.ks.take j).map (loK c o)) (a:=1000000) (fun x hx=>by obtain⟨u,hu,rfl⟩:=List.mem_map.1 hx;exact(VAL.out.1 u (List.mem_of_mem_take hu)).2)
      have b3:=yB ((t.ks.take j).map (loK c o)) (fun x hx=>by obtain⟨u,hu,rfl⟩:=List.mem_map.1 hx;exact(VAL.out.1 u (List.mem_of_mem_take hu)).2)
      have hlt1:((t.ks.take j).map (szK c o)).length<=2000:=by rw [List.length_map,List.length_take];omega
      have hlt2:((t.ks.take j).map (loK c o)).length<=2000:=by rw [List.length_map,List.length_take];omega
      have c1:((t.ks.take j).map (szK c o)).sum<=20002000:=by omega
      have c2:((t.ks.take j).map (loK c o)).sum<=2000000000:=by omega
      have hA:Hid (∀ u,t.ks[j]?=some u->((t.ks.take (j+1)).map (szK c o)).sum=((t.ks.take j).map (szK c o)).sum+szK c o u/\((t.ks.take (j+1)).map (loK c o)).sum=((t.ks.take j).map (loK c o)).sum+loK c o u/\dS ((t.ks.take (j+1)).map (loK c o))=if dS ((t.ks.take j).map (loK c o)) < 0\/loK c o u < dS ((t.ks.take j).map (loK c o)) then loK c o u else dS ((t.ks.take j).map (loK c o))):=fun u hu=>⟨lE hu,lE hu,by rw [List.take_add_one,hu,Option.toList_some,List.map_append];exact qT _ _⟩
      have hB:Hid (j=t.ks.length->((t.ks.take j).map (szK c o)).sum=(t.ks.map (szK c o)).sum/\((t.ks.take j).map (loK c o)).sum=(t.ks.map (loK c o)).sum/\dS ((t.ks.take j).map (loK c o))=dS (t.ks.map (loK c o))):=fun e=>by rw [e,List.take_length];exact⟨rfl,rfl,rfl⟩
      have d1:=b1.1
      have d2:=b2.1
      clear b1 b2 hlt1 hlt2
      generalize ((t.ks.take j).map (szK c o)).sum=S at hA hB c1 d1 ⊢
      generalize ((t.ks.take j).map (loK c o)).sum=L at hA hB c2 d2 ⊢
      generalize dS ((t.ks.take j).map (loK c o))=M at hA hB b3 ⊢
      obtain⟨n0,n1,n2,n3,n4,n5⟩:=XW.out.2.1.six
      simp only [Nat.zero_add] at n1 n2 n3 n4 n5
      have a0:=aA XW.out.2.2 (i:=0) rfl
      have a1:=aA XW.out.2.2 (i:=1) rfl
      have l0:=aB XW.out.2.1
      have l1:=aB XW.out.2.2
      by_cases hjl:j < t.ks.length
      ·obtain⟨u,hu⟩:∃ u,t.ks[j]?=some u:=⟨_,List.getElem?_eq_getElem hjl⟩
       have inu:u∈t.ks:=List.mem_of_getElem? hu
       obtain⟨qk,capk,f1,hm1,hcp1,hx1⟩:=((HTA.out.kept XW.out.1).node).k.slice
       injection f1 with f11 f12 f13
       obtain⟨gk,off,eq,hgk,six⟩:=hx1 j u hu
       rw [f11,HKL.out,eq] at n5
       obtain⟨k0,k1',k2,k3,k4',k5⟩:=six
       have hgr:gk < wr.heap.size:=hgk
       have i1:(j:Int) < (t.ks.length:Int):=by omega
       have hwr:IntKind.wrap .i64 ((j:Int)+1)=(j:Int)+1:=wrap_small _ (by omega) (by omega)
       obtain⟨A1,A2,A3⟩:=hA.out u hu
       have HA1:=aD A1
       have HA2:=aD A2
       have HA3:=aD A3
       have bu:=VAL.out.1 u inu
       have KS1:Hid (∀ W,Below wr.heap.size wr W->Calls Tryz.prog 24 #[.agg #[.int .i64 u.f.k,.int .i64 u.f.n,.int .i64 u.f.mn,.int .i64 u.f.mx,.slice u.f.rq u.f.rs.length u.f.rc,.slice u.f.kq u.f.kl u.f.kc],.agg #[.bool c,.bool o]] W fun e w'=>e=.returned (.int .i64 (szK c o u))/\Below W.heap.size W w'):=fun W hW=>mK c o (((HTA.out.kept XW.out.1).kid inu).kept hW)
       have KW1:Hid (∀ W,Below w.heap.size w W->Calls Tryz.prog 12 #[.agg #[.int .i64 u.f.k,.int .i64 u.f.n,.int .i64 u.f.mn,.int .i64 u.f.mx,.slice u.f.rq u.f.rs.length u.f.rc,.slice u.f.kq u.f.kl u.f.kc],.agg #[.bool c,.bool o]] W fun e w'=>e=.returned (.tuple #[.int .i64 (loK c o u),.int .i64 (tvW (bS c) c o u).2])/\Below W.heap.size W w'):=fun W hW=>jA c o ((HTA.out.kept hW).kid inu)
       generalize szK c o u=su at HA1 bu KS1
       generalize loK c o u=lu at HA2 HA3 bu KW1
       generalize (tvW (bS c) c o u).2=hu2 at KW1
       have wr1:IntKind.wrap .i64 ((t.ks.length:Int)+S+su)=(t.ks.length:Int)+S+su:=by rw [IntKind.wrap_i64];omega
       have wr2:IntKind.wrap .i64 (L+lu)=L+lu:=by rw [IntKind.wrap_i64];omega
       have wr3:wrap64 ((t.ks.length:Int)+S+su)=(t.ks.length:Int)+S+su:=by unfold wrap64;omega
       have HSIX:Hid (∀ W,Below wr.heap.size wr W->Six W gk (off+j * 6) u.f):=fun W hW=>Six.ck ⟨k0,k1',k2,k3,k4',k5⟩ (CK.of_below hW) hgr
       have HN5:Hid (∀ W,BoxN W w.heap.size t.f->W.cell? ⟨w.heap.size,5,none⟩=some (.slice (some ⟨gk,off,none⟩) t.ks.length t.f.kc)):=fun W hW=>by
        have:=hW.six.2.2.2.2.2
        simp only [Nat.zero_add] at this
        rw [f11,HKL.out,eq] at this
        exact this
       clear hu f11 f12 f13 eq hx1 hm1 hcp1 A1 A2 A3 hgk
       go_upto_region 15 with fail
       refine wx9 ?_
       repeat (go_big_quiet_step (first | exact rfl |(go_at_call 24;exact cE (KS1.out _ (gA _)))))
       refine wpQuiet_nil ?_
       intro w8 hw
       have X8:=aD (XW.out.kept (aN hw))
       obtain⟨r0,r1,r2,r3,r4,r5⟩:=HSIX.out _ (aN hw)
       have hgr8:gk < w8.heap.size:=Nat.lt_of_lt_of_le hgr (aN hw).size
       clear hw n0 n1 n2 n3 n4 n5 a0 a1 l0 l1 k0 k1' k2 k3 k4' k5
       have n5:=HN5.out _ X8.out.2.1
       have a0:=aA X8.out.2.2 (i:=0) rfl
       have a1:=aA X8.out.2.2 (i:=1) rfl
       have l0:=aB X8.out.2.1
       have l1:=aB X8.out.2.2
       have KW2:Hid (∀ W,Below w8.heap.size w8 W->Calls Tryz.prog 12 #[.agg #[.int .i64 u.f.k,.int .i64 u.f.n,.int .i64 u.f.mn,.int .i64 u.f.mx,.slice u.f.rq u.f.rs.length u.f.rc,.slice u.f.kq u.f.kl u.f.kc],.agg #[.bool c,.bool o]] W fun e w'=>e=.returned (.tuple #[.int .i64 lu,.int .i64 hu2])/\Below W.heap.size W w'):=fun W hW=>KW1.out W (aK X8.out.1 hW lz9)
       go_upto_region 16 with fail
       refine wx9 ?_
       repeat (go_big_quiet_step (first | exact rfl |(go_at_call 12;exact cE (KW2.out _ (gA _)))))
       refine wpQuiet_nil ?_
       intro w9 hw
       have X9:=aD (X8.out.kept (aN hw))
       clear hw n5 a0 a1 l0 l1 r0 r1 r2 r3 r4 r5
       by_cases hM:M < 0
       ·have HM:Hid (dS ((t.ks.take (j+1)).map (loK c o))=lu):=aD (by rw [HA3.out,if_pos (.inl hM)])
        go_wp2
        go_roundw
        case rel=>exact⟨j+1,by omega,by rw [HA1.out,<- Int.add_assoc],by rw [HA2.out],by rw [HM.out],by go_num,X9.out⟩
        case measure=>simp only [intOf];omega
       ·by_cases hM2:lu < M
        ·have HM:Hid (dS ((t.ks.take (j+1)).map (loK c o))=lu):=aD (by rw [HA3.out,if_pos (.inr hM2)])
         go_wp2
         go_roundw
         case rel=>exact⟨j+1,by omega,by rw [HA1.out,<- Int.add_assoc],by rw [HA2.out],by rw [HM.out],by go_num,X9.out⟩
         case measure=>simp only [intOf];omega
        ·have HM:Hid (dS ((t.ks.take (j+1)).map (loK c o))=M):=aD (by rw [HA3.out,if_neg (by omega)])
         go_wp2
         go_roundw
         case rel=>exact⟨j+1,by omega,by rw [HA1.out,<- Int.add_assoc],by rw [HA2.out],by rw [HM.out],by go_num,X9.out⟩
         case measure=>simp only [intOf];omega
      ·have hjl2:j=t.ks.length:=by omega
       obtain⟨B1,B2,B3⟩:=hB.out hjl2
       have i1:¬ (j:Int) < (t.f.kl:Int):=by rw [HKL.out];omega
       rw [<- B1] at PS
       rw [<- B3] at PW
       clear B1 B2 B3 hjl2 hB hA
       generalize (tvW (bS c) c o t).2=hi2 at PW
       have nz:N=0:=NZ.out
       have nz2:((N:Int)==0)=true:=by rw [nz];rfl
       clear nz
       have mn1:∀ ty tt W,(Builtin.min_ ty tt #[.int .i64 ((t.ks.length:Int)+S),.int .i64 10001]).run Tryz.prog W=.ok (.int .i64 (min ((t.ks.length:Int)+S) 10001)) W:=fun ty tt W=>fT _ ty tt W _ _
       have mn2:∀ ty tt W,(Builtin.min_ ty tt #[.int .i64 M,.int .i64 1000000]).run Tryz.prog W=.ok (.int .i64 (min M 1000000)) W:=fun ty tt W=>fT _ ty tt W _ _
       go_upto_region 21 with (go_at_call 12;refine(PW.out _ XW.out.1).mono ?_;rintro e w7 ⟨rfl,h7⟩;have X7:=aD (XW.out.kept h7);clear h7)
       clear n0 n1 n2 n3 n4 n5 a0 a1
       obtain⟨n0,n1,n2,n3,n4,n5⟩:=X7.out.2.1.six
       simp only [Nat.zero_add] at n1 n2 n3 n4 n5
       have a0:=aA X7.out.2.2 (i:=0) rfl
       have a1:=aA X7.out.2.2 (i:=1) rfl
       go_wp2_with (go_at_call 24;refine(PS.out _ X7.out.1).mono ?_;rintro e w8 ⟨rfl,h8⟩;have X8:=aD (X7.out.kept h8);clear h8)
       go_ret
       exact⟨by simp,X8.out.1⟩
   ·have g1:(0:Int) < (g:Int):=by omega
    have dg:decide ((0:Int) < (g:Int))=true:=decide_eq_true g1
    rcases hk with hk | hk
    ·have e5:(t.f.k != 5)=false:=by rw [hk];rfl
     clear hk
     go_wp2_with (go_at_call 25;refine(DG.out _ X5.out.1).mono ?_;rintro e w6 ⟨rfl,h6⟩;have X6:=aD (X5.out.kept h6);clear h6)
     go_ret
     exact⟨by simp,X6.out.1⟩
    ·have e5:(t.f.k != 5)=true:=by rw [hk];rfl
     have e6:(t.f.k != 6)=false:=by rw [hk];rfl
     clear hk
     go_wp2_with (go_at_call 25;refine(DG.out _ X5.out.1).mono ?_;rintro e w6 ⟨rfl,h6⟩;have X6:=aD (X5.out.kept h6);clear h6)
     go_ret
     exact⟨by simp,X6.out.1⟩
  ·have e5:(t.f.k != 5)=true:=by simp;omega
   have e6:(t.f.k != 6)=true:=by simp;omega
   clear hk
   go_wp2
   go_ret
   exact⟨by simp,X5.out.1⟩
 ·have q0:(r != 0)=true:=by simpa using hr0
  have q1:(r==0)=false:=by simpa using hr0
  have hn:¬ aS c o 0 0 (pp [] t)=0:=by rw [HR.out];exact hr0
  have v1:frV c o t=false:=by unfold frV;rw [if_neg hn]
  have v2:usV c o t=[]:=by unfold usV;rw [if_neg hn]
  have v3:tvW (bS c) c o t=(0,0):=by unfold tvW;rw [if_neg hn]
  have v4:tvI (dY c) c o t=0:=by unfold tvI;rw [if_neg hn]
  have v5:(tvO (dM c) c o t).1=noB:=by unfold tvO;rw [if_neg hn];rfl
  rw [v1,v2]
  rw [v3] at PW
  rw [v4] at PS
  rw [v5] at PP
  dsimp only at PW
  unfold noB at PP
  clear v1 v2 v3 v4 v5 hn hr0
  go_upto_region 5 with (go_at_call 10;refine(DR.out _ X4.out.1).mono ?_;rintro e w5 ⟨rfl,h5⟩;have X5:=aD (X4.out.kept h5);clear h5)
  clear n0 n1 n2 n3 n4 n5 a0 a1
  obtain⟨n0,n1,n2,n3,n4,n5⟩:=X5.out.2.1.six
  simp only [Nat.zero_add] at n1 n2 n3 n4 n5
  have a0:=aA X5.out.2.2 (i:=0) rfl
  have a1:=aA X5.out.2.2 (i:=1) rfl
  go_upto_region 6 with (go_at_call 12;refine(PW.out _ X5.out.1).mono ?_;rintro e w6 ⟨rfl,h6⟩;have X6:=aD (X5.out.kept h6);clear h6)
  clear n0 n1 n2 n3 n4 n5 a0 a1
  obtain⟨n0,n1,n2,n3,n4,n5⟩:=X6.out.2.1.six
  simp only [Nat.zero_add] at n1 n2 n3 n4 n5
  have a0:=aA X6.out.2.2 (i:=0) rfl
  have a1:=aA X6.out.2.2 (i:=1) rfl
  go_wp2_with first
   |(go_at_call 24;refine(PS.out _ X6.out.1).mono ?_;rintro e w7 ⟨rfl,h7⟩;have X7:=aD (X6.out.kept h7);clear h7 n0 n1 n2 n3 n4 n5 a0 a1;obtain⟨n0,n1,n2,n3,n4,n5⟩:=X7.out.2.1.six;simp only [Nat.zero_add] at n1 n2 n3 n4 n5;have a0:=aA X7.out.2.2 (i:=0) rfl;have a1:=aA X7.out.2.2 (i:=1) rfl)
   |(go_at_call 16;refine(PP.out _ X7.out.1).mono ?_;rintro e w8 ⟨rfl,h8⟩;have X8:=aD (X7.out.kept h8);clear h8)
  go_ret
  exact⟨by simp,X8.out.1⟩
end
section
open Go Go.ChangeShapes Go.WideShapes Go.ChangeAt Go.RowKit
theorem pH:Tryz.prog.cellsOf 25=6:=by kernel_rfl
theorem aB8:Tryz.prog.cellsOf 110=2:=by kernel_rfl
theorem xF:Tryz.prog.cellsOf 22=1:=by kernel_rfl
theorem xG:Tryz.prog.cellsOf 23=1:=by kernel_rfl
theorem vK{w:World}{g o:Nat}{v:Value}(h:w.cell? ⟨g,o,none⟩=some v):g < w.heap.size:=by
 rcases Nat.lt_or_ge g w.heap.size with h' | h'
 ·exact h'
 ·have:w.heap[g]?=none:=Array.getElem?_eq_none h'
  simp [World.cell?,this] at h
theorem vN{a:Addr}{W:World}{v:Value}(h:W.cell? (a.add 0)=some v):∃ b off,a=⟨b,off,none⟩:=by
 obtain⟨b,off,cK⟩:=a
 cases cK with
 | none=>exact⟨b,off,rfl⟩
 | some k=>
  exfalso
  unfold Addr.add World.cell? at h
  simp at h
  split at h <;> simp_all
theorem vG:Tryz.prog.cellsOf 27=2:=by kernel_rfl
theorem vH:Tryz.prog.cellsOf 4=1:=by kernel_rfl
theorem wZ{H:Type}{enc:TypeId × Value->H}{W:World}{base:Nat}{v:Value}{d:DataW H}{p:List MemPlace}(hok:Value.okWide Tryz.prog W .any base 27 v)
  (h:DataW.Trod enc Tryz.prog W 0 (fun _=>true) true 27 v d p):∃ c f:Bool,v=.agg #[.bool c,.bool f]:=by
 obtain⟨cs,rfl,hsz⟩:=okWide_struct Tryz.underlying27 hok
 obtain⟨fuel,hf⟩:=h
 obtain⟨xs,k,hk,hxy,hcl,hxl,hfs⟩:=DataW.trod_struct Tryz.underlying27 hf
 rw [vG] at hcl
 obtain⟨l⟩:=cs
 simp [Value.cells] at hcl hfs
 match xs,hxl,l,hcl,hfs with
 | [y0,y1],_,[c0,c1],_,hf=>
  have F0:=hf 0 _ rfl
  have F1:=hf 1 _ rfl
  simp [vH] at F0 F1
  obtain⟨b0,e0,-⟩:=DataW.trod_bool Tryz.underlying4 F0
  obtain⟨b1,e1,-⟩:=DataW.trod_bool Tryz.underlying4 F1
  cases e0;cases e1
  exact⟨b0,b1,rfl⟩
end
section
open Go Go.ChangeShapes Go.WideShapes Go.ChangeAt Go.RowKit
theorem aB9{H:Type}(d:DataW H):1<=Rows.uptoBulk d:=by
 cases d with
 | lit l=>cases l <;> simp [Rows.uptoBulk]
 | nil=>simp [Rows.uptoBulk]
 | ptr d=>simp [Rows.uptoBulk]
 | slice elems spare=>simp [Rows.uptoBulk]
 | agg parts=>simp [Rows.uptoBulk]
 | iface t d=>simp [Rows.uptoBulk]
 | map entries=>simp [Rows.uptoBulk]
 | held h=>simp [Rows.uptoBulk]
theorem iY{H:Type}{d:DataW H}{l:List (DataW H)}(h:d∈l):Rows.uptoBulk d<=Rows.uptoBulkAll l:=by
 induction l with
 | nil=>cases h
 | cons x r ih=>
  simp only [Rows.uptoBulkAll]
  cases List.mem_cons.1 h with
  | inl e=>subst e;omega
  | inr e=>have:=ih e;omega
theorem aC0{H:Type}(l:List (DataW H)):l.length<=Rows.uptoBulkAll l:=by
 induction l with
 | nil=>simp [Rows.uptoBulkAll]
 | cons x r ih=>have:=aB9 x;simp only [Rows.uptoBulkAll,List.length_cons];omega
theorem aK1{H:Type}{d:DataW H}{l:List (DataW H)}(hk:Rows.uptoSmall H l=true)(h:d∈l):Rows.uptoBulk d<=1048576:=Nat.le_trans (iY h) (of_decide_eq_true hk)
theorem wW{H:Type}{enc:TypeId × Value->H}{W:World}{fuel:Nat}{v:Value}{x:DataW H × List MemPlace}(hf:DataW.trod enc Tryz.prog W 0 (fun _=>true) true fuel 22 [v]=some x)(hw:Rows.uptoBulk x.1<=1048576) :
  ∃ (rs:List (Int × Int)) (q:Option Addr) (c:Nat),v=.slice q rs.length c/\ArgR W v rs/\Fit rs/\rs.length+3<=1048579:=by
 rcases Deep.open_slice_pairs Tryz.underlying22 Tryz.underlying110 aB8 rfl rfl iK iK hf with⟨h1,h2⟩ | ⟨a,len,cap,m,n,V0,V1,D0,D1,P0,P1,h1,_,hlc,hcap,hm,h2,hx⟩
 ·cases h1
  exact⟨[],none,0,rfl,.inl ⟨none,0,rfl,rfl,fun _=>rfl⟩,iV,by simp⟩
 ·cases h1
  rw [if_pos rfl] at hm
  subst hm
  by_cases hc:m=0
  ·have hl:len=0:=by omega
   subst hc hl
   exact⟨[],some a,0,rfl,.inl ⟨some a,0,rfl,rfl,fun q=>(by cases q)⟩,iV,by simp⟩
  ·have hp:∀ i,i < m->∃ q:Int × Int,V0 i=.int .i64 q.1/\V1 i=.int .i64 q.2/\(Lit.int .i64 q.1).wf=true/\(Lit.int .i64 q.2).wf=true:=fun i hi=>by
    obtain⟨_,_,g0,g1⟩:=hx i hi
    obtain⟨x0,e0,_,w0⟩:=DataW.trod_int Tryz.underlying3 g0
    obtain⟨x1,e1,_,w1⟩:=DataW.trod_int Tryz.underlying3 g1
    exact⟨(x0,x1),by simpa using e0,by simpa using e1,w0,w1⟩
   obtain⟨q,hq⟩:=Deep.choose_lt hp
   have c0:=(hx 0 (by omega)).1
   obtain⟨b,off,rfl⟩:=vN (by simpa using c0)
   have hadd:∀ j,(⟨b,off,none⟩:Addr).add j=⟨b,off+j,none⟩:=fun j=>by unfold Addr.add;split <;> simp_all
   have hb:b < W.heap.size:=by rw [hadd] at c0;exact vK c0
   refine⟨(List.range len).map q,some ⟨b,off,none⟩,m,by simp,.inr ⟨b,off,m,by simp,hb,by simpa using hlc,hcap,fun i r hi'=>?_⟩,fun r hr=>?_,?_⟩
   ·have hil:i < len:=by have:=(List.getElem?_eq_some_iff.1 hi').1;simpa using this
    have hqi:q i=r:=by simpa [hil] using hi'
    obtain⟨k0,k1,_,_⟩:=hx i (by omega)
    rw [hadd,Nat.mul_comm] at k0
    rw [hadd,Nat.mul_comm,<- Nat.add_assoc] at k1
    obtain⟨r0,r1,_,_⟩:=hq i (by omega)
    rw [hqi] at r0 r1
    exact⟨by rw [k0,r0],by rw [k1,r1]⟩
   ·obtain⟨i,hi,rfl⟩:=List.mem_map.1 hr
    have hil:i < len:=List.mem_range.1 hi
    obtain⟨_,_,w0,w1⟩:=hq i (by omega)
    exact⟨tR w0,tR w1⟩
   ·obtain⟨es,sp,e1,e2⟩:∃ es sp,x.1=.slice es sp/\es.length=len:=⟨_,_,congrArg Prod.fst h2,by simp⟩
    rw [e1] at hw
    simp only [Rows.uptoBulk] at hw
    have:=aC0 es
    simp
    omega
theorem wY{H:Type}{enc:TypeId × Value->H}{W:World}:∀ (fuel:Nat) (cs:List Value) (x:DataW H × List MemPlace),DataW.trod enc Tryz.prog W 0 (fun _=>true) true fuel 25 cs=some x->Rows.uptoBulk x.1<=1048576 ->
  ∃ t:Tr,(TB W t/\bQ (fun u=>u.f.rs.length<=1048576) t)/\cs=[.int .i64 t.f.k,.int .i64 t.f.n,.int .i64 t.f.mn,.int .i64 t.f.mx,.slice t.f.rq t.f.rs.length t.f.rc,.slice t.f.kq t.f.kl t.f.kc]:=by
 intro fuel
 induction fuel using Nat.strongRecOn with
 | ind fuel ih=>
  intro cs x hf hw
  obtain⟨xs,k,hk,hxy,hcl,hxl,hfs⟩:=DataW.trod_struct Tryz.underlying25 hf
  have hD:x.1=.agg (xs.map (·.1)):=(congrArg Prod.fst hxy)
  rw [hD] at hw
  simp only [Rows.uptoBulk] at hw
  rw [pH] at hcl
  clear hD hxy hf
  match xs,hxl,cs,hcl,hfs,hw with
  | [y0,y1,y2,y3,y4,y5],_,[v0,v1,v2,v3,v4,v5],_,hf,hwi=>
   have F0:=hf 0 _ rfl
   have F1:=hf 1 _ rfl
   have F2:=hf 2 _ rfl
   have F3:=hf 3 _ rfl
   have F4:=hf 4 _ rfl
   have F5:=hf 5 _ rfl
   simp [iK,xF,xG] at F0 F1 F2 F3 F4 F5
   obtain⟨x0,e0,_,w0⟩:=DataW.trod_int Tryz.underlying3 F0
   obtain⟨x1,e1,_,w1⟩:=DataW.trod_int Tryz.underlying3 F1
   obtain⟨x2,e2,_,w2⟩:=DataW.trod_int Tryz.underlying3 F2
   obtain⟨x3,e3,_,w3⟩:=DataW.trod_int Tryz.underlying3 F3
   obtain⟨rs,q,c,rfl,hr,hfit,hlen⟩:=wW F4 (by have:=iY (d:=y4.1) (l:=[y0,y1,y2,y3,y4,y5].map (·.1)) (by simp);omega)
   cases e0;cases e1;cases e2;cases e3
   have hwk:Rows.uptoBulk y5.1<=1048576:=by have:=iY (d:=y5.1) (l:=[y0,y1,y2,y3,y4,y5].map (·.1)) (by simp);omega
   rcases DataW.trod_slice Tryz.underlying23 F5 with⟨h1,h2⟩ | ⟨a,len,cap,elems,rest,n,hn,h1,h2,_,hlc,hcap,hel,hx,-,-⟩
   ·cases h1
    exact⟨.mk ⟨x0,x1,x2,x3,rs,q,c,none,0,0⟩ [],⟨(aX _).2 ⟨⟨hr,.inl ⟨none,0,rfl,rfl,fun _=>rfl⟩,hfit,Nat.le_trans hlen (by decide)⟩,(bU _).2 fun u hu=>by cases hu⟩,(aX _).2 ⟨(show rs.length<=1048576 by omega),(bU _).2 fun u hu=>by cases hu⟩⟩,rfl⟩
   ·cases h1
    by_cases hl:len=0
    ·subst hl
     exact⟨.mk ⟨x0,x1,x2,x3,rs,q,c,some a,0,cap⟩ [],⟨(aX _).2 ⟨⟨hr,.inl ⟨some a,cap,rfl,rfl,fun z=>by cases z⟩,hfit,Nat.le_trans hlen (by decide)⟩,(bU _).2 fun u hu=>by cases hu⟩,(aX _).2 ⟨(show rs.length<=1048576 by omega),(bU _).2 fun u hu=>by cases hu⟩⟩,rfl⟩
    ·have each:∀ i,i < len->∃ t:Tr,(TB W t/\bQ (fun u=>u.f.rs.length<=1048576) t)/\∀ j v,[Value.int .i64 t.f.k,.int .i64 t.f.n,.int .i64 t.f.mn,.int .i64 t.f.mx,.slice t.f.rq t.f.rs.length t.f.rc,.slice t.f.kq t.f.kl t.f.kc][j]?=some v->W.cell? (a.add (i * 6+j))=some v:=by
      intro i hi
      have hxi:=hx i hi
      rw [List.getElem?_eq_getElem (by omega)] at hxi
      obtain⟨cs',g1,g2⟩:=Option.bind_eq_some_iff.1 hxi
      rw [pH] at g1
      obtain⟨_,hlc',hcell⟩:=World.cells?_some g1
      obtain⟨t,ht,hcs⟩:=ih n (by omega) cs' _ g2 (by
       rw [show y5.1=.slice (elems.map (·.1)) (rest.map (·.1)) from congrArg Prod.fst h2] at hwk
       simp only [Rows.uptoBulk] at hwk
       refine Nat.le_trans (iY (l:=elems.map (·.1)) (List.mem_map.2 ⟨_,List.getElem_mem _,rfl⟩)) (by omega))
      refine⟨t,ht,fun j v hj=>?_⟩
      have hj6:j < 6:=by have:=(List.getElem?_eq_some_iff.1 hj).1;simpa using this
      have:=hcell j (by omega)
      rw [Deep.add_add] at this
      rw [this,hcs]
      exact hj
     have:Inhabited Tr:=⟨.mk ⟨0,0,0,0,[],none,0,none,0,0⟩ []⟩
     obtain⟨tt,htt⟩:=Deep.choose_lt each
     have c0:=(htt 0 (by omega)).2 0 _ rfl
     obtain⟨b,off,rfl⟩:=vN (by simpa using c0)
     have hadd:∀ j,(⟨b,off,none⟩:Addr).add j=⟨b,off+j,none⟩:=fun j=>by unfold Addr.add;split <;> simp_all
     have hb:b < W.heap.size:=by rw [hadd] at c0;exact vK c0
     refine⟨.mk ⟨x0,x1,x2,x3,rs,q,c,some ⟨b,off,none⟩,len,cap⟩ ((List.range len).map tt),⟨(aX _).2 ⟨⟨hr,.inr ⟨b,off,cap,by simp [Tr.f,Tr.ks],hb,by simpa [Tr.ks] using hlc,hcap,fun i t hi=>?_⟩,hfit,Nat.le_trans hlen (by decide)⟩,(bU _).2 fun u hu=>?_⟩,(aX _).2 ⟨(show rs.length<=1048576 by omega),(bU _).2 fun u hu=>?_⟩⟩,rfl⟩
     ·have hi':((List.range len).map tt)[i]?=some t:=hi
      have hil:i < len:=by have:=(List.getElem?_eq_some_iff.1 hi').1;simpa using this
      have hqi:tt i=t:=by simpa [hil] using hi'
      have hh:=(htt i hil).2
      rw [hqi] at hh
      simp only [hadd,<- Nat.add_assoc] at hh
      exact⟨hh 0 _ rfl,hh 1 _ rfl,hh 2 _ rfl,hh 3 _ rfl,hh 4 _ rfl,hh 5 _ rfl⟩
     ·have hu':u∈(List.range len).map tt:=hu
      obtain⟨i,hi,rfl⟩:=List.mem_map.1 hu'
      exact(htt i (List.mem_range.1 hi)).1.1
     ·have hu':u∈(List.range len).map tt:=hu
      obtain⟨i,hi,rfl⟩:=List.mem_map.1 hu'
      exact(htt i (List.mem_range.1 hi)).1.2
theorem wX{H:Type}{enc:TypeId × Value->H}{W:World}{base:Nat}{v:Value}{d:DataW H}{p:List MemPlace}(hok:Value.okWide Tryz.prog W .any base 25 v)
  (h:DataW.Trod enc Tryz.prog W 0 (fun _=>true) true 25 v d p) (hw:Rows.uptoBulk d<=1048576):∃ t:Tr,TB W t/\(∀ x∈pp [] t,x.2.f.rs.length<=1048576)/\v=.agg #[.int .i64 t.f.k,.int .i64 t.f.n,.int .i64 t.f.mn,.int .i64 t.f.mx,.slice t.f.rq t.f.rs.length t.f.rc,.slice t.f.kq t.f.kl t.f.kc]:=by
 obtain⟨cs,rfl,hsz⟩:=okWide_struct Tryz.underlying25 hok
 obtain⟨fuel,hf⟩:=h
 obtain⟨t,⟨ht,hs⟩,hcs⟩:=wY fuel _ _ hf hw
 refine⟨t,ht,fun x hx=>((aX _).1 (mC (P:=fun u=>u.f.rs.length<=1048576) t [] hs x hx)).1,?_⟩
 obtain⟨l⟩:=cs
 simp [Value.cells] at hcs
 rw [hcs]
end
end Go.Proofs.YtjafnbjipgediaaGreatDoor
