/-
  Parts of the proof.
-/
import Derived.Test.YtjafnbjipgediaaGreatDoorRefsProofB29
import Derived.Test.YtjafnbjipgediaaGreatDoorRefsProofB31
import Derived.Test.YtjafnbjipgediaaGreatDoorRefsProofB34
import Derived.Test.YtjafnbjipgediaaGreatDoorRefsProofB26
import Derived.Test.YtjafnbjipgediaaGreatDoorRefsProofB27
import Derived.Test.YtjafnbjipgediaaGreatDoorRefsProofB3
import Derived.Test.YtjafnbjipgediaaGreatDoorRefsProofB2
import Derived.Deep.Slices
import Derived.Deep.SlicePairs
import Derived.ChangeSame
import Derived.SizedLaws
import Derived.Test.YtjafnbjipgediaaGreatDoorRows
set_option maxRecDepth 100000
set_option maxHeartbeats 8000000
namespace Go.Proofs.YtjafnbjipgediaaGreatDoor
open Go Go.RowKit
section
open Go Go.RowKit Go.Shelf
attribute [local go_sem] Oper.semAt_some bC
theorem pH{R:Ending->World->Prop}{a:Act}{W:World}{b:Nat}{f:Fl}(h:Six W b 0 f)(ha:a.tmps[2]?.getD undef=.pointer (some ⟨b,0,none⟩))(hd:a.defers=[])(hR:R (.returned (.agg #[.int .i64 f.k,.int .i64 f.n,.int .i64 f.mn,.int .i64 f.mx,.slice f.rq f.rs.length f.rc,.slice f.kq f.kl f.kc])) W):bodyPost Tryz.prog Tryz.f26 R .ret a W:=by
 obtain⟨z0,z1,z2,z3,z4,z5⟩:=h
 simp only [Nat.zero_add] at z1 z2 z3 z4 z5
 refine bodyPost_ret (v:=.agg #[.int .i64 f.k,.int .i64 f.n,.int .i64 f.mn,.int .i64 f.mx,.slice f.rq f.rs.length f.rc,.slice f.kq f.kl f.kc]) ?_ hd hR
 simp [results,Tryz.results26,go_sem,ha,z0,z1,z2,z3,z4,z5]
theorem aJ0{w:World}{t:Tr}(hta:TB w t):Calls Tryz.prog 26 #[.agg #[.int .i64 t.f.k,.int .i64 t.f.n,.int .i64 t.f.mn,.int .i64 t.f.mx,.slice t.f.rq t.f.rs.length t.f.rc,.slice t.f.kq t.f.kl t.f.kc]] w fun e w'=>∃ x,e=.returned (.agg #[.int .i64 x.f.k,.int .i64 x.f.n,.int .i64 x.f.mn,.int .i64 x.f.mx,.slice x.f.rq x.f.rs.length x.f.rc,.slice x.f.kq x.f.kl x.f.kc])/\TB w' x/\er x=er t/\Below w.heap.size w w':=by
 have B0:Hid (Below w.heap.size w ((w.alloc (.cells #[.int .i64 t.f.k,.int .i64 t.f.n,.int .i64 t.f.mn,.int .i64 t.f.mx,.slice t.f.rq t.f.rs.length t.f.rc,.slice t.f.kq t.f.kl t.f.kc] 25)).alloc (.cells #[.int .i64 0,.int .i64 0,.int .i64 0,.int .i64 0,.slice none 0 0,.slice none 0 0] 25))):=(bz9).alloc (by simp) _
 have N0:Hid (BoxN ((w.alloc (.cells #[.int .i64 t.f.k,.int .i64 t.f.n,.int .i64 t.f.mn,.int .i64 t.f.mx,.slice t.f.rq t.f.rs.length t.f.rc,.slice t.f.kq t.f.kl t.f.kc] 25)).alloc (.cells #[.int .i64 0,.int .i64 0,.int .i64 0,.int .i64 0,.slice none 0 0,.slice none 0 0] 25)) w.heap.size t.f):=(Below.heap_alloc _ _ _ (by simp)).trans (aE w _)
 have R0:Hid (BoxN ((w.alloc (.cells #[.int .i64 t.f.k,.int .i64 t.f.n,.int .i64 t.f.mn,.int .i64 t.f.mx,.slice t.f.rq t.f.rs.length t.f.rc,.slice t.f.kq t.f.kl t.f.kc] 25)).alloc (.cells #[.int .i64 0,.int .i64 0,.int .i64 0,.int .i64 0,.slice none 0 0,.slice none 0 0] 25)) (w.heap.size+1) zFl):=aC (aJ _ (by simp only [World.size_alloc]))
 have HTA:=aC hta
 clear hta
 go_enter Tryz.func26,Tryz.ntmps26
 go_upto_region 1 with fail
 generalize ((w.alloc (.cells #[.int .i64 t.f.k,.int .i64 t.f.n,.int .i64 t.f.mn,.int .i64 t.f.mx,.slice t.f.rq t.f.rs.length t.f.rc,.slice t.f.kq t.f.kl t.f.kc] 25)).alloc (.cells #[.int .i64 0,.int .i64 0,.int .i64 0,.int .i64 0,.slice none 0 0,.slice none 0 0] 25))=w1 at B0 N0 R0 ⊢
 obtain⟨bz,hbz⟩:∃ bz,w.heap.size+1=bz:=⟨_,rfl⟩
 rw [hbz] at R0 ⊢
 have hwz:w.heap.size<=bz:=by omega
 clear hbz
 obtain⟨n0,n1,n2,n3,n4,n5⟩:=N0.out.six
 simp only [Nat.zero_add] at n1 n2 n3 n4 n5
 have RC:=aC (yS (HTA.out.kept B0.out))
 obtain⟨C,hC⟩:∃ C,jR t=C:=⟨_,rfl⟩
 rw [hC] at RC
 have HC:=aC hC
 clear hC
 by_cases hb:(2000:Int) < (C:Int)
 ·go_upto_region 2 with (go_at_call 57;(with_reducible refine(RC.out).mono ?_);rintro e w5 ⟨rfl,h5⟩;have B5:=aC (aI B0.out h5 lz9);have N5:Hid (BoxN w5 w.heap.size t.f):=(h5.block _ (aB N0.out)).trans N0.out;have R5:Hid (BoxN w5 bz zFl):=(h5.block _ (aB R0.out)).trans R0.out;clear h5)
  clear n0 n1 n2 n3 n4 n5
  obtain⟨n0,n1,n2,n3,n4,n5⟩:=N5.out.six
  simp only [Nat.zero_add] at n1 n2 n3 n4 n5
  obtain⟨r0,r1,r2,r3,r4,r5⟩:=R5.out.six
  simp only [Nat.zero_add] at r1 r2 r3 r4 r5
  have rz:=fun z=>aG R5.out z
  have P9:=aC (oE w5 bz 0 t.f)
  have X9:=aC (lM (g:=t.f) R5.out.six)
  have B9:Hid (Below w.heap.size w (kN w5 bz 0 t.f)):=aY B5.out P9.out lz9 (fun k e=>by omega)
  have T9:=aC (HTA.out.kept B9.out)
  unfold kN at X9 B9 T9
  go_wp2
  refine pH X9.out rfl rfl ?_
  exact⟨t,rfl,T9.out,rfl,B9.out⟩
 ·have hsz:t.sz<=2000:=by have:=HC.out;unfold jR at this;rw [eM] at this;omega
  have HSZ:=aC hsz
  clear hsz
  go_upto_region 3 with (go_at_call 57;(with_reducible refine(RC.out).mono ?_);rintro e w5 ⟨rfl,h5⟩;have B5:=aC (aI B0.out h5 lz9);have N5:Hid (BoxN w5 w.heap.size t.f):=(h5.block _ (aB N0.out)).trans N0.out;have R5:Hid (BoxN w5 bz zFl):=(h5.block _ (aB R0.out)).trans R0.out;clear h5)
  clear n0 n1 n2 n3 n4 n5
  obtain⟨n0,n1,n2,n3,n4,n5⟩:=N5.out.six
  simp only [Nat.zero_add] at n1 n2 n3 n4 n5
  have CP:=aC (aS5 t.sz t w5 lz9 (by have:=HSZ.out;omega) (HTA.out.kept B5.out))
  have LZ:=aB R5.out
  go_wp2_with (go_at_call 58;(with_reducible refine(CP.out).mono ?_);rintro e w7 ⟨t7,rfl,h71,h72,h73,h74⟩;have R7:BoxN w7 bz zFl:=(h74.block _ LZ).trans R5.out;obtain⟨r0,r1,r2,r3,r4,r5⟩:=R7.six;simp only [Nat.zero_add] at r1 r2 r3 r4 r5;have rz:=fun z=>aG R7 z;have X9:=aC (lM (g:=t7.f) R7.six);have P9:=aC (oE w7 bz 0 t7.f);have T9:=aC (h71.ckN h73 (P9.out.ckeep (fun k e z=>by omega)));have E9:=aC h72;have B9:Hid (Below w.heap.size w (kN w7 bz 0 t7.f)):=aY (aI B5.out h74 lz9) P9.out lz9 (fun k e=>by omega);unfold kN at X9 T9 B9;clear h71 h72 h73 h74 R7 P9)
  refine pH X9.out rfl rfl ?_
  exact⟨t7,rfl,T9.out,E9.out,B9.out⟩
theorem aJ5{w:World}{x n:Tr}(hx:TB w x)(hn:TB w n)(he:er x=er n):Calls Tryz.prog 29 #[.agg #[.int .i64 x.f.k,.int .i64 x.f.n,.int .i64 x.f.mn,.int .i64 x.f.mx,.slice x.f.rq x.f.rs.length x.f.rc,.slice x.f.kq x.f.kl x.f.kc],.agg #[.int .i64 n.f.k,.int .i64 n.f.n,.int .i64 n.f.mn,.int .i64 n.f.mx,.slice n.f.rq n.f.rs.length n.f.rc,.slice n.f.kq n.f.kl n.f.kc]] w fun e w'=>e=.returned (.bool true)/\Below w.heap.size w w':=by
 have B1:Hid (Below w.heap.size w ((w.alloc (.cells #[.int .i64 x.f.k,.int .i64 x.f.n,.int .i64 x.f.mn,.int .i64 x.f.mx,.slice x.f.rq x.f.rs.length x.f.rc,.slice x.f.kq x.f.kl x.f.kc] 25)).alloc (.cells #[.int .i64 n.f.k,.int .i64 n.f.n,.int .i64 n.f.mn,.int .i64 n.f.mx,.slice n.f.rq n.f.rs.length n.f.rc,.slice n.f.kq n.f.kl n.f.kc] 25))):=(bz9).alloc (by simp) _
 have NX:Hid (BoxN ((w.alloc (.cells #[.int .i64 x.f.k,.int .i64 x.f.n,.int .i64 x.f.mn,.int .i64 x.f.mx,.slice x.f.rq x.f.rs.length x.f.rc,.slice x.f.kq x.f.kl x.f.kc] 25)).alloc (.cells #[.int .i64 n.f.k,.int .i64 n.f.n,.int .i64 n.f.mn,.int .i64 n.f.mx,.slice n.f.rq n.f.rs.length n.f.rc,.slice n.f.kq n.f.kl n.f.kc] 25)) w.heap.size x.f):=(Below.heap_alloc _ _ _ (by simp)).trans (aE w _)
 have NN:Hid (BoxN ((w.alloc (.cells #[.int .i64 x.f.k,.int .i64 x.f.n,.int .i64 x.f.mn,.int .i64 x.f.mx,.slice x.f.rq x.f.rs.length x.f.rc,.slice x.f.kq x.f.kl x.f.kc] 25)).alloc (.cells #[.int .i64 n.f.k,.int .i64 n.f.n,.int .i64 n.f.mn,.int .i64 n.f.mx,.slice n.f.rq n.f.rs.length n.f.rc,.slice n.f.kq n.f.kl n.f.kc] 25)) (w.heap.size+1) n.f):=aC (aJ _ (by simp only [World.size_alloc]))
 have HX:=aC hx
 have HN:=aC hn
 have HE:=aC he
 clear hx hn he
 go_enter Tryz.func29,Tryz.ntmps29
 go_upto_region 1 with fail
 generalize ((w.alloc (.cells #[.int .i64 x.f.k,.int .i64 x.f.n,.int .i64 x.f.mn,.int .i64 x.f.mx,.slice x.f.rq x.f.rs.length x.f.rc,.slice x.f.kq x.f.kl x.f.kc] 25)).alloc (.cells #[.int .i64 n.f.k,.int .i64 n.f.n,.int .i64 n.f.mn,.int .i64 n.f.mx,.slice n.f.rq n.f.rs.length n.f.rc,.slice n.f.kq n.f.kl n.f.kc] 25))=w1 at B1 NX NN ⊢
 generalize w.heap.size+1=bb at NN ⊢
 obtain⟨c0,c1,c2,c3,c4,c5⟩:=NN.out.six
 simp only [Nat.zero_add] at c1 c2 c3 c4 c5
 have RC:=aC (yS (HN.out.kept B1.out))
 obtain⟨C,hC⟩:∃ C,jR n=C:=⟨_,rfl⟩
 rw [hC] at RC
 have HC:=aC hC
 clear hC
 by_cases hb:(2000:Int) < (C:Int)
 ·have db:decide ((2000:Int) < (C:Int))=true:=decide_eq_true hb
  go_wp2_with (go_at_call 57;(with_reducible refine(RC.out).mono ?_);rintro e w5 ⟨rfl,h5⟩;have B5:=aC (aI B1.out h5 lz9);clear h5)
  go_ret
  exact⟨rfl,B5.out⟩
 ·have db:decide ((2000:Int) < (C:Int))=false:=decide_eq_false hb
  have hsz:n.sz<=2000:=by have:=HC.out;unfold jR at this;rw [eM] at this;omega
  have RS:Hid (rsB x n=true):=by
   refine aC ?_
   unfold rsB
   have hl:=congrArg List.length (wI x n [] [] rfl HE.out)
   rw [List.length_map,List.length_map,eM,eM] at hl
   rw [eM,eM,hl,HE.out,decide_eq_false (by omega),xA]
   rfl
  clear hsz
  go_wp2_with first
   |(go_at_call 57;(with_reducible refine(RC.out).mono ?_);rintro e w5 ⟨rfl,h5⟩;have B5:=aC (aI B1.out h5 lz9);have X5:=aC ((HX.out.kept B1.out).kept h5);have N5:=aC ((HN.out.kept B1.out).kept h5);have BN5:BoxN w5 bb n.f:=(h5.block _ (aB NN.out)).trans NN.out;have BX5:BoxN w5 w.heap.size x.f:=(h5.block _ (aB NX.out)).trans NX.out;clear h5 c0 c1 c2 c3 c4 c5;obtain⟨c0,c1,c2,c3,c4,c5⟩:=BN5.six;obtain⟨d0,d1,d2,d3,d4,d5⟩:=BX5.six;simp only [Nat.zero_add] at c1 c2 c3 c4 c5 d1 d2 d3 d4 d5;have SM:=aC (aW9 X5.out N5.out);rw [RS.out] at SM;clear BN5 BX5)
   |(go_at_call 59;(with_reducible refine(SM.out).mono ?_);rintro e w6 ⟨rfl,h6⟩;have B6:=aC (aI B5.out h6 lz9);clear h6)
  go_ret
  exact⟨by simp,B6.out⟩
theorem aS4{w:World}{t:Tr}(c o:Bool)(hta:TB w t)(hsm:Sm t):Calls Tryz.prog 28 #[.agg #[.int .i64 t.f.k,.int .i64 t.f.n,.int .i64 t.f.mn,.int .i64 t.f.mx,.slice t.f.rq t.f.rs.length t.f.rc,.slice t.f.kq t.f.kl t.f.kc],.agg #[.bool c,.bool o]] w fun e w'=>e=.returned (.bool (frV c o t))/\Below w.heap.size w w':=by
 have X1:Hid (Bx2 w ((w.alloc (.cells #[.int .i64 t.f.k,.int .i64 t.f.n,.int .i64 t.f.mn,.int .i64 t.f.mx,.slice t.f.rq t.f.rs.length t.f.rc,.slice t.f.kq t.f.kl t.f.kc] 25)).alloc (.cells #[.bool c,.bool o] 27)) t.f c o):=⟨(bz9).alloc (by simp) _,(Below.heap_alloc _ _ _ (by simp)).trans (aE w _),aJ _ (by simp only [World.size_alloc])⟩
 have RT:Hid (∀ W,Below w.heap.size w W->Calls Tryz.prog 38 #[.agg #[.int .i64 t.f.k,.int .i64 t.f.n,.int .i64 t.f.mn,.int .i64 t.f.mx,.slice t.f.rq t.f.rs.length t.f.rc,.slice t.f.kq t.f.kl t.f.kc],.agg #[.bool c,.bool o]] W fun e w'=>e=.returned (.bool (decide (aT c o 0 0 (pp [] t)=0)))/\Below W.heap.size W w'):=fun W hW=>nB c o (hta.kept hW) hsm
 have UC:Hid (∀ W,Below w.heap.size w W->Calls Tryz.prog 27 #[.agg #[.int .i64 t.f.k,.int .i64 t.f.n,.int .i64 t.f.mn,.int .i64 t.f.mx,.slice t.f.rq t.f.rs.length t.f.rc,.slice t.f.kq t.f.kl t.f.kc],.agg #[.bool c,.bool o]] W (fun e w'=>(∃ (q:Option Addr) (k:Nat),e=.returned (.slice q (usV c o t).length k))/\Below W.heap.size W w')):=fun W hW=>(zK c o (hta.kept hW) hsm).mono (by
  rintro e w' ⟨q,k,h1,h2,h3⟩
  exact⟨⟨q,k,h1⟩,h3⟩)
 obtain⟨N,hN⟩:∃ N,(usV c o t).length=N:=⟨_,rfl⟩
 rw [hN] at UC
 obtain⟨r,hr⟩:∃ r,decide (aT c o 0 0 (pp [] t)=0)=r:=⟨_,rfl⟩
 rw [hr] at RT
 have E:Hid (frV c o t=(r && ((N:Int)==0))):=aC (by
  unfold frV
  unfold usV at hN
  cases r with
  | true=>have h:=of_decide_eq_true hr;rw [if_pos h];rw [if_pos h] at hN;rw [hN];rfl
  | false=>have h:=of_decide_eq_false hr;rw [if_neg h];rfl)
 clear hta hsm hN hr
 go_enter Tryz.func28,Tryz.ntmps28
 go_upto_region 1 with fail
 generalize ((w.alloc (.cells #[.int .i64 t.f.k,.int .i64 t.f.n,.int .i64 t.f.mn,.int .i64 t.f.mx,.slice t.f.rq t.f.rs.length t.f.rc,.slice t.f.kq t.f.kl t.f.kc] 25)).alloc (.cells #[.bool c,.bool o] 27))=w1 at X1 ⊢
 obtain⟨n0,n1,n2,n3,n4,n5⟩:=X1.out.2.1.six
 simp only [Nat.zero_add] at n1 n2 n3 n4 n5
 have a0:=aA X1.out.2.2 (i:=0) rfl
 have a1:=aA X1.out.2.2 (i:=1) rfl
 go_upto_region 2 with (go_at_call 38;refine(RT.out _ X1.out.1).mono ?_;rintro e w2 ⟨rfl,h2⟩;have X2:=aC (X1.out.kept h2);clear h2)
 clear n0 n1 n2 n3 n4 n5 a0 a1
 obtain⟨n0,n1,n2,n3,n4,n5⟩:=X2.out.2.1.six
 simp only [Nat.zero_add] at n1 n2 n3 n4 n5
 have a0:=aA X2.out.2.2 (i:=0) rfl
 have a1:=aA X2.out.2.2 (i:=1) rfl
 cases r with
 | true=>
  go_wp2_with (go_at_call 27;refine(UC.out _ X2.out.1).mono ?_;rintro e w3 ⟨⟨q3,k3,rfl⟩,h3⟩;have B3:=aC (aI X2.out.1 h3 lz9);clear h3)
  go_ret
  exact⟨by rw [E.out];rfl,B3.out⟩
 | false=>
  go_wp2_with (go_at_call 27;refine(UC.out _ X2.out.1).mono ?_;rintro e w3 ⟨⟨q3,k3,rfl⟩,h3⟩;have B3:=aC (aI X2.out.1 h3 lz9);clear h3)
  go_ret
  exact⟨by rw [E.out];rfl,B3.out⟩
end
section
open Go Go.RowKit Go.Shelf
def ErL{T:Type}(ρ:cU T):Prop:=∀ (a b:Tr) xs g,er a=er b->ρ a.f a.ks xs g=ρ b.f b.ks xs g
theorem bA1{T:Type}{ρ:cU T}(hρ:ErL ρ)(a:Tr):∀ (b:Tr) (g:Int->T),er a=er b->ev ρ g a=ev ρ g b:=by
 refine Tr.ind (P:=fun a=>∀ (b:Tr) (g:Int->T),er a=er b->ev ρ g a=ev ρ g b) (fun a ih b g h=>?_) a
 obtain⟨h1,h2,-,-,-,h6⟩:=(nI a b).1 h
 have key:∀ (ks js:List Tr) (g:Int->T),(∀ u∈ks,u∈a.ks)->ks.map er=js.map er->evs ρ g ks=evs ρ g js:=by
  intro ks
  induction ks with
  | nil=>
   intro js g _ hl
   cases js with
   | nil=>rfl
   | cons v js=>cases hl
  | cons u ks ihk=>
   intro js g hm hl
   cases js with
   | nil=>cases hl
   | cons v js=>
    rw [List.map_cons,List.map_cons] at hl
    injection hl with e1 e2
    rw [eR,eR,ih u (hm u List.mem_cons_self) v g e1,ihk js _ (fun z hz=>hm z (List.mem_cons_of_mem _ hz)) e2]
 have hk:=key a.ks b.ks g (fun _ z=>z) h6
 have hf:(ev ρ g a).1=(ev ρ g b).1:=by rw [iW,iW,hk,hρ a b _ _ h]
 refine Prod.ext hf ?_
 rw [jQ,jQ,hk,hf,h1,h2]
theorem aH7(c:Bool):ErL (dY c):=fun a b xs g h=>by
 obtain⟨h1,h2,h3,h4,h5,h6⟩:=(nI a b).1 h
 unfold dY bV eX
 rw [h1,h3,h4,h5]
theorem aV3{ρ:cU Int}(hρ:ErL ρ){c o:Bool}{a b:Tr}(h:er a=er b):tvI ρ c o a=tvI ρ c o b:=by unfold tvI;rw [pT h,bA1 hρ a b _ h]
theorem aM5:∀ {l m:List El},l.map wsg=m.map wsg->bks l=bks m
 | [],[],_=>rfl
 | [],_ :: _,h=>by cases h
 | _ :: _,[],h=>by cases h
 | x :: l,y :: m,h=>by
  rw [List.map_cons,List.map_cons] at h
  injection h with h1 h2
  have hs:sig x.2=sig y.2:=congrArg (fun z:List (Sg × Nat) × Sg=>z.2) h1
  have k1:x.2.f.k=y.2.f.k:=congrArg (fun z:Sg=>z.1) hs
  have k2:x.2.f.n=y.2.f.n:=congrArg (fun z:Sg=>z.2.1) hs
  show (if x.2.f.k=8 then [x.2.f.n] else []) ++ bks l=(if y.2.f.k=8 then [y.2.f.n] else []) ++ bks m
  rw [k1,k2,aM5 h2]
theorem aF2{a b:Tr}(h:er a=er b):usd a=usd b:=by unfold usd;rw [aM5 (wI a b [] [] rfl h)]
theorem aU7{c o:Bool}{a b:Tr}(h:er a=er b):usV c o a=usV c o b:=by unfold usV;rw [pT h,aF2 h]
theorem aY2{c o:Bool}{a b:Tr}(h:er a=er b):frV c o a=frV c o b:=by unfold frV;rw [pT h,aF2 h]
structure LR(w:World)(t x:Tr)(c o:Bool)(bx:Nat)(W:World):Prop where
 nd:BoxN W w.heap.size t.f
 md:W.heap[w.heap.size+1]?=some (.cells #[.bool c,.bool o] 27 (0,0))
 xd:BoxN W bx x.f
 tt:TB W t
 tx:TB W x
 bel:Below w.heap.size w W
theorem LR.kept{w:World}{t x:Tr}{c o:Bool}{bx:Nat}{W W':World}(h:LR w t x c o bx W)(hb:Below W.heap.size W W'):LR w t x c o bx W':=
 ⟨(hb.block _ (aB h.nd)).trans h.nd,(hb.block _ (aB h.md)).trans h.md,(hb.block _ (aB h.xd)).trans h.xd,h.tt.kept hb,h.tx.kept hb,aI h.bel hb lz9⟩
end
section
open Go Go.RowKit Go.Shelf
attribute [local go_sem] Oper.semAt_some bC
def ovr(U:List Int)(i:Nat):List Int:=List.replicate i (-9) ++ U.drop i
theorem yU(U:List Int){i:Nat}(h:i<=U.length):(ovr U i).length=U.length:=by simp [ovr];omega
theorem aI2(U:List Int){i:Nat}{x:Int}(h:U[i]?=some x):(ovr U i)[i]?=some x:=by
 unfold ovr
 rw [List.getElem?_append_right (by simp),List.length_replicate,Nat.sub_self,List.getElem?_drop,Nat.add_zero]
 exact h
theorem aQ4(U:List Int){i:Nat}(h:i < U.length):(ovr U i).set i (-9)=ovr U (i+1):=by
 unfold ovr
 rw [List.set_append_right _ _ (by simp),List.length_replicate,Nat.sub_self,List.drop_eq_getElem_cons h,List.set_cons_zero,List.replicate_succ',List.append_assoc]
 rfl
structure LU(w:World)(t x:Tr)(c o:Bool)(bx:Nat)(q7:Option Addr)(c7:Nat)(U:List Int)(W:World):Prop where
 lr:LR w t x c o bx W
 row:jX w.heap.size W q7 c7 U
theorem LU.kept{w:World}{t x:Tr}{c o:Bool}{bx:Nat}{q7:Option Addr}{c7:Nat}{U:List Int}{W W':World}(h:LU w t x c o bx q7 c7 U W)(hb:Below W.heap.size W W'):LU w t x c o bx q7 c7 U W':=
 ⟨h.lr.kept hb,aL h.row (Fr.of_below (S:=fun _=>False) hb) (fun _ _ q=>q)⟩
theorem xP{w:World}{t:Tr}(c o:Bool)(hT:TB w t)(hf:∀ x∈pp [] t,x.2.f.rs.length<=1048576)(hG:GloS w) :
  Calls Tryz.prog 6 #[.agg #[.int .i64 t.f.k,.int .i64 t.f.n,.int .i64 t.f.mn,.int .i64 t.f.mx,.slice t.f.rq t.f.rs.length t.f.rc,.slice t.f.kq t.f.kl t.f.kc],.agg #[.bool c,.bool o]] w fun e w'=>e=.returned (.bool true)/\Below w.heap.size w w':=by
 have hsm:Sm t:=fun x hx=>Nat.le_trans (hf x hx) (by omega)
 have X1:Hid (Bx2 w ((w.alloc (.cells #[.int .i64 t.f.k,.int .i64 t.f.n,.int .i64 t.f.mn,.int .i64 t.f.mx,.slice t.f.rq t.f.rs.length t.f.rc,.slice t.f.kq t.f.kl t.f.kc] 25)).alloc (.cells #[.bool c,.bool o] 27)) t.f c o):=⟨(bz9).alloc (by simp) _,(Below.heap_alloc _ _ _ (by simp)).trans (aE w _),aJ _ (by simp only [World.size_alloc])⟩
 have EX:Hid (∀ W,Below w.heap.size w W->Calls Tryz.prog 9 #[] W fun e w'=>e=.returned (.bool true)/\Below W.heap.size W w'):=fun W hW=>sV (GloS.ck (CK.of_below hW) hG)
 have LN:Hid (∀ W,Below w.heap.size w W->Calls Tryz.prog 26 #[.agg #[.int .i64 t.f.k,.int .i64 t.f.n,.int .i64 t.f.mn,.int .i64 t.f.mx,.slice t.f.rq t.f.rs.length t.f.rc,.slice t.f.kq t.f.kl t.f.kc]] W fun e w'=>∃ x,e=.returned (.agg #[.int .i64 x.f.k,.int .i64 x.f.n,.int .i64 x.f.mn,.int .i64 x.f.mx,.slice x.f.rq x.f.rs.length x.f.rc,.slice x.f.kq x.f.kl x.f.kc])/\TB w' x/\er x=er t/\Below W.heap.size W w'):=fun W hW=>aJ0 (hT.kept hW)
 have DU:Hid (∀ W,Below w.heap.size w W->Calls Tryz.prog 27 #[.agg #[.int .i64 t.f.k,.int .i64 t.f.n,.int .i64 t.f.mn,.int .i64 t.f.mx,.slice t.f.rq t.f.rs.length t.f.rc,.slice t.f.kq t.f.kl t.f.kc],.agg #[.bool c,.bool o]] W (UsIs W (usV c o t))):=fun W hW=>zK c o (hT.kept hW) hsm
 have DF:Hid (∀ W,Below w.heap.size w W->Calls Tryz.prog 28 #[.agg #[.int .i64 t.f.k,.int .i64 t.f.n,.int .i64 t.f.mn,.int .i64 t.f.mx,.slice t.f.rq t.f.rs.length t.f.rc,.slice t.f.kq t.f.kl t.f.kc],.agg #[.bool c,.bool o]] W fun e w'=>e=.returned (.bool (frV c o t))/\Below W.heap.size W w'):=fun W hW=>aS4 c o (hT.kept hW) hsm
 have DS:Hid (∀ W,Below w.heap.size w W->Calls Tryz.prog 11 #[.agg #[.int .i64 t.f.k,.int .i64 t.f.n,.int .i64 t.f.mn,.int .i64 t.f.mx,.slice t.f.rq t.f.rs.length t.f.rc,.slice t.f.kq t.f.kl t.f.kc],.agg #[.bool c,.bool o]] W fun e w'=>e=.returned (.int .i64 (tvI (dY c) c o t))/\Below W.heap.size W w'):=fun W hW=>aS3 c o (hT.kept hW) hsm
 have HTA:=aC hT
 have PU:Hid (∀ (W:World) (x:Tr),er x=er t->TB W x->Calls Tryz.prog 23 #[.agg #[.int .i64 x.f.k,.int .i64 x.f.n,.int .i64 x.f.mn,.int .i64 x.f.mx,.slice x.f.rq x.f.rs.length x.f.rc,.slice x.f.kq x.f.kl x.f.kc],.agg #[.bool c,.bool o]] W (UsIs W (usV c o t))):=fun W x he hx=>by
  have:=vV c o hx;rw [aU7 he] at this;exact this
 have PF:Hid (∀ (W:World) (x:Tr),er x=er t->TB W x->Calls Tryz.prog 22 #[.agg #[.int .i64 x.f.k,.int .i64 x.f.n,.int .i64 x.f.mn,.int .i64 x.f.mx,.slice x.f.rq x.f.rs.length x.f.rc,.slice x.f.kq x.f.kl x.f.kc],.agg #[.bool c,.bool o]] W fun e w'=>e=.returned (.bool (frV c o t))/\Below W.heap.size W w'):=fun W x he hx=>by
  have:=qF c o hx;rw [aY2 he] at this;exact this
 have PS:Hid (∀ (W:World) (x:Tr),er x=er t->TB W x->Calls Tryz.prog 24 #[.agg #[.int .i64 x.f.k,.int .i64 x.f.n,.int .i64 x.f.mn,.int .i64 x.f.mx,.slice x.f.rq x.f.rs.length x.f.rc,.slice x.f.kq x.f.kl x.f.kc],.agg #[.bool c,.bool o]] W fun e w'=>e=.returned (.int .i64 (tvI (dY c) c o t))/\Below W.heap.size W w'):=fun W x he hx=>by
  have:=vX c o hx;rw [aV3 (aH7 c) he] at this;exact this
 have hUl:(usV c o t).length<=2000:=by
  unfold usV
  split
  ·rename_i hr;rw [aF1 hr];have:=yE (pp [] t) 9;omega
  ·simp
 generalize usV c o t=U at DU PU hUl
 generalize frV c o t=Fb at DF PF
 generalize tvI (dY c) c o t=Sz at DS PS
 clear hT hf hG hsm
 go_enter Tryz.func6,Tryz.ntmps6
 go_upto_region 1 with fail
 generalize ((w.alloc (.cells #[.int .i64 t.f.k,.int .i64 t.f.n,.int .i64 t.f.mn,.int .i64 t.f.mx,.slice t.f.rq t.f.rs.length t.f.rc,.slice t.f.kq t.f.kl t.f.kc] 25)).alloc (.cells #[.bool c,.bool o] 27))=w1 at X1 ⊢
 go_upto_region 2 with (go_at_call 9;refine(EX.out _ X1.out.1).mono ?_;rintro e w2 ⟨rfl,h2⟩;have X2:=aC (X1.out.kept h2);clear h2)
 obtain⟨n0,n1,n2,n3,n4,n5⟩:=X2.out.2.1.six
 simp only [Nat.zero_add] at n1 n2 n3 n4 n5
 go_upto_region 3 with (go_at_call 26;refine(LN.out _ X2.out.1).mono ?_;rintro e w3 ⟨x,rfl,h31,h32,h33⟩;have T3:=aC h31;have E3:=aC h32;have X3:=aC (X2.out.kept h33);clear h31 h32 h33)
 have L4:Hid (LR w t x c o w3.heap.size (w3.alloc (.cells #[.int .i64 x.f.k,.int .i64 x.f.n,.int .i64 x.f.mn,.int .i64 x.f.mx,.slice x.f.rq x.f.rs.length x.f.rc,.slice x.f.kq x.f.kl x.f.kc] 25))):=by
  have hb:Below w3.heap.size w3 (w3.alloc (.cells #[.int .i64 x.f.k,.int .i64 x.f.n,.int .i64 x.f.mn,.int .i64 x.f.mx,.slice x.f.rq x.f.rs.length x.f.rc,.slice x.f.kq x.f.kl x.f.kc] 25)):=bz9
  have X4:=X3.out.kept hb
  exact⟨X4.2.1,X4.2.2,aE w3 _,HTA.out.kept X4.1,T3.out.kept hb,X4.1⟩
 clear n0 n1 n2 n3 n4 n5
 generalize w3.heap.size=bx at L4 ⊢
 generalize (w3.alloc (.cells #[.int .i64 x.f.k,.int .i64 x.f.n,.int .i64 x.f.mn,.int .i64 x.f.mx,.slice x.f.rq x.f.rs.length x.f.rc,.slice x.f.kq x.f.kl x.f.kc] 25))=w4 at L4 ⊢
 obtain⟨n0,n1,n2,n3,n4,n5⟩:=L4.out.nd.six
 simp only [Nat.zero_add] at n1 n2 n3 n4 n5
 have a0:=aA L4.out.md (i:=0) rfl
 have a1:=aA L4.out.md (i:=1) rfl
 go_upto_region 4 with (go_at_call 27;refine(DU.out _ L4.out.bel).mono ?_;rintro e w5 ⟨q7,c7,rfl,h51,h52⟩;have U5:Hid (LU w t x c o bx q7 c7 U w5):=⟨L4.out.kept h52,cY h51 L4.out.bel.size⟩;clear h51 h52)
 clear n0 n1 n2 n3 n4 n5 a0 a1
 go_upto_region 5 with fail
 go_loopw [8] (fun i wr=>∃ j:Nat,j<=2/\i=.int .i64 (j:Int)/\LU w t x c o bx q7 c7 U wr) (fun i _=>2 - (intOf i).toNat)
 case atStart=>exact⟨0,by omega,rfl,U5.out⟩
 case round=>
  obtain⟨j,hj,rfl,hV⟩:=hrel
  have K:=aC hV
  clear hV
  obtain⟨x0,x1,x2,x3,x4,x5⟩:=K.out.lr.xd.six
  simp only [Nat.zero_add] at x1 x2 x3 x4 x5
  have a0:=aA K.out.lr.md (i:=0) rfl
  have a1:=aA K.out.lr.md (i:=1) rfl
  have lx:=aB K.out.lr.xd
  rename World=>W1
  by_cases hlt:j < 2
  ·have i1:(j:Int) < 2:=by omega
   have hwr:IntKind.wrap .i64 ((j:Int)+1)=(j:Int)+1:=wrap_small _ (by omega) (by omega)
   have y1:((U.length:Int) != (U.length:Int))=false:=by simp
   have y2:(U.length != U.length)=false:=by simp
   go_upto_region 11 with (go_at_call 23;refine(PU.out _ x E3.out K.out.lr.tx).mono ?_;rintro e w6 ⟨q9,c9,rfl,h61,h62⟩;have R6:=aC h61;have B6:=aC h62;clear h61 h62)
   clear x0 x1 x2 x3 x4 x5 a0 a1
   go_loopw [10] (fun i wr=>∃ k:Nat,k<=U.length/\i=.int .i64 (k:Int)/\jX W1.heap.size wr q9 c9 (ovr U k)/\Below W1.heap.size W1 wr) (fun i _=>U.length - (intOf i).toNat)
   case atStart=>exact⟨0,Nat.zero_le _,rfl,by simpa [ovr] using R6.out,B6.out⟩
   case round=>
    obtain⟨k,hk,rfl,hr,hb⟩:=hrel
    have RK:=aC hr
    have BK:=aC hb
    have KK:=aC (K.out.kept hb)
    have hol:=yU U hk
    clear hr hb
    by_cases hkl:k < U.length
    ·have i2:(k:Int) < (U.length:Int):=by omega
     have hw2:IntKind.wrap .i64 ((k:Int)+1)=(k:Int)+1:=wrap_small _ (by omega) (by omega)
     obtain⟨v,hv⟩:∃ v,U[k]?=some v:=⟨_,List.getElem?_eq_getElem hkl⟩
     have hov:=aI2 U hv
     have HVK:=aC hv
     have OS:=aC (aQ4 U hkl)
     obtain⟨g7,k7,e7⟩:=aK KK.out.row (by omega)
     injection e7 with e71 _ e72
     have RK2:=RK.out
     unfold jX at RK2
     rw [hol] at RK2
     obtain⟨g9,k9,e9⟩:=aK RK2 (by omega)
     injection e9 with e91 _ e92
     subst e71 e72 e91 e92
     have d7:=aO KK.out.row (j:=k) (u:=.int .i64 v) (by rw [List.getElem?_map,hv];rfl)
     have d9:=aO RK2 (j:=k) (u:=.int .i64 v) (by rw [List.getElem?_map,hov];rfl)
     have hg9:=aC (aF RK2 rfl).1
     have hg9t:=aC (aF RK2 rfl).2
     have HR2:=aC RK2
     have y3:(v != v)=false:=by simp
     have HOL:=aC (yU U (show k+1<=U.length by omega))
     have l9:=hg9t.out.1
     have l7:=(aF KK.out.row rfl).2.1
     clear RK2 hov hol hv
     go_upto_region 13 with fail
     refine wx9 ?_
     repeat (go_big_quiet_step (first | exact rfl))
     refine wpQuiet_nil ?_
     intro w8 hw
     have B8:=aC (aI BK.out (aP hw) lz9)
     have R8:=aC (aL HR2.out (Fr.of_below (S:=fun _=>False) (aP hw)) (fun _ _ q=>q))
     clear hw d7 d9
     obtain⟨-,cur,hcur⟩:=(aF R8.out rfl).2
     have d9:=aO R8.out (j:=k) (u:=.int .i64 v) (by rw [List.getElem?_map,aI2 U HVK.out];rfl)
     have f9:=aG hcur k
     have S8:=aC (mZ R8.out k (.int .i64 (-9)))
     have B9:=aC (B8.out.setCell (p:=⟨g9,k,none⟩) hg9.out (.int .i64 (-9)))
     go_wp2
     go_roundw
     case rel=>
      refine⟨k+1,by omega,by go_num,?_,B9.out⟩
      unfold jX
      rw [HOL.out,<- OS.out,List.map_set]
      exact S8.out
     case measure=>simp only [intOf];omega
    ·have i2:¬ (k:Int) < (U.length:Int):=by omega
     go_wp2
     go_roundw
     case rel=>exact⟨j+1,by omega,by go_num,KK.out⟩
     case measure=>simp only [intOf];omega
  ·have i1:¬ (j:Int) < 2:=by omega
   obtain⟨n0,n1,n2,n3,n4,n5⟩:=K.out.lr.nd.six
   simp only [Nat.zero_add] at n1 n2 n3 n4 n5
   have ln:=aB K.out.lr.nd
   have lm:=aB K.out.lr.md
   have PF2:Hid (∀ W,Below W1.heap.size W1 W->Calls Tryz.prog 22 #[.agg #[.int .i64 x.f.k,.int .i64 x.f.n,.int .i64 x.f.mn,.int .i64 x.f.mx,.slice x.f.rq x.f.rs.length x.f.rc,.slice x.f.kq x.f.kl x.f.kc],.agg #[.bool c,.bool o]] W fun e w'=>e=.returned (.bool Fb)/\Below W.heap.size W w'):=fun W hW=>PF.out W x E3.out (K.out.lr.tx.kept hW)
   have DF2:Hid (∀ W,Below W1.heap.size W1 W->Calls Tryz.prog 28 #[.agg #[.int .i64 t.f.k,.int .i64 t.f.n,.int .i64 t.f.mn,.int .i64 t.f.mx,.slice t.f.rq t.f.rs.length t.f.rc,.slice t.f.kq t.f.kl t.f.kc],.agg #[.bool c,.bool o]] W fun e w'=>e=.returned (.bool Fb)/\Below W.heap.size W w'):=fun W hW=>DF.out W (aI K.out.lr.bel hW lz9)
   go_upto_region 16 with fail
   refine wx9 ?_
   repeat (go_big_quiet_step (first | exact rfl |(go_at_call 22;exact cB (PF2.out _ (eZ _))) |(go_at_call 28;exact cB (DF2.out _ (eZ _)))))
   refine wpQuiet_nil ?_
   intro w8 hw
   have K8:=aC (K.out.lr.kept (aP hw))
   clear hw n0 n1 n2 n3 n4 n5 x0 x1 x2 x3 x4 x5 a0 a1 ln lm lx
   obtain⟨n0,n1,n2,n3,n4,n5⟩:=K8.out.nd.six
   simp only [Nat.zero_add] at n1 n2 n3 n4 n5
   obtain⟨x0,x1,x2,x3,x4,x5⟩:=K8.out.xd.six
   simp only [Nat.zero_add] at x1 x2 x3 x4 x5
   have a0:=aA K8.out.md (i:=0) rfl
   have a1:=aA K8.out.md (i:=1) rfl
   have ln:=aB K8.out.nd
   have lm:=aB K8.out.md
   have lx:=aB K8.out.xd
   have PS2:Hid (∀ W,Below w8.heap.size w8 W->Calls Tryz.prog 24 #[.agg #[.int .i64 x.f.k,.int .i64 x.f.n,.int .i64 x.f.mn,.int .i64 x.f.mx,.slice x.f.rq x.f.rs.length x.f.rc,.slice x.f.kq x.f.kl x.f.kc],.agg #[.bool c,.bool o]] W fun e w'=>e=.returned (.int .i64 Sz)/\Below W.heap.size W w'):=fun W hW=>PS.out W x E3.out (K8.out.tx.kept hW)
   have DS2:Hid (∀ W,Below w8.heap.size w8 W->Calls Tryz.prog 11 #[.agg #[.int .i64 t.f.k,.int .i64 t.f.n,.int .i64 t.f.mn,.int .i64 t.f.mx,.slice t.f.rq t.f.rs.length t.f.rc,.slice t.f.kq t.f.kl t.f.kc],.agg #[.bool c,.bool o]] W fun e w'=>e=.returned (.int .i64 Sz)/\Below W.heap.size W w'):=fun W hW=>DS.out W (aI K8.out.bel hW lz9)
   go_upto_region 17 with fail
   refine wx9 ?_
   repeat (go_big_quiet_step (first | exact rfl |(go_at_call 24;exact cB (PS2.out _ (eZ _))) |(go_at_call 11;exact cB (DS2.out _ (eZ _)))))
   refine wpQuiet_nil ?_
   intro w9 hw
   have K9:=aC (K8.out.kept (aP hw))
   clear hw n0 n1 n2 n3 n4 n5 x0 x1 x2 x3 x4 x5 a0 a1 ln lm lx
   obtain⟨n0,n1,n2,n3,n4,n5⟩:=K9.out.nd.six
   simp only [Nat.zero_add] at n1 n2 n3 n4 n5
   obtain⟨x0,x1,x2,x3,x4,x5⟩:=K9.out.xd.six
   simp only [Nat.zero_add] at x1 x2 x3 x4 x5
   have KP:=aC (aJ5 K9.out.tx K9.out.tt E3.out)
   go_wp2_with (go_at_call 29;refine(KP.out).mono ?_;rintro e w10 ⟨rfl,h10⟩;have K10:=aC (K9.out.kept h10);clear h10)
   go_ret
   exact⟨by simp,K10.out.bel⟩
end
section
open Go Go.ChangeShapes Go.WideShapes Go.ChangeAt Go.RowKit
theorem pX:Tryz.prog.cellsOf 25=6:=by kernel_rfl
theorem aD5:Tryz.prog.cellsOf 110=2:=by kernel_rfl
theorem xU:Tryz.prog.cellsOf 22=1:=by kernel_rfl
theorem xV:Tryz.prog.cellsOf 23=1:=by kernel_rfl
theorem vP{w:World}{g o:Nat}{v:Value}(h:w.cell? ⟨g,o,none⟩=some v):g < w.heap.size:=by
 rcases Nat.lt_or_ge g w.heap.size with h' | h'
 ·exact h'
 ·have:w.heap[g]?=none:=Array.getElem?_eq_none h'
  simp [World.cell?,this] at h
theorem vU{a:Addr}{W:World}{v:Value}(h:W.cell? (a.add 0)=some v):∃ b off,a=⟨b,off,none⟩:=by
 obtain⟨b,off,cL⟩:=a
 cases cL with
 | none=>exact⟨b,off,rfl⟩
 | some k=>
  exfalso
  unfold Addr.add World.cell? at h
  simp at h
  split at h <;> simp_all
theorem vL:Tryz.prog.cellsOf 27=2:=by kernel_rfl
theorem vM:Tryz.prog.cellsOf 4=1:=by kernel_rfl
theorem xM{H:Type}{enc:TypeId × Value->H}{W:World}{base:Nat}{v:Value}{d:DataW H}{p:List MemPlace}(hok:Value.okWide Tryz.prog W .any base 27 v)
  (h:DataW.Trod enc Tryz.prog W 0 (fun _=>true) true 27 v d p):∃ c f:Bool,v=.agg #[.bool c,.bool f]:=by
 obtain⟨cs,rfl,hsz⟩:=okWide_struct Tryz.underlying27 hok
 obtain⟨fuel,hf⟩:=h
 obtain⟨xs,k,hk,hxy,hcl,hxl,hfs⟩:=DataW.trod_struct Tryz.underlying27 hf
 rw [vL] at hcl
 obtain⟨l⟩:=cs
 simp [Value.cells] at hcl hfs
 match xs,hxl,l,hcl,hfs with
 | [y0,y1],_,[c0,c1],_,hf=>
  have F0:=hf 0 _ rfl
  have F1:=hf 1 _ rfl
  simp [vM] at F0 F1
  obtain⟨b0,e0,-⟩:=DataW.trod_bool Tryz.underlying4 F0
  obtain⟨b1,e1,-⟩:=DataW.trod_bool Tryz.underlying4 F1
  cases e0;cases e1
  exact⟨b0,b1,rfl⟩
end
section
open Go Go.ChangeShapes Go.WideShapes Go.ChangeAt Go.RowKit
theorem aD6{H:Type}(d:DataW H):1<=Rows.uptoBulk d:=by
 cases d with
 | lit l=>cases l <;> simp [Rows.uptoBulk]
 | nil=>simp [Rows.uptoBulk]
 | ptr d=>simp [Rows.uptoBulk]
 | slice elems spare=>simp [Rows.uptoBulk]
 | agg parts=>simp [Rows.uptoBulk]
 | iface t d=>simp [Rows.uptoBulk]
 | map entries=>simp [Rows.uptoBulk]
 | held h=>simp [Rows.uptoBulk]
theorem jA{H:Type}{d:DataW H}{l:List (DataW H)}(h:d∈l):Rows.uptoBulk d<=Rows.uptoBulkAll l:=by
 induction l with
 | nil=>cases h
 | cons x r ih=>
  simp only [Rows.uptoBulkAll]
  cases List.mem_cons.1 h with
  | inl e=>subst e;omega
  | inr e=>have:=ih e;omega
theorem aD7{H:Type}(l:List (DataW H)):l.length<=Rows.uptoBulkAll l:=by
 induction l with
 | nil=>simp [Rows.uptoBulkAll]
 | cons x r ih=>have:=aD6 x;simp only [Rows.uptoBulkAll,List.length_cons];omega
theorem aM3{H:Type}{d:DataW H}{l:List (DataW H)}(hk:Rows.uptoSmall H l=true)(h:d∈l):Rows.uptoBulk d<=1048576:=Nat.le_trans (jA h) (of_decide_eq_true hk)
theorem xJ{H:Type}{enc:TypeId × Value->H}{W:World}{fuel:Nat}{v:Value}{x:DataW H × List MemPlace}(hf:DataW.trod enc Tryz.prog W 0 (fun _=>true) true fuel 22 [v]=some x)(hw:Rows.uptoBulk x.1<=1048576) :
  ∃ (rs:List (Int × Int)) (q:Option Addr) (c:Nat),v=.slice q rs.length c/\ArgR W v rs/\Fit rs/\rs.length+3<=1048579:=by
 rcases Deep.open_slice_pairs Tryz.underlying22 Tryz.underlying110 aD5 rfl rfl iK iK hf with⟨h1,h2⟩ | ⟨a,len,cap,m,n,V0,V1,D0,D1,P0,P1,h1,_,hlc,hcap,hm,h2,hx⟩
 ·cases h1
  exact⟨[],none,0,rfl,.inl ⟨none,0,rfl,rfl,fun _=>rfl⟩,iV,by simp⟩
 ·cases h1
  rw [if_pos rfl] at hm
  subst hm
  by_cases hc:m=0
  ·have hl:len=0:=by omega
   subst hc hl
   exact⟨[],some a,0,rfl,.inl ⟨some a,0,rfl,rfl,fun q=>(by cases q)⟩,iV,by simp⟩
  ·have hp:∀ i,i < m->∃ q:Int × Int,V0 i=.int .i64 q.1/\V1 i=.int .i64 q.2/\(Lit.int .i64 q.1).wf=true/\(Lit.int .i64 q.2).wf=true:=fun i hi=>by
    obtain⟨_,_,g0,g1⟩:=hx i hi
    obtain⟨x0,e0,_,w0⟩:=DataW.trod_int Tryz.underlying3 g0
    obtain⟨x1,e1,_,w1⟩:=DataW.trod_int Tryz.underlying3 g1
    exact⟨(x0,x1),by simpa using e0,by simpa using e1,w0,w1⟩
   obtain⟨q,hq⟩:=Deep.choose_lt hp
   have c0:=(hx 0 (by omega)).1
   obtain⟨b,off,rfl⟩:=vU (by simpa using c0)
   have hadd:∀ j,(⟨b,off,none⟩:Addr).add j=⟨b,off+j,none⟩:=fun j=>by unfold Addr.add;split <;> simp_all
   have hb:b < W.heap.size:=by rw [hadd] at c0;exact vP c0
   refine⟨(List.range len).map q,some ⟨b,off,none⟩,m,by simp,.inr ⟨b,off,m,by simp,hb,by simpa using hlc,hcap,fun i r hi'=>?_⟩,fun r hr=>?_,?_⟩
   ·have hil:i < len:=by have:=(List.getElem?_eq_some_iff.1 hi').1;simpa using this
    have hqi:q i=r:=by simpa [hil] using hi'
    obtain⟨k0,k1,_,_⟩:=hx i (by omega)
    rw [hadd,Nat.mul_comm] at k0
    rw [hadd,Nat.mul_comm,<- Nat.add_assoc] at k1
    obtain⟨r0,r1,_,_⟩:=hq i (by omega)
    rw [hqi] at r0 r1
    exact⟨by rw [k0,r0],by rw [k1,r1]⟩
   ·obtain⟨i,hi,rfl⟩:=List.mem_map.1 hr
    have hil:i < len:=List.mem_range.1 hi
    obtain⟨_,_,w0,w1⟩:=hq i (by omega)
    exact⟨tW w0,tW w1⟩
   ·obtain⟨es,sp,e1,e2⟩:∃ es sp,x.1=.slice es sp/\es.length=len:=⟨_,_,congrArg Prod.fst h2,by simp⟩
    rw [e1] at hw
    simp only [Rows.uptoBulk] at hw
    have:=aD7 es
    simp
    omega
theorem xL{H:Type}{enc:TypeId × Value->H}{W:World}:∀ (fuel:Nat) (cs:List Value) (x:DataW H × List MemPlace),DataW.trod enc Tryz.prog W 0 (fun _=>true) true fuel 25 cs=some x->Rows.uptoBulk x.1<=1048576 ->
  ∃ t:Tr,(TB W t/\bM (fun u=>u.f.rs.length<=1048576) t)/\cs=[.int .i64 t.f.k,.int .i64 t.f.n,.int .i64 t.f.mn,.int .i64 t.f.mx,.slice t.f.rq t.f.rs.length t.f.rc,.slice t.f.kq t.f.kl t.f.kc]:=by
 intro fuel
 induction fuel using Nat.strongRecOn with
 | ind fuel ih=>
  intro cs x hf hw
  obtain⟨xs,k,hk,hxy,hcl,hxl,hfs⟩:=DataW.trod_struct Tryz.underlying25 hf
  have hD:x.1=.agg (xs.map (·.1)):=(congrArg Prod.fst hxy)
  rw [hD] at hw
  simp only [Rows.uptoBulk] at hw
  rw [pX] at hcl
  clear hD hxy hf
  match xs,hxl,cs,hcl,hfs,hw with
  | [y0,y1,y2,y3,y4,y5],_,[v0,v1,v2,v3,v4,v5],_,hf,hwi=>
   have F0:=hf 0 _ rfl
   have F1:=hf 1 _ rfl
   have F2:=hf 2 _ rfl
   have F3:=hf 3 _ rfl
   have F4:=hf 4 _ rfl
   have F5:=hf 5 _ rfl
   simp [iK,xU,xV] at F0 F1 F2 F3 F4 F5
   obtain⟨x0,e0,_,w0⟩:=DataW.trod_int Tryz.underlying3 F0
   obtain⟨x1,e1,_,w1⟩:=DataW.trod_int Tryz.underlying3 F1
   obtain⟨x2,e2,_,w2⟩:=DataW.trod_int Tryz.underlying3 F2
   obtain⟨x3,e3,_,w3⟩:=DataW.trod_int Tryz.underlying3 F3
   obtain⟨rs,q,c,rfl,hr,hfit,hlen⟩:=xJ F4 (by have:=jA (d:=y4.1) (l:=[y0,y1,y2,y3,y4,y5].map (·.1)) (by simp);omega)
   cases e0;cases e1;cases e2;cases e3
   have hwk:Rows.uptoBulk y5.1<=1048576:=by have:=jA (d:=y5.1) (l:=[y0,y1,y2,y3,y4,y5].map (·.1)) (by simp);omega
   rcases DataW.trod_slice Tryz.underlying23 F5 with⟨h1,h2⟩ | ⟨a,len,cap,elems,rest,n,hn,h1,h2,_,hlc,hcap,hel,hx,-,-⟩
   ·cases h1
    exact⟨.mk ⟨x0,x1,x2,x3,rs,q,c,none,0,0⟩ [],⟨(aX _).2 ⟨⟨hr,.inl ⟨none,0,rfl,rfl,fun _=>rfl⟩,hfit,Nat.le_trans hlen (by decide)⟩,(bJ _).2 fun u hu=>by cases hu⟩,(aX _).2 ⟨(show rs.length<=1048576 by omega),(bJ _).2 fun u hu=>by cases hu⟩⟩,rfl⟩
   ·cases h1
    by_cases hl:len=0
    ·subst hl
     exact⟨.mk ⟨x0,x1,x2,x3,rs,q,c,some a,0,cap⟩ [],⟨(aX _).2 ⟨⟨hr,.inl ⟨some a,cap,rfl,rfl,fun z=>by cases z⟩,hfit,Nat.le_trans hlen (by decide)⟩,(bJ _).2 fun u hu=>by cases hu⟩,(aX _).2 ⟨(show rs.length<=1048576 by omega),(bJ _).2 fun u hu=>by cases hu⟩⟩,rfl⟩
    ·have each:∀ i,i < len->∃ t:Tr,(TB W t/\bM (fun u=>u.f.rs.length<=1048576) t)/\∀ j v,[Value.int .i64 t.f.k,.int .i64 t.f.n,.int .i64 t.f.mn,.int .i64 t.f.mx,.slice t.f.rq t.f.rs.length t.f.rc,.slice t.f.kq t.f.kl t.f.kc][j]?=some v->W.cell? (a.add (i * 6+j))=some v:=by
      intro i hi
      have hxi:=hx i hi
      rw [List.getElem?_eq_getElem (by omega)] at hxi
      obtain⟨cs',g1,g2⟩:=Option.bind_eq_some_iff.1 hxi
      rw [pX] at g1
      obtain⟨_,hlc',hcell⟩:=World.cells?_some g1
      obtain⟨t,ht,hcs⟩:=ih n (by omega) cs' _ g2 (by
       rw [show y5.1=.slice (elems.map (·.1)) (rest.map (·.1)) from congrArg Prod.fst h2] at hwk
       simp only [Rows.uptoBulk] at hwk
       refine Nat.le_trans (jA (l:=elems.map (·.1)) (List.mem_map.2 ⟨_,List.getElem_mem _,rfl⟩)) (by omega))
      refine⟨t,ht,fun j v hj=>?_⟩
      have hj6:j < 6:=by have:=(List.getElem?_eq_some_iff.1 hj).1;simpa using this
      have:=hcell j (by omega)
      rw [Deep.add_add] at this
      rw [this,hcs]
      exact hj
     have:Inhabited Tr:=⟨.mk ⟨0,0,0,0,[],none,0,none,0,0⟩ []⟩
     obtain⟨tt,htt⟩:=Deep.choose_lt each
     have c0:=(htt 0 (by omega)).2 0 _ rfl
     obtain⟨b,off,rfl⟩:=vU (by simpa using c0)
     have hadd:∀ j,(⟨b,off,none⟩:Addr).add j=⟨b,off+j,none⟩:=fun j=>by unfold Addr.add;split <;> simp_all
     have hb:b < W.heap.size:=by rw [hadd] at c0;exact vP c0
     refine⟨.mk ⟨x0,x1,x2,x3,rs,q,c,some ⟨b,off,none⟩,len,cap⟩ ((List.range len).map tt),⟨(aX _).2 ⟨⟨hr,.inr ⟨b,off,cap,by simp [Tr.f,Tr.ks],hb,by simpa [Tr.ks] using hlc,hcap,fun i t hi=>?_⟩,hfit,Nat.le_trans hlen (by decide)⟩,(bJ _).2 fun u hu=>?_⟩,(aX _).2 ⟨(show rs.length<=1048576 by omega),(bJ _).2 fun u hu=>?_⟩⟩,rfl⟩
     ·have hi':((List.range len).map tt)[i]?=some t:=hi
      have hil:i < len:=by have:=(List.getElem?_eq_some_iff.1 hi').1;simpa using this
      have hqi:tt i=t:=by simpa [hil] using hi'
      have hh:=(htt i hil).2
      rw [hqi] at hh
      simp only [hadd,<- Nat.add_assoc] at hh
      exact⟨hh 0 _ rfl,hh 1 _ rfl,hh 2 _ rfl,hh 3 _ rfl,hh 4 _ rfl,hh 5 _ rfl⟩
     ·have hu':u∈(List.range len).map tt:=hu
      obtain⟨i,hi,rfl⟩:=List.mem_map.1 hu'
      exact(htt i (List.mem_range.1 hi)).1.1
     ·have hu':u∈(List.range len).map tt:=hu
      obtain⟨i,hi,rfl⟩:=List.mem_map.1 hu'
      exact(htt i (List.mem_range.1 hi)).1.2
theorem xK{H:Type}{enc:TypeId × Value->H}{W:World}{base:Nat}{v:Value}{d:DataW H}{p:List MemPlace}(hok:Value.okWide Tryz.prog W .any base 25 v)
  (h:DataW.Trod enc Tryz.prog W 0 (fun _=>true) true 25 v d p) (hw:Rows.uptoBulk d<=1048576):∃ t:Tr,TB W t/\(∀ x∈pp [] t,x.2.f.rs.length<=1048576)/\v=.agg #[.int .i64 t.f.k,.int .i64 t.f.n,.int .i64 t.f.mn,.int .i64 t.f.mx,.slice t.f.rq t.f.rs.length t.f.rc,.slice t.f.kq t.f.kl t.f.kc]:=by
 obtain⟨cs,rfl,hsz⟩:=okWide_struct Tryz.underlying25 hok
 obtain⟨fuel,hf⟩:=h
 obtain⟨t,⟨ht,hs⟩,hcs⟩:=xL fuel _ _ hf hw
 refine⟨t,ht,fun x hx=>((aX _).1 (pS (P:=fun u=>u.f.rs.length<=1048576) t [] hs x hx)).1,?_⟩
 obtain⟨l⟩:=cs
 simp [Value.cells] at hcs
 rw [hcs]
end
end Go.Proofs.YtjafnbjipgediaaGreatDoor
