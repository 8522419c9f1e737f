/-
  Parts of the proof.
-/
import Derived.Test.YtlaimbkenbijeaaGreatDoorTextsProofA0
import Derived.Test.YtlaimbkenbijeaaGreatDoorTextsProofB35
import Derived.Test.YtlaimbkenbijeaaGreatDoorTextsProofB33
import Derived.Test.YtlaimbkenbijeaaGreatDoorTextsProofB34
import Derived.Test.YtlaimbkenbijeaaGreatDoorTextsProofB26
import Derived.Test.YtlaimbkenbijeaaGreatDoorTextsProofB2
import Derived.Test.YtlaimbkenbijeaaGreatDoorTextsProofB3
import Derived.Deep.Slices
import Derived.Deep.SlicePairs
import Derived.ChangeSame
import Derived.SizedLaws
import Derived.Test.YtlaimbkenbijeaaGreatDoorRows
set_option maxRecDepth 100000
set_option maxHeartbeats 8000000
namespace Go.Proofs.YtlaimbkenbijeaaGreatDoor
open Go Go.RowKit
section
attribute [local go_sem] Oper.semAt_some bB
theorem bF0{c o:Bool}{B b:Nat}{t:Tr}{G:Int->BitVec 256 × Bool}(hr:aY c o 0 0 (pp [] t)=0)(hG:∀ z∈pp [] t,z.2.f.k=7->G z.2.f.n=evG (bJ c) G z.2) :
  ∀ (k m i:Nat) (x:El),(pp [] t)[i]?=some x->i+x.2.sz<=k->x.2.sz<=m->∀ w,KSF B b t c o G w->Calls Tryz.prog 63 #[.pointer (some ⟨b,0,none⟩),.agg #[.int .i64 x.2.f.k,.int .i64 x.2.f.n,.int .i64 x.2.f.mn,.int .i64 x.2.f.mx,.slice x.2.f.rq x.2.f.rs.length x.2.f.rc,.slice x.2.f.kq x.2.f.kl x.2.f.kc]] w (FP b t c o G (evG (bJ c) G x.2) w):=by
 have hgp:=uS hr
 have hlen:=mR hr
 have hnp:=gC hr
 intro k
 induction k with
 | zero=>intro m i x _ h;exact absurd h (by have:=eV x.2;omega)
 | succ k ihk=>
  intro m
  induction m with
  | zero=>intro i x _ _ h;exact absurd h (by have:=eV x.2;omega)
  | succ m ihm=>
   intro i x hx hk hm w hks
   have hmem:=i9 hx
   have hil:=aG9 hx
   refine aP5 hmem (oY t [] hnp x hmem) ?_ (fun u hu W hW=>?_) (fun h8=>?_) w hks
   ·have:=eJ t []
    omega
   ·obtain⟨j,hj⟩:=List.getElem?_of_mem hu
    obtain⟨h1,h2⟩:=bL7 hx hj
    exact ihm _ _ h1 (by simp only;omega) (by have:=dM hu;simp only;omega) W hW
   ·obtain⟨j,y,y1,y2,y3,y4⟩:=bG7 hgp hx h8
    refine⟨y.2,fun W hW=>?_,fun W hW=>?_⟩
    ·refine bE6 x.2.f.n hW.tb hlen y1 (bM0 y2 y3) (fun i' x' hi' hx'=>?_)
     cases hg:isG x.2.f.n x' with
     | false=>rfl
     | true=>
      unfold isG at hg
      rw [aAT] at hg
      have e:=bE5 hgp y1 y2 hx' (by simpa using hg.1) (by rw [y3];exact(by simpa using hg.2:x'.2.f.n=x.2.f.n).symm)
      omega
    ·have e:=hG y (i9 y1) y2
     rw [y3] at e
     rw [e]
     have hs:=eV x.2
     exact ihk y.2.sz j y y1 (by omega) lz9 W hW
theorem bJ0(c o:Bool)(t:Tr):tvS (bJ c) c o t=if aY c o 0 0 (pp [] t)=0 then (ev (bJ c) (fun _=>(0#256,false)) t).1 else (0#256,false):=rfl
theorem sJ{R:Ending->World->Prop}{a:Act}{W:World}{b:Nat}{x:BitVec 256 × Bool}(h:W.heap[b]?=some (.cells #[.int .u64 (aC x.1 0),.int .u64 (aC x.1 1),.int .u64 (aC x.1 2),.int .u64 (aC x.1 3)] 36 (0,0)))(ha:a.tmps[4]?.getD undef=.pointer (some ⟨b,0,none⟩))(hb:a.tmps[5]?.getD undef=.bool x.2)(hd:a.defers=[])(hR:R (.returned (stV x)) W):bodyPost Tryz.prog Tryz.f32 R .ret a W:=by
 refine bodyPost_ret (v:=stV x) ?_ hd hR
 have z0:=aA h (i:=0) rfl;have z1:=aA h (i:=1) rfl;have z2:=aA h (i:=2) rfl;have z3:=aA h (i:=3) rfl
 simp [results,Tryz.results32,go_sem,ha,hb,stV,z0,z1,z2,z3]
def Bx3(w V:World)(f:Fl)(c o:Bool):Prop:=Bx2 w V f c o/\V.heap[w.heap.size+1+1]?=some (.cells #[.int .u64 0,.int .u64 0,.int .u64 0,.int .u64 0] 36 (0,0))
theorem Bx3.kept{w V V':World}{f:Fl}{c o:Bool}(h:Bx3 w V f c o)(hb:Below V.heap.size V V'):Bx3 w V' f c o:=⟨h.1.kept hb,(hb.block _ (aB h.2)).trans h.2⟩
theorem Bx3.end{w V:World}{f:Fl}{c o:Bool}(h:Bx3 w V f c o)(T:BitVec 256):(bD V (w.heap.size+1+1) 0 [.int .u64 (aC T 0),.int .u64 (aC T 1),.int .u64 (aC T 2),.int .u64 (aC T 3)]).heap[w.heap.size+1+1]?=some (.cells #[.int .u64 (aC T 0),.int .u64 (aC T 1),.int .u64 (aC T 2),.int .u64 (aC T 3)] 36 (0,0))/\Below w.heap.size w (bD V (w.heap.size+1+1) 0 [.int .u64 (aC T 0),.int .u64 (aC T 1),.int .u64 (aC T 2),.int .u64 (aC T 3)]):=
 ⟨bA h.2 [.int .u64 (aC T 0),.int .u64 (aC T 1),.int .u64 (aC T 2),.int .u64 (aC T 3)] rfl,bC h.1.1 (aV _ _ 0 V) lz9 (fun _ e=>by omega)⟩
theorem aY5{w:World}{t:Tr}(c o:Bool)(hta:TB w t)(hsm:Sm t):Calls Tryz.prog 32 #[.agg #[.int .i64 t.f.k,.int .i64 t.f.n,.int .i64 t.f.mn,.int .i64 t.f.mx,.slice t.f.rq t.f.rs.length t.f.rc,.slice t.f.kq t.f.kl t.f.kc],.agg #[.bool c,.bool o]] w fun e w'=>e=.returned (stV (tvS (bJ c) c o t))/\Below w.heap.size w w':=by
 have X1:Hid (Bx3 w (((w.alloc (.cells #[.int .i64 t.f.k,.int .i64 t.f.n,.int .i64 t.f.mn,.int .i64 t.f.mx,.slice t.f.rq t.f.rs.length t.f.rc,.slice t.f.kq t.f.kl t.f.kc] 25)).alloc (.cells #[.bool c,.bool o] 27)).alloc (.cells #[.int .u64 0,.int .u64 0,.int .u64 0,.int .u64 0] 36)) t.f c o):=⟨⟨((bz9).alloc (by simp) _).alloc (by simp only [a7];omega) _,(Below.heap_alloc _ _ _ (by simp only [a7];omega)).trans ((Below.heap_alloc _ _ _ (by simp)).trans (aE w _)),(Below.heap_alloc _ _ _ (by simp only [a7];omega)).trans (aK _ (by simp only [a7]))⟩,aK _ (by simp only [a7])⟩
 have HTA:=aD hta
 have HSM:=aD hsm
 have HV:=aD (bJ0 c o t)
 clear hta hsm
 go_enter Tryz.func32,Tryz.ntmps32
 go_upto_region 1 with fail
 generalize (((w.alloc (.cells #[.int .i64 t.f.k,.int .i64 t.f.n,.int .i64 t.f.mn,.int .i64 t.f.mx,.slice t.f.rq t.f.rs.length t.f.rc,.slice t.f.kq t.f.kl t.f.kc] 25)).alloc (.cells #[.bool c,.bool o] 27)).alloc (.cells #[.int .u64 0,.int .u64 0,.int .u64 0,.int .u64 0] 36))=w1 at X1 ⊢
 obtain⟨n0,n1,n2,n3,n4,n5⟩:=X1.out.1.2.1.six
 simp only [g8] at n1 n2 n3 n4 n5
 have a0:=aA X1.out.1.2.2 (i:=0) rfl
 have a1:=aA X1.out.1.2.2 (i:=1) rfl
 have RT:=aD (pS c o (HTA.out.kept X1.out.1.1) HSM.out)
 by_cases hr:aY c o 0 0 (pp [] t)=0
 ·have HR:=aD hr
  rw [r8 hr] at RT
  rw [if_pos hr] at HV
  clear hr
  go_upto_region 4 with (go_at_call 38;refine(RT.out).mono ?_;rintro e w2 ⟨rfl,h2⟩;have X2:=aD (X1.out.kept h2);clear h2)
  clear n0 n1 n2 n3 n4 n5 a0 a1
  obtain⟨n0,n1,n2,n3,n4,n5⟩:=X2.out.1.2.1.six
  simp only [g8] at n1 n2 n3 n4 n5
  have a0:=aA X2.out.1.2.2 (i:=0) rfl
  have a1:=aA X2.out.1.2.2 (i:=1) rfl
  go_upto_region 5 with fail
  have K3:Hid (KSF w2.heap.size w2.heap.size t c o (ev (bJ c) (fun _=>(0#256,false)) t).2 (w2.alloc (.cells (KC t.f c o) 106))):=by
   have hT2:=HTA.out.kept X2.out.1.1
   exact⟨hT2.kept (bz9),hT2.foot,n8 _,bL8 w2 _ _ _ _⟩
  have X3:Hid (Bx3 w (w2.alloc (.cells (KC t.f c o) 106)) t.f c o):=X2.out.kept (bz9)
  have HL:=aD (aB X2.out.2)
  have HLE:=aD X2.out.1.1.size
  unfold KC at K3 X3
  clear n0 n1 n2 n3 n4 n5 a0 a1
  generalize hz:w2.heap.size=bk at K3 HL HLE ⊢
  generalize (w2.alloc (.cells _ 106))=w3 at K3 X3 ⊢
  clear hz
  obtain⟨n0,n1,n2,n3,n4,n5⟩:=X3.out.1.2.1.six
  simp only [g8] at n1 n2 n3 n4 n5
  have her:=aX9 (aD9 c) (uS HR.out) (fun _=>(0#256,false))
  have CW:=aD (bF0 HR.out her.2 t.sz t.sz 0 ([],t) (by rw [cF];rfl) (by simp) lz9 w3 K3.out)
  rw [<- her.1] at CW
  obtain⟨⟨Xs,Xb⟩,hX⟩:∃ X,(ev (bJ c) (fun _=>(0#256,false)) t).1=X:=⟨_,rfl⟩
  rw [hX] at CW HV
  unfold FP stV at CW
  dsimp only at CW
  clear her hX
  go_wp2_with (go_at_call 63;refine(CW.out).mono ?_;rintro e w5 ⟨rfl,h51,h52⟩;have X5:Hid (Bx3 w w5 t.f c o):=⟨⟨bC X3.out.1.1 h52 lz9 (fun k e=>by have:=HLE.out;omega),cO h52 X3.out.1.2.1 (by have:=HL.out;omega),cO h52 X3.out.1.2.2 (by have:=HL.out;omega)⟩,cO h52 X3.out.2 (by have:=HL.out;omega)⟩;have z0:=aA X5.out.2 (i:=0) rfl;have z1:=aA X5.out.2 (i:=1) rfl;have z2:=aA X5.out.2 (i:=2) rfl;have z3:=aA X5.out.2 (i:=3) rfl;have fz:=fun z=>aG X5.out.2 z;clear h51 h52)
  refine sJ (b:=w.heap.size+1+1) (x:=(Xs,Xb)) (X5.out.end Xs).1 rfl rfl rfl ?_
  exact⟨by rw [HV.out],(X5.out.end Xs).2⟩
 ·rw [l8 hr] at RT
  rw [if_neg hr] at HV
  clear hr
  go_wp2_with (go_at_call 38;refine(RT.out).mono ?_;rintro e w2 ⟨rfl,h2⟩;have X2:=aD (X1.out.kept h2);have E2:=aD (X2.out.end 0#256);simp only [bZ] at E2;have z0:=aA X2.out.2 (i:=0) rfl;have z1:=aA X2.out.2 (i:=1) rfl;have z2:=aA X2.out.2 (i:=2) rfl;have z3:=aA X2.out.2 (i:=3) rfl;have fz:=fun z=>aG X2.out.2 z;clear h2)
  refine sJ (b:=w.heap.size+1+1) (x:=(0#256,false)) (by simp only [bZ];exact E2.out.1) rfl rfl rfl ?_
  exact⟨by rw [HV.out],E2.out.2⟩
end
section
open Go Go.RowKit Go.Shelf
attribute [local go_sem] Oper.semAt_some bB
def LRS(w:World)(t x:Tr)(c o:Bool)(bx bs:Nat)(X:BitVec 256)(W:World):Prop:=LR w t x c o bx W/\W.heap[bs]?=some (.cells #[.int .u64 (aC X 0),.int .u64 (aC X 1),.int .u64 (aC X 2),.int .u64 (aC X 3)] 36 (0,0))
theorem LRS.kept{w:World}{t x:Tr}{c o:Bool}{bx bs:Nat}{X:BitVec 256}{W W':World}(h:LRS w t x c o bx bs X W)(hb:Below W.heap.size W W'):LRS w t x c o bx bs X W':=⟨h.1.kept hb,(hb.block _ (aB h.2)).trans h.2⟩
theorem aS9{w:World}{t:Tr}(c o:Bool)(hT:TB w t)(hf:∀ x∈pp [] t,x.2.f.rs.length<=1048576)(hG:GloS w)
  (hDF:∀ W,TB W t->Calls Tryz.prog 32 #[.agg #[.int .i64 t.f.k,.int .i64 t.f.n,.int .i64 t.f.mn,.int .i64 t.f.mx,.slice t.f.rq t.f.rs.length t.f.rc,.slice t.f.kq t.f.kl t.f.kc],.agg #[.bool c,.bool o]] W fun e w'=>e=.returned (stV (tvS (bJ c) c o t))/\Below W.heap.size W w') :
  Calls Tryz.prog 8 #[.agg #[.int .i64 t.f.k,.int .i64 t.f.n,.int .i64 t.f.mn,.int .i64 t.f.mx,.slice t.f.rq t.f.rs.length t.f.rc,.slice t.f.kq t.f.kl t.f.kc],.agg #[.bool c,.bool o]] w fun e w'=>e=.returned (.bool true)/\Below w.heap.size w w':=by
 have hsm:Sm t:=fun x hx=>i8 (hf x hx) (by omega)
 have X1:Hid (Bx2 w ((w.alloc (.cells #[.int .i64 t.f.k,.int .i64 t.f.n,.int .i64 t.f.mn,.int .i64 t.f.mx,.slice t.f.rq t.f.rs.length t.f.rc,.slice t.f.kq t.f.kl t.f.kc] 25)).alloc (.cells #[.bool c,.bool o] 27)) t.f c o):=⟨(bz9).alloc (by simp) _,(Below.heap_alloc _ _ _ (by simp)).trans (aE w _),aK _ (by simp only [a7])⟩
 have EX:Hid (∀ W,Below w.heap.size w W->Calls Tryz.prog 9 #[] W fun e w'=>e=.returned (.bool true)/\Below W.heap.size W w'):=fun W hW=>wT (GloS.ck (CK.of_below hW) hG)
 have LN:Hid (∀ W,Below w.heap.size w W->Calls Tryz.prog 26 #[.agg #[.int .i64 t.f.k,.int .i64 t.f.n,.int .i64 t.f.mn,.int .i64 t.f.mx,.slice t.f.rq t.f.rs.length t.f.rc,.slice t.f.kq t.f.kl t.f.kc]] W fun e w'=>∃ x,e=.returned (.agg #[.int .i64 x.f.k,.int .i64 x.f.n,.int .i64 x.f.mn,.int .i64 x.f.mx,.slice x.f.rq x.f.rs.length x.f.rc,.slice x.f.kq x.f.kl x.f.kc])/\TB w' x/\er x=er t/\Below W.heap.size W w'):=fun W hW=>aV9 (hT.kept hW)
 have DF:Hid (∀ W,Below w.heap.size w W->Calls Tryz.prog 32 #[.agg #[.int .i64 t.f.k,.int .i64 t.f.n,.int .i64 t.f.mn,.int .i64 t.f.mx,.slice t.f.rq t.f.rs.length t.f.rc,.slice t.f.kq t.f.kl t.f.kc],.agg #[.bool c,.bool o]] W fun e w'=>e=.returned (stV (tvS (bJ c) c o t))/\Below W.heap.size W w'):=fun W hW=>hDF W (hT.kept hW)
 have DL:Hid (∀ W,Below w.heap.size w W->Calls Tryz.prog 33 #[.agg #[.int .i64 t.f.k,.int .i64 t.f.n,.int .i64 t.f.mn,.int .i64 t.f.mx,.slice t.f.rq t.f.rs.length t.f.rc,.slice t.f.kq t.f.kl t.f.kc],.agg #[.bool c,.bool o]] W fun e w'=>e=.returned (.tuple #[.string (lG c o t).1,.bool (lG c o t).2])/\Below W.heap.size W w'):=fun W hW=>aF5 c o (hT.kept hW) hsm
 have DP:Hid (∀ W,Below w.heap.size w W->Calls Tryz.prog 34 #[.agg #[.int .i64 t.f.k,.int .i64 t.f.n,.int .i64 t.f.mn,.int .i64 t.f.mx,.slice t.f.rq t.f.rs.length t.f.rc,.slice t.f.kq t.f.kl t.f.kc],.agg #[.bool c,.bool o]] W fun e w'=>e=.returned (.string (tvO (cD c) c o t).1)/\Below W.heap.size W w'):=fun W hW=>aP8 c o (hT.kept hW) hsm
 have HTA:=aD hT
 have PF:Hid (∀ (W:World) (x:Tr),er x=er t->TB W x->Below w.heap.size w W->Calls Tryz.prog 14 #[.agg #[.int .i64 x.f.k,.int .i64 x.f.n,.int .i64 x.f.mn,.int .i64 x.f.mx,.slice x.f.rq x.f.rs.length x.f.rc,.slice x.f.kq x.f.kl x.f.kc],.agg #[.bool c,.bool o]] W fun e w'=>e=.returned (stV (tvS (bJ c) c o t))/\Below W.heap.size W w'):=fun W x he hx hW=>by
  have:=vH c o hx (GloS.ck (CK.of_below hW) hG);rw [bJ1 (bD3 c) he] at this;exact this
 have PL:Hid (∀ (W:World) (x:Tr),er x=er t->TB W x->Calls Tryz.prog 15 #[.agg #[.int .i64 x.f.k,.int .i64 x.f.n,.int .i64 x.f.mn,.int .i64 x.f.mx,.slice x.f.rq x.f.rs.length x.f.rc,.slice x.f.kq x.f.kl x.f.kc],.agg #[.bool c,.bool o]] W fun e w'=>e=.returned (.tuple #[.string (lG c o t).1,.bool (lG c o t).2])/\Below W.heap.size W w'):=fun W x he hx=>by
  have:=qQ c o hx;rw [bE0 he] at this;exact this
 have PP:Hid (∀ (W:World) (x:Tr),er x=er t->TB W x->Calls Tryz.prog 16 #[.agg #[.int .i64 x.f.k,.int .i64 x.f.n,.int .i64 x.f.mn,.int .i64 x.f.mx,.slice x.f.rq x.f.rs.length x.f.rc,.slice x.f.kq x.f.kl x.f.kc],.agg #[.bool c,.bool o]] W fun e w'=>e=.returned (.string (tvO (cD c) c o t).1)/\Below W.heap.size W w'):=fun W x he hx=>by
  have:=tH c o hx;rw [aS6 (aI6 c) he] at this;exact this
 generalize tvS (bJ c) c o t=vs at DF PF
 generalize lG c o t=vl at DL PL
 generalize (tvO (cD c) c o t).1=vp at DP PP
 obtain⟨Xs,Xb⟩:=vs
 obtain⟨l1,l2⟩:=vl
 unfold stV at DF PF
 dsimp only at DF PF DL PL
 clear hT hf hG hsm hDF
 go_enter Tryz.func8,Tryz.ntmps8
 go_upto_region 1 with fail
 generalize ((w.alloc (.cells #[.int .i64 t.f.k,.int .i64 t.f.n,.int .i64 t.f.mn,.int .i64 t.f.mx,.slice t.f.rq t.f.rs.length t.f.rc,.slice t.f.kq t.f.kl t.f.kc] 25)).alloc (.cells #[.bool c,.bool o] 27))=w1 at X1 ⊢
 go_upto_region 2 with (go_at_call 9;refine(EX.out _ X1.out.1).mono ?_;rintro e w2 ⟨rfl,h2⟩;have X2:=aD (X1.out.kept h2);clear h2)
 obtain⟨n0,n1,n2,n3,n4,n5⟩:=X2.out.2.1.six
 simp only [g8] at n1 n2 n3 n4 n5
 go_upto_region 3 with (go_at_call 26;refine(LN.out _ X2.out.1).mono ?_;rintro e w3 ⟨x,rfl,h31,h32,h33⟩;have T3:=aD h31;have E3:=aD h32;have X3:=aD (X2.out.kept h33);clear h31 h32 h33)
 have L4:Hid (LR w t x c o w3.heap.size (w3.alloc (.cells #[.int .i64 x.f.k,.int .i64 x.f.n,.int .i64 x.f.mn,.int .i64 x.f.mx,.slice x.f.rq x.f.rs.length x.f.rc,.slice x.f.kq x.f.kl x.f.kc] 25))):=by
  have hb:Below w3.heap.size w3 (w3.alloc (.cells #[.int .i64 x.f.k,.int .i64 x.f.n,.int .i64 x.f.mn,.int .i64 x.f.mx,.slice x.f.rq x.f.rs.length x.f.rc,.slice x.f.kq x.f.kl x.f.kc] 25)):=bz9
  have X4:=X3.out.kept hb
  exact⟨X4.2.1,X4.2.2,aE w3 _,HTA.out.kept X4.1,T3.out.kept hb,X4.1⟩
 clear n0 n1 n2 n3 n4 n5
 generalize w3.heap.size=bx at L4 ⊢
 generalize (w3.alloc (.cells #[.int .i64 x.f.k,.int .i64 x.f.n,.int .i64 x.f.mn,.int .i64 x.f.mx,.slice x.f.rq x.f.rs.length x.f.rc,.slice x.f.kq x.f.kl x.f.kc] 25))=w4 at L4 ⊢
 obtain⟨x0,x1,x2,x3,x4,x5⟩:=L4.out.xd.six
 simp only [g8] at x1 x2 x3 x4 x5
 have a0:=aA L4.out.md (i:=0) rfl
 have a1:=aA L4.out.md (i:=1) rfl
 go_upto_region 4 with (go_at_call 14;refine(PF.out _ x E3.out L4.out.tx L4.out.bel).mono ?_;rintro e w5 ⟨rfl,h5⟩;have L5:=aD (L4.out.kept h5);clear h5)
 have M5:Hid (LRS w t x c o bx w5.heap.size Xs (w5.alloc (.cells #[.int .u64 (aC Xs 0),.int .u64 (aC Xs 1),.int .u64 (aC Xs 2),.int .u64 (aC Xs 3)] 36))):=⟨L5.out.kept (bz9),aE w5 _⟩
 clear x0 x1 x2 x3 x4 x5 a0 a1
 generalize w5.heap.size=bs at M5 ⊢
 generalize (w5.alloc (.cells #[.int .u64 (aC Xs 0),.int .u64 (aC Xs 1),.int .u64 (aC Xs 2),.int .u64 (aC Xs 3)] 36))=v5 at M5 ⊢
 obtain⟨n0,n1,n2,n3,n4,n5⟩:=M5.out.1.nd.six
 simp only [g8] at n1 n2 n3 n4 n5
 have a0:=aA M5.out.1.md (i:=0) rfl
 have a1:=aA M5.out.1.md (i:=1) rfl
 go_upto_region 5 with (go_at_call 32;refine(DF.out _ M5.out.1.bel).mono ?_;rintro e w6 ⟨rfl,h6⟩;have M6:=aD (M5.out.kept h6);clear h6)
 have M7:Hid (LRS w t x c o bx bs Xs (w6.alloc (.cells #[.int .u64 (aC Xs 0),.int .u64 (aC Xs 1),.int .u64 (aC Xs 2),.int .u64 (aC Xs 3)] 36))):=M6.out.kept (bz9)
 have Q7:Hid (LRS w t x c o bx w6.heap.size Xs (w6.alloc (.cells #[.int .u64 (aC Xs 0),.int .u64 (aC Xs 1),.int .u64 (aC Xs 2),.int .u64 (aC Xs 3)] 36))):=⟨M7.out.1,aE w6 _⟩
 clear n0 n1 n2 n3 n4 n5 a0 a1
 generalize w6.heap.size=bq at Q7 ⊢
 generalize (w6.alloc (.cells #[.int .u64 (aC Xs 0),.int .u64 (aC Xs 1),.int .u64 (aC Xs 2),.int .u64 (aC Xs 3)] 36))=v7 at M7 Q7 ⊢
 obtain⟨x0,x1,x2,x3,x4,x5⟩:=M7.out.1.xd.six
 simp only [g8] at x1 x2 x3 x4 x5
 have a0:=aA M7.out.1.md (i:=0) rfl
 have a1:=aA M7.out.1.md (i:=1) rfl
 go_upto_region 6 with (go_at_call 15;refine(PL.out _ x E3.out M7.out.1.tx).mono ?_;rintro e w8 ⟨rfl,h8⟩;have M8:=aD (M7.out.kept h8);have Q8:=aD (Q7.out.kept h8);clear h8)
 clear x0 x1 x2 x3 x4 x5 a0 a1
 obtain⟨n0,n1,n2,n3,n4,n5⟩:=M8.out.1.nd.six
 simp only [g8] at n1 n2 n3 n4 n5
 have a0:=aA M8.out.1.md (i:=0) rfl
 have a1:=aA M8.out.1.md (i:=1) rfl
 go_upto_region 7 with (go_at_call 33;refine(DL.out _ M8.out.1.bel).mono ?_;rintro e w9 ⟨rfl,h9⟩;have M9:=aD (M8.out.kept h9);have Q9:=aD (Q8.out.kept h9);clear h9)
 clear n0 n1 n2 n3 n4 n5 a0 a1
 obtain⟨n0,n1,n2,n3,n4,n5⟩:=M9.out.1.nd.six
 simp only [g8] at n1 n2 n3 n4 n5
 obtain⟨x0,x1,x2,x3,x4,x5⟩:=M9.out.1.xd.six
 simp only [g8] at x1 x2 x3 x4 x5
 have a0:=aA M9.out.1.md (i:=0) rfl
 have a1:=aA M9.out.1.md (i:=1) rfl
 have ln:=aB M9.out.1.nd
 have lm:=aB M9.out.1.md
 have lx:=aB M9.out.1.xd
 have PP2:Hid (∀ W,Below w9.heap.size w9 W->Calls Tryz.prog 16 #[.agg #[.int .i64 x.f.k,.int .i64 x.f.n,.int .i64 x.f.mn,.int .i64 x.f.mx,.slice x.f.rq x.f.rs.length x.f.rc,.slice x.f.kq x.f.kl x.f.kc],.agg #[.bool c,.bool o]] W fun e w'=>e=.returned (.string vp)/\Below W.heap.size W w'):=fun W hW=>PP.out W x E3.out (M9.out.1.tx.kept hW)
 have DP2:Hid (∀ W,Below w9.heap.size w9 W->Calls Tryz.prog 34 #[.agg #[.int .i64 t.f.k,.int .i64 t.f.n,.int .i64 t.f.mn,.int .i64 t.f.mx,.slice t.f.rq t.f.rs.length t.f.rc,.slice t.f.kq t.f.kl t.f.kc],.agg #[.bool c,.bool o]] W fun e w'=>e=.returned (.string vp)/\Below W.heap.size W w'):=fun W hW=>DP.out W (aJ M9.out.1.bel hW lz9)
 refine wx9 ?_
 repeat (go_big_quiet_step (first | exact rfl |(go_at_call 16;exact bN (PP2.out _ (cI _))) |(go_at_call 34;exact bN (DP2.out _ (cI _)))))
 refine wpQuiet_nil ?_
 intro w10 hw
 have M10:=aD (M9.out.kept (aQ hw))
 have Q10:=aD (Q9.out.kept (aQ hw))
 clear hw n0 n1 n2 n3 n4 n5 x0 x1 x2 x3 x4 x5 a0 a1 ln lm lx
 obtain⟨n0,n1,n2,n3,n4,n5⟩:=M10.out.1.nd.six
 simp only [g8] at n1 n2 n3 n4 n5
 obtain⟨x0,x1,x2,x3,x4,x5⟩:=M10.out.1.xd.six
 simp only [g8] at x1 x2 x3 x4 x5
 have KP:=aD (aW4 M10.out.1.tx M10.out.1.tt E3.out)
 have y1:(Xb==Xb)=true:=by simp
 have EQ:∀ w:World,(Op.equalIn 10000 36 (.agg #[.int .u64 (aC Xs 0),.int .u64 (aC Xs 1),.int .u64 (aC Xs 2),.int .u64 (aC Xs 3)]) (.agg #[.int .u64 (aC Xs 0),.int .u64 (aC Xs 1),.int .u64 (aC Xs 2),.int .u64 (aC Xs 3)])).run Tryz.prog w=.ok true w:=fun w=>(lN Xs Xs w).trans (by simp)
 have y3:(l2==l2)=true:=by simp
 go_wp2_with (go_at_call 29;refine(KP.out).mono ?_;rintro e w11 ⟨rfl,h11⟩;have M11:=aD (M10.out.kept h11);have Q11:=aD (Q10.out.kept h11);have s0:=aA M11.out.2 (i:=0) rfl;have s1:=aA M11.out.2 (i:=1) rfl;have s2:=aA M11.out.2 (i:=2) rfl;have s3:=aA M11.out.2 (i:=3) rfl;have q0:=aA Q11.out.2 (i:=0) rfl;have q1:=aA Q11.out.2 (i:=1) rfl;have q2:=aA Q11.out.2 (i:=2) rfl;have q3:=aA Q11.out.2 (i:=3) rfl;clear h11)
 go_ret
 exact⟨by simp,M11.out.1.bel⟩
theorem zC{w:World}{t:Tr}(c o:Bool)(hT:TB w t)(hf:∀ x∈pp [] t,x.2.f.rs.length<=1048576)(hG:GloS w) :
  Calls Tryz.prog 8 #[.agg #[.int .i64 t.f.k,.int .i64 t.f.n,.int .i64 t.f.mn,.int .i64 t.f.mx,.slice t.f.rq t.f.rs.length t.f.rc,.slice t.f.kq t.f.kl t.f.kc],.agg #[.bool c,.bool o]] w fun e w'=>e=.returned (.bool true)/\Below w.heap.size w w':=
 aS9 c o hT hf hG fun _ h=>aY5 c o h fun x hx=>i8 (hf x hx) (by omega)
end
section
open Go Go.ChangeShapes Go.WideShapes Go.ChangeAt Go.RowKit
theorem sY:Tryz.prog.cellsOf 25=6:=by kernel_rfl
theorem aQ0:Tryz.prog.cellsOf 110=2:=by kernel_rfl
theorem aF6:Tryz.prog.cellsOf 22=1:=by kernel_rfl
theorem aF7:Tryz.prog.cellsOf 23=1:=by kernel_rfl
theorem zY{w:World}{g o:Nat}{v:Value}(h:w.cell? ⟨g,o,none⟩=some v):g < w.heap.size:=by
 rcases Nat.lt_or_ge g w.heap.size with h' | h'
 ·exact h'
 ·have:w.heap[g]?=none:=aBR h'
  simp [World.cell?,this] at h
theorem aA3{a:Addr}{W:World}{v:Value}(h:W.cell? (a.add 0)=some v):∃ b off,a=⟨b,off,none⟩:=by
 obtain⟨b,off,dE⟩:=a
 cases dE with
 | none=>exact⟨b,off,rfl⟩
 | some k=>
  exfalso
  unfold Addr.add World.cell? at h
  simp at h
  split at h <;> simp_all
theorem zU:Tryz.prog.cellsOf 27=2:=by kernel_rfl
theorem zV:Tryz.prog.cellsOf 4=1:=by kernel_rfl
theorem aE6{H:Type}{enc:TypeId × Value->H}{W:World}{base:Nat}{v:Value}{d:DataW H}{p:List MemPlace}(hok:Value.okWide Tryz.prog W .any base 27 v)
  (h:DataW.Trod enc Tryz.prog W 0 (fun _=>true) true 27 v d p):∃ c f:Bool,v=.agg #[.bool c,.bool f]:=by
 obtain⟨cs,rfl,hsz⟩:=okWide_struct Tryz.underlying27 hok
 obtain⟨fuel,hf⟩:=h
 obtain⟨xs,k,hk,hxy,hcl,hxl,hfs⟩:=DataW.trod_struct Tryz.underlying27 hf
 rw [zU] at hcl
 obtain⟨l⟩:=cs
 simp [Value.cells] at hcl hfs
 match xs,hxl,l,hcl,hfs with
 | [y0,y1],_,[c0,c1],_,hf=>
  have F0:=hf 0 _ rfl
  have F1:=hf 1 _ rfl
  simp [zV] at F0 F1
  obtain⟨b0,e0,-⟩:=DataW.trod_bool Tryz.underlying4 F0
  obtain⟨b1,e1,-⟩:=DataW.trod_bool Tryz.underlying4 F1
  cases e0;cases e1
  exact⟨b0,b1,rfl⟩
end
section
open Go Go.ChangeShapes Go.WideShapes Go.ChangeAt Go.RowKit
theorem aQ2{H:Type}(d:DataW H):1<=Rows.uptoBulk d:=by
 cases d with
 | lit l=>cases l <;> simp [Rows.uptoBulk]
 | nil=>simp [Rows.uptoBulk]
 | ptr d=>simp [Rows.uptoBulk]
 | slice elems spare=>simp [Rows.uptoBulk]
 | agg parts=>simp [Rows.uptoBulk]
 | iface t d=>simp [Rows.uptoBulk]
 | map entries=>simp [Rows.uptoBulk]
 | held h=>simp [Rows.uptoBulk]
theorem lB{H:Type}{d:DataW H}{l:List (DataW H)}(h:d∈l):Rows.uptoBulk d<=Rows.uptoBulkAll l:=by
 induction l with
 | nil=>cases h
 | cons x r ih=>
  simp only [Rows.uptoBulkAll]
  cases aAW.1 h with
  | inl e=>subst e;omega
  | inr e=>have:=ih e;omega
theorem aQ3{H:Type}(l:List (DataW H)):l.length<=Rows.uptoBulkAll l:=by
 induction l with
 | nil=>simp [Rows.uptoBulkAll]
 | cons x r ih=>have:=aQ2 x;simp only [Rows.uptoBulkAll,j8];omega
theorem aZ3{H:Type}{d:DataW H}{l:List (DataW H)}(hk:Rows.uptoSmall H l=true)(h:d∈l):Rows.uptoBulk d<=1048576:=i8 (lB h) (of_decide_eq_true hk)
theorem aE3{H:Type}{enc:TypeId × Value->H}{W:World}{fuel:Nat}{v:Value}{x:DataW H × List MemPlace}(hf:DataW.trod enc Tryz.prog W 0 (fun _=>true) true fuel 22 [v]=some x)(hw:Rows.uptoBulk x.1<=1048576) :
  ∃ (rs:List (Int × Int)) (q:Option Addr) (c:Nat),v=.slice q rs.length c/\ArgR W v rs/\Fit rs/\rs.length+3<=1048579:=by
 rcases Deep.open_slice_pairs Tryz.underlying22 Tryz.underlying110 aQ0 rfl rfl kF kF hf with⟨h1,h2⟩ | ⟨a,len,cap,m,n,V0,V1,D0,D1,P0,P1,h1,_,hlc,hcap,hm,h2,hx⟩
 ·cases h1
  exact⟨[],none,0,rfl,.inl ⟨none,0,rfl,rfl,fun _=>rfl⟩,kX,by simp⟩
 ·cases h1
  rw [if_pos rfl] at hm
  subst hm
  by_cases hc:m=0
  ·have hl:len=0:=by omega
   subst hc hl
   exact⟨[],some a,0,rfl,.inl ⟨some a,0,rfl,rfl,fun q=>(by cases q)⟩,kX,by simp⟩
  ·have hp:∀ i,i < m->∃ q:Int × Int,V0 i=.int .i64 q.1/\V1 i=.int .i64 q.2/\(Lit.int .i64 q.1).wf=true/\(Lit.int .i64 q.2).wf=true:=fun i hi=>by
    obtain⟨_,_,g0,g1⟩:=hx i hi
    obtain⟨x0,e0,_,w0⟩:=DataW.trod_int Tryz.underlying3 g0
    obtain⟨x1,e1,_,w1⟩:=DataW.trod_int Tryz.underlying3 g1
    exact⟨(x0,x1),by simpa using e0,by simpa using e1,w0,w1⟩
   obtain⟨q,hq⟩:=Deep.choose_lt hp
   have c0:=(hx 0 (by omega)).1
   obtain⟨b,off,rfl⟩:=aA3 (by simpa using c0)
   have hadd:∀ j,(⟨b,off,none⟩:Addr).add j=⟨b,off+j,none⟩:=fun j=>by unfold Addr.add;split <;> simp_all
   have hb:b < W.heap.size:=by rw [hadd] at c0;exact zY c0
   refine⟨(List.range len).map q,some ⟨b,off,none⟩,m,by simp,.inr ⟨b,off,m,by simp,hb,by simpa using hlc,hcap,fun i r hi'=>?_⟩,fun r hr=>?_,?_⟩
   ·have hil:i < len:=by have:=(i5.1 hi').1;simpa using this
    have hqi:q i=r:=by simpa [hil] using hi'
    obtain⟨k0,k1,_,_⟩:=hx i (by omega)
    rw [hadd,aAJ] at k0
    rw [hadd,aAJ,<- aAI] at k1
    obtain⟨r0,r1,_,_⟩:=hq i (by omega)
    rw [hqi] at r0 r1
    exact⟨by rw [k0,r0],by rw [k1,r1]⟩
   ·obtain⟨i,hi,rfl⟩:=aAM.1 hr
    have hil:i < len:=List.mem_range.1 hi
    obtain⟨_,_,w0,w1⟩:=hq i (by omega)
    exact⟨yC w0,yC w1⟩
   ·obtain⟨es,sp,e1,e2⟩:∃ es sp,x.1=.slice es sp/\es.length=len:=⟨_,_,congrArg Prod.fst h2,by simp⟩
    rw [e1] at hw
    simp only [Rows.uptoBulk] at hw
    have:=aQ3 es
    simp
    omega
theorem aE5{H:Type}{enc:TypeId × Value->H}{W:World}:∀ (fuel:Nat) (cs:List Value) (x:DataW H × List MemPlace),DataW.trod enc Tryz.prog W 0 (fun _=>true) true fuel 25 cs=some x->Rows.uptoBulk x.1<=1048576 ->
  ∃ t:Tr,(TB W t/\bY (fun u=>u.f.rs.length<=1048576) t)/\cs=[.int .i64 t.f.k,.int .i64 t.f.n,.int .i64 t.f.mn,.int .i64 t.f.mx,.slice t.f.rq t.f.rs.length t.f.rc,.slice t.f.kq t.f.kl t.f.kc]:=by
 intro fuel
 induction fuel using Nat.strongRecOn with
 | ind fuel ih=>
  intro cs x hf hw
  obtain⟨xs,k,hk,hxy,hcl,hxl,hfs⟩:=DataW.trod_struct Tryz.underlying25 hf
  have hD:x.1=.agg (xs.map (·.1)):=(congrArg Prod.fst hxy)
  rw [hD] at hw
  simp only [Rows.uptoBulk] at hw
  rw [sY] at hcl
  clear hD hxy hf
  match xs,hxl,cs,hcl,hfs,hw with
  | [y0,y1,y2,y3,y4,y5],_,[v0,v1,v2,v3,v4,v5],_,hf,hwi=>
   have F0:=hf 0 _ rfl
   have F1:=hf 1 _ rfl
   have F2:=hf 2 _ rfl
   have F3:=hf 3 _ rfl
   have F4:=hf 4 _ rfl
   have F5:=hf 5 _ rfl
   simp [kF,aF6,aF7] at F0 F1 F2 F3 F4 F5
   obtain⟨x0,e0,_,w0⟩:=DataW.trod_int Tryz.underlying3 F0
   obtain⟨x1,e1,_,w1⟩:=DataW.trod_int Tryz.underlying3 F1
   obtain⟨x2,e2,_,w2⟩:=DataW.trod_int Tryz.underlying3 F2
   obtain⟨x3,e3,_,w3⟩:=DataW.trod_int Tryz.underlying3 F3
   obtain⟨rs,q,c,rfl,hr,hfit,hlen⟩:=aE3 F4 (by have:=lB (d:=y4.1) (l:=[y0,y1,y2,y3,y4,y5].map (·.1)) (by simp);omega)
   cases e0;cases e1;cases e2;cases e3
   have hwk:Rows.uptoBulk y5.1<=1048576:=by have:=lB (d:=y5.1) (l:=[y0,y1,y2,y3,y4,y5].map (·.1)) (by simp);omega
   rcases DataW.trod_slice Tryz.underlying23 F5 with⟨h1,h2⟩ | ⟨a,len,cap,elems,rest,n,hn,h1,h2,_,hlc,hcap,hel,hx,-,-⟩
   ·cases h1
    exact⟨.mk ⟨x0,x1,x2,x3,rs,q,c,none,0,0⟩ [],⟨(bE _).2 ⟨⟨hr,.inl ⟨none,0,rfl,rfl,fun _=>rfl⟩,hfit,i8 hlen (by decide)⟩,(bX _).2 fun u hu=>by cases hu⟩,(bE _).2 ⟨(show rs.length<=1048576 by omega),(bX _).2 fun u hu=>by cases hu⟩⟩,rfl⟩
   ·cases h1
    by_cases hl:len=0
    ·subst hl
     exact⟨.mk ⟨x0,x1,x2,x3,rs,q,c,some a,0,cap⟩ [],⟨(bE _).2 ⟨⟨hr,.inl ⟨some a,cap,rfl,rfl,fun z=>by cases z⟩,hfit,i8 hlen (by decide)⟩,(bX _).2 fun u hu=>by cases hu⟩,(bE _).2 ⟨(show rs.length<=1048576 by omega),(bX _).2 fun u hu=>by cases hu⟩⟩,rfl⟩
    ·have each:∀ i,i < len->∃ t:Tr,(TB W t/\bY (fun u=>u.f.rs.length<=1048576) t)/\∀ j v,[Value.int .i64 t.f.k,.int .i64 t.f.n,.int .i64 t.f.mn,.int .i64 t.f.mx,.slice t.f.rq t.f.rs.length t.f.rc,.slice t.f.kq t.f.kl t.f.kc][j]?=some v->W.cell? (a.add (i * 6+j))=some v:=by
      intro i hi
      have hxi:=hx i hi
      rw [g9 (by omega)] at hxi
      obtain⟨cs',g1,g2⟩:=Option.bind_eq_some_iff.1 hxi
      rw [sY] at g1
      obtain⟨_,hlc',hcell⟩:=World.cells?_some g1
      obtain⟨t,ht,hcs⟩:=ih n (by omega) cs' _ g2 (by
       rw [show y5.1=.slice (elems.map (·.1)) (rest.map (·.1)) from congrArg Prod.fst h2] at hwk
       simp only [Rows.uptoBulk] at hwk
       refine i8 (lB (l:=elems.map (·.1)) (aAM.2 ⟨_,List.getElem_mem _,rfl⟩)) (by omega))
      refine⟨t,ht,fun j v hj=>?_⟩
      have hj6:j < 6:=by have:=(i5.1 hj).1;simpa using this
      have:=hcell j (by omega)
      rw [Deep.add_add] at this
      rw [this,hcs]
      exact hj
     have:Inhabited Tr:=⟨.mk ⟨0,0,0,0,[],none,0,none,0,0⟩ []⟩
     obtain⟨tt,htt⟩:=Deep.choose_lt each
     have c0:=(htt 0 (by omega)).2 0 _ rfl
     obtain⟨b,off,rfl⟩:=aA3 (by simpa using c0)
     have hadd:∀ j,(⟨b,off,none⟩:Addr).add j=⟨b,off+j,none⟩:=fun j=>by unfold Addr.add;split <;> simp_all
     have hb:b < W.heap.size:=by rw [hadd] at c0;exact zY c0
     refine⟨.mk ⟨x0,x1,x2,x3,rs,q,c,some ⟨b,off,none⟩,len,cap⟩ ((List.range len).map tt),⟨(bE _).2 ⟨⟨hr,.inr ⟨b,off,cap,by simp [Tr.f,Tr.ks],hb,by simpa [Tr.ks] using hlc,hcap,fun i t hi=>?_⟩,hfit,i8 hlen (by decide)⟩,(bX _).2 fun u hu=>?_⟩,(bE _).2 ⟨(show rs.length<=1048576 by omega),(bX _).2 fun u hu=>?_⟩⟩,rfl⟩
     ·have hi':((List.range len).map tt)[i]?=some t:=hi
      have hil:i < len:=by have:=(i5.1 hi').1;simpa using this
      have hqi:tt i=t:=by simpa [hil] using hi'
      have hh:=(htt i hil).2
      rw [hqi] at hh
      simp only [hadd,<- aAI] at hh
      exact⟨hh 0 _ rfl,hh 1 _ rfl,hh 2 _ rfl,hh 3 _ rfl,hh 4 _ rfl,hh 5 _ rfl⟩
     ·have hu':u∈(List.range len).map tt:=hu
      obtain⟨i,hi,rfl⟩:=aAM.1 hu'
      exact(htt i (List.mem_range.1 hi)).1.1
     ·have hu':u∈(List.range len).map tt:=hu
      obtain⟨i,hi,rfl⟩:=aAM.1 hu'
      exact(htt i (List.mem_range.1 hi)).1.2
theorem aE4{H:Type}{enc:TypeId × Value->H}{W:World}{base:Nat}{v:Value}{d:DataW H}{p:List MemPlace}(hok:Value.okWide Tryz.prog W .any base 25 v)
  (h:DataW.Trod enc Tryz.prog W 0 (fun _=>true) true 25 v d p) (hw:Rows.uptoBulk d<=1048576):∃ t:Tr,TB W t/\(∀ x∈pp [] t,x.2.f.rs.length<=1048576)/\v=.agg #[.int .i64 t.f.k,.int .i64 t.f.n,.int .i64 t.f.mn,.int .i64 t.f.mx,.slice t.f.rq t.f.rs.length t.f.rc,.slice t.f.kq t.f.kl t.f.kc]:=by
 obtain⟨cs,rfl,hsz⟩:=okWide_struct Tryz.underlying25 hok
 obtain⟨fuel,hf⟩:=h
 obtain⟨t,⟨ht,hs⟩,hcs⟩:=aE5 fuel _ _ hf hw
 refine⟨t,ht,fun x hx=>((bE _).1 (oY (P:=fun u=>u.f.rs.length<=1048576) t [] hs x hx)).1,?_⟩
 obtain⟨l⟩:=cs
 simp [Value.cells] at hcs
 rw [hcs]
end
end Go.Proofs.YtlaimbkenbijeaaGreatDoor
