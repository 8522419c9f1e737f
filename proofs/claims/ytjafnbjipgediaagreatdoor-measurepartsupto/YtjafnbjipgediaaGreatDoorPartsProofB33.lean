/-
  Parts of the proof.
-/
import Derived.Test.YtjafnbjipgediaaGreatDoorPartsProofB31
import Derived.Test.YtjafnbjipgediaaGreatDoorPartsProofB32
import Derived.Test.YtjafnbjipgediaaGreatDoorPartsProofB17
import Derived.Lib.SlicesCompact
import Derived.Test.YtjafnbjipgediaaGreatDoorPartsProofB20
import Derived.Test.YtjafnbjipgediaaGreatDoorPartsProofB26
import Derived.Test.YtjafnbjipgediaaGreatDoorPartsProofB7
import Derived.Test.YtjafnbjipgediaaGreatDoorPartsProofB3
import Derived.Test.YtjafnbjipgediaaGreatDoorPartsProofB19
import Derived.Test.YtjafnbjipgediaaGreatDoorPartsProofB29
import Derived.Test.YtjafnbjipgediaaGreatDoorPartsProofB27
set_option maxRecDepth 100000
set_option maxHeartbeats 8000000
namespace Go.Proofs.YtjafnbjipgediaaGreatDoor
open Go Go.RowKit
theorem aL7{c f:Bool}{L C:List (Int × Int)}(hC:IsC C (lX L)):lI c f L ↔ (IsC L (fun x=>In L x/\bO c x)/\(f=true->L=C)):=by
 constructor
 ·rintro ⟨h1,h2⟩
  refine⟨h1,fun hf=>?_⟩
  have h3:IsC L (lX L):=⟨h1.cls,h1.fit,h2 hf⟩
  exact h3.one hC (fun _=>Iff.rfl)
 ·rintro ⟨h1,h2⟩
  refine⟨h1,fun hf x=>?_⟩
  have e:=h2 hf
  rw [<- e] at hC
  exact hC.mem x
theorem aL2{c f:Bool}{t:Tr}{k:Int}(hk:t.f.k=k):dV c f t ↔ (if k=1\/k=3\/k=4 then t.f.n=0/\t.f.mn=0/\t.f.mx=0/\t.f.rs.length=0/\t.ks.length=0
 else if k=2 then lI c f t.f.rs/\t.f.n=0/\t.f.mn=0/\t.f.mx=0/\t.ks.length=0
 else if k=5\/k=6 then 1 < t.ks.length/\t.f.n=0/\t.f.mn=0/\t.f.mx=0/\t.f.rs.length=0
 else if k=7 then t.ks.length=1/\t.f.mn=0/\t.f.mx=0/\t.f.rs.length=0
 else if k=8 then (1<=t.f.n/\t.f.n<=9)/\t.f.mn=0/\t.f.mx=0/\t.f.rs.length=0/\t.ks.length=0
 else if k=9 then eT t.f.mn t.f.mx=true/\t.ks.length=1/\t.f.n=0/\t.f.rs.length=0
 else False):=by
 unfold dV
 rw [hk]
def FormedP(c f:Bool)(p:Way)(t:Tr)(w:World)(e:Ending)(w':World):Prop:=∃ b:Bool,e=.returned (.bool b)/\(b=true ↔ bJ c f p t)/\Below w.heap.size w w'
theorem FormedP.mk{c f:Bool}{p:Way}{t:Tr}{w w':World}{e:Ending}(b:Bool)(h1:e=.returned (.bool b))(h2:b=true ↔ bJ c f p t)(h3:Below w.heap.size w w'):FormedP c f p t w e w':=⟨b,h1,h2,h3⟩
theorem aM5(p:Way)(t:Tr)(o:Nat)(c f:Bool){w:World}(hn:NB w t)(hrl:t.f.rs.length<=1048580) :
  Calls Tryz.prog 37 #[.agg #[.int .i64 t.f.k,.int .i64 t.f.n,.int .i64 t.f.mn,.int .i64 t.f.mx,.slice t.f.rq t.f.rs.length t.f.rc,.slice t.f.kq t.f.kl t.f.kc,.int .i64 ((p.length:Int)+1),.int .i64 (arP p),.bool (fiP p),.bool (laP p),.bool (brP p),.int .i64 (o:Int)],.agg #[.bool c,.bool f]] w fun e w'=>FormedP c f p t w e w':=by
 have HNA:=aD hn
 have hkl:=hn.kl
 have HKL:=aD hkl
 obtain⟨qk,ck,ek,hkm,-,-⟩:=hn.k.slice
 have hkm':t.f.kl<=9223372036854775807:=by rw [hkl];exact hkm
 have HF:=aD hn.fit
 have B0:Hid (Below w.heap.size w ((w.alloc (.cells #[.int .i64 t.f.k,.int .i64 t.f.n,.int .i64 t.f.mn,.int .i64 t.f.mx,.slice t.f.rq t.f.rs.length t.f.rc,.slice t.f.kq t.f.kl t.f.kc,.int .i64 ((p.length:Int)+1),.int .i64 (arP p),.bool (fiP p),.bool (laP p),.bool (brP p),.int .i64 (o:Int)] 65)).alloc (.cells #[.bool c,.bool f] 27))):=(bz9).alloc (by simp) _
 have P0:Hid (((w.alloc (.cells #[.int .i64 t.f.k,.int .i64 t.f.n,.int .i64 t.f.mn,.int .i64 t.f.mx,.slice t.f.rq t.f.rs.length t.f.rc,.slice t.f.kq t.f.kl t.f.kc,.int .i64 ((p.length:Int)+1),.int .i64 (arP p),.bool (fiP p),.bool (laP p),.bool (brP p),.int .i64 (o:Int)] 65)).alloc (.cells #[.bool c,.bool f] 27)).heap[w.heap.size]?=some (.cells #[.int .i64 t.f.k,.int .i64 t.f.n,.int .i64 t.f.mn,.int .i64 t.f.mx,.slice t.f.rq t.f.rs.length t.f.rc,.slice t.f.kq t.f.kl t.f.kc,.int .i64 ((p.length:Int)+1),.int .i64 (arP p),.bool (fiP p),.bool (laP p),.bool (brP p),.int .i64 (o:Int)] 65 (0,0))):=(Below.heap_alloc _ _ _ (by simp)).trans (aE w _)
 have M0:Hid (((w.alloc (.cells #[.int .i64 t.f.k,.int .i64 t.f.n,.int .i64 t.f.mn,.int .i64 t.f.mx,.slice t.f.rq t.f.rs.length t.f.rc,.slice t.f.kq t.f.kl t.f.kc,.int .i64 ((p.length:Int)+1),.int .i64 (arP p),.bool (fiP p),.bool (laP p),.bool (brP p),.int .i64 (o:Int)] 65)).alloc (.cells #[.bool c,.bool f] 27)).heap[w.heap.size+1]?=some (.cells #[.bool c,.bool f] 27 (0,0))):=(by
  have:=aE (w.alloc (.cells #[.int .i64 t.f.k,.int .i64 t.f.n,.int .i64 t.f.mn,.int .i64 t.f.mx,.slice t.f.rq t.f.rs.length t.f.rc,.slice t.f.kq t.f.kl t.f.kc,.int .i64 ((p.length:Int)+1),.int .i64 (arP p),.bool (fiP p),.bool (laP p),.bool (brP p),.int .i64 (o:Int)] 65)) (.cells #[.bool c,.bool f] 27)
  rwa [World.size_alloc] at this)
 clear hn hkl ek hkm
 go_enter Tryz.func37,Tryz.ntmps37
 go_upto_region 1 with fail
 generalize ((w.alloc (.cells #[.int .i64 t.f.k,.int .i64 t.f.n,.int .i64 t.f.mn,.int .i64 t.f.mx,.slice t.f.rq t.f.rs.length t.f.rc,.slice t.f.kq t.f.kl t.f.kc,.int .i64 ((p.length:Int)+1),.int .i64 (arP p),.bool (fiP p),.bool (laP p),.bool (brP p),.int .i64 (o:Int)] 65)).alloc (.cells #[.bool c,.bool f] 27))=W0 at B0 P0 M0 ⊢
 generalize w.heap.size+1=bm at M0 ⊢
 have p0:W0.cell? ⟨w.heap.size,0,none⟩=some (.int .i64 t.f.k):=aA P0.out (i:=0) rfl
 have p1:W0.cell? ⟨w.heap.size,1,none⟩=some (.int .i64 t.f.n):=aA P0.out (i:=1) rfl
 have p2:W0.cell? ⟨w.heap.size,2,none⟩=some (.int .i64 t.f.mn):=aA P0.out (i:=2) rfl
 have p3:W0.cell? ⟨w.heap.size,3,none⟩=some (.int .i64 t.f.mx):=aA P0.out (i:=3) rfl
 have p4:W0.cell? ⟨w.heap.size,4,none⟩=some (.slice t.f.rq t.f.rs.length t.f.rc):=aA P0.out (i:=4) rfl
 have p5:W0.cell? ⟨w.heap.size,5,none⟩=some (.slice t.f.kq t.f.kl t.f.kc):=aA P0.out (i:=5) rfl
 have p6:W0.cell? ⟨w.heap.size,6,none⟩=some (.int .i64 ((p.length:Int)+1)):=aA P0.out (i:=6) rfl
 have p7:W0.cell? ⟨w.heap.size,7,none⟩=some (.int .i64 (arP p)):=aA P0.out (i:=7) rfl
 have p8:W0.cell? ⟨w.heap.size,8,none⟩=some (.bool (fiP p)):=aA P0.out (i:=8) rfl
 have p9:W0.cell? ⟨w.heap.size,9,none⟩=some (.bool (laP p)):=aA P0.out (i:=9) rfl
 have p10:W0.cell? ⟨w.heap.size,10,none⟩=some (.bool (brP p)):=aA P0.out (i:=10) rfl
 have p11:W0.cell? ⟨w.heap.size,11,none⟩=some (.int .i64 (o:Int)):=aA P0.out (i:=11) rfl
 go_upto_region 2 with fail
 have K1:Below W0.heap.size W0 (W0.alloc (.cells #[.int .i64 t.f.k,.int .i64 t.f.n,.int .i64 t.f.mn,.int .i64 t.f.mx,.slice t.f.rq t.f.rs.length t.f.rc,.slice t.f.kq t.f.kl t.f.kc] 25)):=bz9
 have N1:=aD (aE W0 (.cells #[.int .i64 t.f.k,.int .i64 t.f.n,.int .i64 t.f.mn,.int .i64 t.f.mx,.slice t.f.rq t.f.rs.length t.f.rc,.slice t.f.kq t.f.kl t.f.kc] 25))
 have P1:=aD ((K1.block _ (aB P0.out)).trans P0.out)
 have M1:=aD ((K1.block _ (aB M0.out)).trans M0.out)
 have B1:=aD (aK B0.out K1 lz9)
 clear K1 B0 P0 M0 p0 p1 p2 p3 p4 p5 p6 p7 p8 p9 p10 p11
 generalize (W0.alloc (.cells #[.int .i64 t.f.k,.int .i64 t.f.n,.int .i64 t.f.mn,.int .i64 t.f.mx,.slice t.f.rq t.f.rs.length t.f.rc,.slice t.f.kq t.f.kl t.f.kc] 25))=W1 at N1 P1 M1 B1 ⊢
 generalize W0.heap.size=bn at N1 ⊢
 have p0:W1.cell? ⟨w.heap.size,0,none⟩=some (.int .i64 t.f.k):=aA P1.out (i:=0) rfl
 have p1:W1.cell? ⟨w.heap.size,1,none⟩=some (.int .i64 t.f.n):=aA P1.out (i:=1) rfl
 have p2:W1.cell? ⟨w.heap.size,2,none⟩=some (.int .i64 t.f.mn):=aA P1.out (i:=2) rfl
 have p3:W1.cell? ⟨w.heap.size,3,none⟩=some (.int .i64 t.f.mx):=aA P1.out (i:=3) rfl
 have p4:W1.cell? ⟨w.heap.size,4,none⟩=some (.slice t.f.rq t.f.rs.length t.f.rc):=aA P1.out (i:=4) rfl
 have p5:W1.cell? ⟨w.heap.size,5,none⟩=some (.slice t.f.kq t.f.kl t.f.kc):=aA P1.out (i:=5) rfl
 have p6:W1.cell? ⟨w.heap.size,6,none⟩=some (.int .i64 ((p.length:Int)+1)):=aA P1.out (i:=6) rfl
 have p7:W1.cell? ⟨w.heap.size,7,none⟩=some (.int .i64 (arP p)):=aA P1.out (i:=7) rfl
 have p8:W1.cell? ⟨w.heap.size,8,none⟩=some (.bool (fiP p)):=aA P1.out (i:=8) rfl
 have p9:W1.cell? ⟨w.heap.size,9,none⟩=some (.bool (laP p)):=aA P1.out (i:=9) rfl
 have p10:W1.cell? ⟨w.heap.size,10,none⟩=some (.bool (brP p)):=aA P1.out (i:=10) rfl
 have p11:W1.cell? ⟨w.heap.size,11,none⟩=some (.int .i64 (o:Int)):=aA P1.out (i:=11) rfl
 have ST:=aD (aM0 p t o W1)
 obtain⟨s,hs⟩:∃ s,jY p t.f.k=s:=⟨_,rfl⟩
 rw [hs] at ST
 have HS:=aD hs
 clear hs
 go_upto_region 3 with (go_at_call 67;(with_reducible refine(ST.out).mono ?_);rintro e W2 ⟨rfl,h2⟩;have B2:=aD (aK B1.out h2 lz9);have N2:=aD ((h2.block _ (aB N1.out)).trans N1.out);have M2:=aD ((h2.block _ (aB M1.out)).trans M1.out);clear h2)
 clear p0 p1 p2 p3 p4 p5 p6 p7 p8 p9 p10 p11 N1 P1 M1 B1 ST
 cases s with
 | false=>
  go_wp2
  go_ret
  exact FormedP.mk false rfl (⟨fun z=>(by cases z),fun z=>by have:=z.1;rw [HS.out] at this;cases this⟩) B2.out
 | true=>
  have FT:Hid (bJ c f p t ↔ dV c f t):=⟨fun z=>z.2,fun z=>⟨HS.out,z⟩⟩
  obtain⟨n0,n1,n2,n3,n4,n5⟩:=(show BoxN W2 bn t.f from N2.out).six
  simp only [Nat.zero_add] at n1 n2 n3 n4 n5
  have m0:W2.cell? ⟨bm,0,none⟩=some (.bool c):=aA M2.out (i:=0) rfl
  have m1:W2.cell? ⟨bm,1,none⟩=some (.bool f):=aA M2.out (i:=1) rfl
  obtain⟨k,hk⟩:∃ k,t.f.k=k:=⟨_,rfl⟩
  have TK:=aD (aL2 (c:=c) (f:=f) hk)
  have HKK:=aD hk
  obtain⟨ln,hln⟩:∃ ln,t.f.kl=ln:=⟨_,rfl⟩
  have HLN:=aD hln
  clear hk hln
  by_cases h1:k=1\/k=3\/k=4
  ·have BR:=aD (fun W=>zX t.f W)
   obtain⟨br,hbr⟩:∃ br,decide (t.f.n=0/\t.f.mn=0/\t.f.mx=0/\t.f.rs.length=0/\t.f.kl=0)=br:=⟨_,rfl⟩
   rw [hbr] at BR
   have HBR:=aD hbr
   clear hbr
   have HI:=aD (show br=true ↔ bJ c f p t by
    rw [<- HBR.out,FT.out,TK.out,if_pos h1,decide_eq_true_eq,HKL.out])
   rcases h1 with h1 | h1 | h1
   ·have q1:(t.f.k==1)=true:=beq_iff_eq.2 (by rw [HKK.out];omega)
    clear h1
    go_wp2_with (go_at_call 68;(with_reducible refine(BR.out _).mono ?_);rintro e W8 ⟨rfl,h8⟩;have B8:=aD (aK B2.out h8 lz9);clear h8)
    go_ret
    exact FormedP.mk br rfl (HI.out) B8.out
   ·have q1:(t.f.k==1)=false:=beq_eq_false_iff_ne.2 (by rw [HKK.out];omega)
    have q3:(t.f.k==3)=true:=beq_iff_eq.2 (by rw [HKK.out];omega)
    clear h1
    go_wp2_with (go_at_call 68;(with_reducible refine(BR.out _).mono ?_);rintro e W8 ⟨rfl,h8⟩;have B8:=aD (aK B2.out h8 lz9);clear h8)
    go_ret
    exact FormedP.mk br rfl (HI.out) B8.out
   ·have q1:(t.f.k==1)=false:=beq_eq_false_iff_ne.2 (by rw [HKK.out];omega)
    have q3:(t.f.k==3)=false:=beq_eq_false_iff_ne.2 (by rw [HKK.out];omega)
    have q4:(t.f.k==4)=true:=beq_iff_eq.2 (by rw [HKK.out];omega)
    clear h1
    go_wp2_with (go_at_call 68;(with_reducible refine(BR.out _).mono ?_);rintro e W8 ⟨rfl,h8⟩;have B8:=aD (aK B2.out h8 lz9);clear h8)
    go_ret
    exact FormedP.mk br rfl (HI.out) B8.out
  by_cases h2:k=2
  ·have BR:=aD (fun W=>zV t.f W)
   obtain⟨br,hbr⟩:∃ br,decide (t.f.n=0/\t.f.mn=0/\t.f.mx=0/\t.f.kl=0)=br:=⟨_,rfl⟩
   rw [hbr] at BR
   have HBR:=aD hbr
   clear hbr
   have q1:(t.f.k==1)=false:=beq_eq_false_iff_ne.2 (by rw [HKK.out];omega)
   have q3:(t.f.k==3)=false:=beq_eq_false_iff_ne.2 (by rw [HKK.out];omega)
   have q4:(t.f.k==4)=false:=beq_eq_false_iff_ne.2 (by rw [HKK.out];omega)
   have q2:(t.f.k==2)=true:=beq_iff_eq.2 (by rw [HKK.out];omega)
   have RC:=aD (aF4 (m:=c) (HNA.out.ck (CK.of_below B2.out)).r HF.out hrl)
   go_upto_region 12 with (go_at_call 69;(with_reducible refine(RC.out).mono ?_);rintro e W3 ⟨b3,rfl,hb3,h3⟩;have I3:=aD hb3;have B3:=aD (aK B2.out h3 lz9);have N3:=aD ((h3.block _ (aB N2.out)).trans N2.out);have M3:=aD ((h3.block _ (aB M2.out)).trans M2.out);clear hb3 h3)
   clear n0 n1 n2 n3 n4 n5 m0 m1
   have n4:W3.cell? ⟨bn,4,none⟩=some (.slice t.f.rq t.f.rs.length t.f.rc):=(show BoxN W3 bn t.f from N3.out).six.2.2.2.2.1
   have FC:=aD (aM6 (HNA.out.ck (CK.of_below B3.out)).r HF.out hrl)
   go_upto_region 13 with (go_at_call 70;(with_reducible refine(FC.out).mono ?_);rintro e W4 ⟨v4,C,rfl,h41,h42,h43,h44⟩;obtain⟨q4,k4,rfl⟩:=h41.shape;have X4:=aD h41;have I4:=aD h42;have B4:=aD (aK B3.out h44 lz9);have N4:=aD ((h44.block _ (aB N3.out)).trans N3.out);have M4:=aD ((h44.block _ (aB M3.out)).trans M3.out);clear h41 h42 h43 h44)
   clear n4
   have n4:W4.cell? ⟨bn,4,none⟩=some (.slice t.f.rq t.f.rs.length t.f.rc):=(show BoxN W4 bn t.f from N4.out).six.2.2.2.2.1
   have AK:=aD (yX (HNA.out.ck (CK.of_below B4.out)).r X4.out.arg)
   obtain⟨aa,haa⟩:∃ aa,decide (t.f.rs=C)=aa:=⟨_,rfl⟩
   rw [haa] at AK
   have HAA:=aD haa
   clear haa
   go_upto_region 14 with (go_at_call 71;(with_reducible refine(AK.out).mono ?_);rintro e W5 ⟨rfl,h5⟩;have B5:=aD (aK B4.out h5 lz9);have N5:=aD ((h5.block _ (aB N4.out)).trans N4.out);have M5:=aD ((h5.block _ (aB M4.out)).trans M4.out);clear h5)
   clear n4
   obtain⟨n0,n1,n2,n3,n4,n5⟩:=(show BoxN W5 bn t.f from N5.out).six
   simp only [Nat.zero_add] at n1 n2 n3 n4 n5
   have m1:W5.cell? ⟨bm,1,none⟩=some (.bool f):=aA M5.out (i:=1) rfl
   have HI:=aD (show ((b3=true/\(f=true->aa=true))/\br=true) ↔ bJ c f p t by
    rw [<- HBR.out,FT.out,TK.out,if_neg h1,if_pos h2,decide_eq_true_eq,HKL.out,aL7 I4.out,I3.out,<- HAA.out,decide_eq_true_eq])
   clear h1 h2 RC FC AK
   cases b3 with
   | false=>
    have HI2:=aD (show false=true ↔ bJ c f p t from ⟨fun z=>(by cases z),fun z=>(HI.out.2 z).1.1⟩)
    go_wp2
    go_ret
    exact FormedP.mk false rfl (HI2.out) B5.out
   | true=>
    cases f with
    | false=>
     have HI2:=aD (show br=true ↔ bJ c false p t from ⟨fun z=>HI.out.1 ⟨⟨rfl,fun q=>(by cases q)⟩,z⟩,fun z=>(HI.out.2 z).2⟩)
     go_wp2_with (go_at_call 68;(with_reducible refine(BR.out _).mono ?_);rintro e W8 ⟨rfl,h8⟩;have B8:=aD (aK B5.out h8 lz9);clear h8)
     go_ret
     exact FormedP.mk br rfl (HI2.out) B8.out
    | true=>
     cases aa with
     | false=>
      have HI2:=aD (show false=true ↔ bJ c true p t from ⟨fun z=>(by cases z),fun z=>(HI.out.2 z).1.2 rfl⟩)
      go_wp2
      go_ret
      exact FormedP.mk false rfl (HI2.out) B5.out
     | true=>
      have HI2:=aD (show br=true ↔ bJ c true p t from ⟨fun z=>HI.out.1 ⟨⟨rfl,fun _=>rfl⟩,z⟩,fun z=>(HI.out.2 z).2⟩)
      go_wp2_with (go_at_call 68;(with_reducible refine(BR.out _).mono ?_);rintro e W8 ⟨rfl,h8⟩;have B8:=aD (aK B5.out h8 lz9);clear h8)
      go_ret
      exact FormedP.mk br rfl (HI2.out) B8.out
  by_cases h56:k=5\/k=6
  ·have BR:=aD (fun W=>zW t.f W)
   obtain⟨br,hbr⟩:∃ br,decide (t.f.n=0/\t.f.mn=0/\t.f.mx=0/\t.f.rs.length=0)=br:=⟨_,rfl⟩
   rw [hbr] at BR
   have HBR:=aD hbr
   clear hbr
   have HI:=aD (show (1 < ln/\br=true) ↔ bJ c f p t by
    rw [<- HBR.out,FT.out,TK.out,if_neg h1,if_neg h2,if_pos h56,decide_eq_true_eq,<- HLN.out,HKL.out])
   by_cases hl:1 < ln
   ·have el:(1:Int) < (t.f.kl:Int):=by rw [HLN.out];omega
    have HI2:=aD (show br=true ↔ bJ c f p t from ⟨fun z=>HI.out.1 ⟨hl,z⟩,fun z=>(HI.out.2 z).2⟩)
    clear hl
    rcases h56 with h5 | h5
    ·have q1:(t.f.k==1)=false:=beq_eq_false_iff_ne.2 (by rw [HKK.out];omega)
     have q3:(t.f.k==3)=false:=beq_eq_false_iff_ne.2 (by rw [HKK.out];omega)
     have q4:(t.f.k==4)=false:=beq_eq_false_iff_ne.2 (by rw [HKK.out];omega)
     have q2:(t.f.k==2)=false:=beq_eq_false_iff_ne.2 (by rw [HKK.out];omega)
     have q5:(t.f.k==5)=true:=beq_iff_eq.2 (by rw [HKK.out];omega)
     clear h5 h1 h2
     go_wp2_with (go_at_call 68;(with_reducible refine(BR.out _).mono ?_);rintro e W8 ⟨rfl,h8⟩;have B8:=aD (aK B2.out h8 lz9);clear h8)
     go_ret
     exact FormedP.mk br rfl (HI2.out) B8.out
    ·have q1:(t.f.k==1)=false:=beq_eq_false_iff_ne.2 (by rw [HKK.out];omega)
     have q3:(t.f.k==3)=false:=beq_eq_false_iff_ne.2 (by rw [HKK.out];omega)
     have q4:(t.f.k==4)=false:=beq_eq_false_iff_ne.2 (by rw [HKK.out];omega)
     have q2:(t.f.k==2)=false:=beq_eq_false_iff_ne.2 (by rw [HKK.out];omega)
     have q5:(t.f.k==5)=false:=beq_eq_false_iff_ne.2 (by rw [HKK.out];omega)
     have q6:(t.f.k==6)=true:=beq_iff_eq.2 (by rw [HKK.out];omega)
     clear h5 h1 h2
     go_wp2_with (go_at_call 68;(with_reducible refine(BR.out _).mono ?_);rintro e W8 ⟨rfl,h8⟩;have B8:=aD (aK B2.out h8 lz9);clear h8)
     go_ret
     exact FormedP.mk br rfl (HI2.out) B8.out
   ·have el:¬ (1:Int) < (t.f.kl:Int):=by rw [HLN.out];omega
    have HI2:=aD (show false=true ↔ bJ c f p t from ⟨fun z=>(by cases z),fun z=>absurd (HI.out.2 z).1 hl⟩)
    clear hl
    rcases h56 with h5 | h5
    ·have q1:(t.f.k==1)=false:=beq_eq_false_iff_ne.2 (by rw [HKK.out];omega)
     have q3:(t.f.k==3)=false:=beq_eq_false_iff_ne.2 (by rw [HKK.out];omega)
     have q4:(t.f.k==4)=false:=beq_eq_false_iff_ne.2 (by rw [HKK.out];omega)
     have q2:(t.f.k==2)=false:=beq_eq_false_iff_ne.2 (by rw [HKK.out];omega)
     have q5:(t.f.k==5)=true:=beq_iff_eq.2 (by rw [HKK.out];omega)
     clear h5 h1 h2
     go_wp2
     go_ret
     exact FormedP.mk false rfl (HI2.out) B2.out
    ·have q1:(t.f.k==1)=false:=beq_eq_false_iff_ne.2 (by rw [HKK.out];omega)
     have q3:(t.f.k==3)=false:=beq_eq_false_iff_ne.2 (by rw [HKK.out];omega)
     have q4:(t.f.k==4)=false:=beq_eq_false_iff_ne.2 (by rw [HKK.out];omega)
     have q2:(t.f.k==2)=false:=beq_eq_false_iff_ne.2 (by rw [HKK.out];omega)
     have q5:(t.f.k==5)=false:=beq_eq_false_iff_ne.2 (by rw [HKK.out];omega)
     have q6:(t.f.k==6)=true:=beq_iff_eq.2 (by rw [HKK.out];omega)
     clear h5 h1 h2
     go_wp2
     go_ret
     exact FormedP.mk false rfl (HI2.out) B2.out
  by_cases h7:k=7
  ·have BR:=aD (fun W=>zS t.f W)
   obtain⟨br,hbr⟩:∃ br,decide (t.f.mn=0/\t.f.mx=0/\t.f.rs.length=0)=br:=⟨_,rfl⟩
   rw [hbr] at BR
   have HBR:=aD hbr
   clear hbr
   have HI:=aD (show (ln=1/\br=true) ↔ bJ c f p t by
    rw [<- HBR.out,FT.out,TK.out,if_neg h1,if_neg h2,if_neg h56,if_pos h7,decide_eq_true_eq,<- HLN.out,HKL.out])
   have q1:(t.f.k==1)=false:=beq_eq_false_iff_ne.2 (by rw [HKK.out];omega)
   have q3:(t.f.k==3)=false:=beq_eq_false_iff_ne.2 (by rw [HKK.out];omega)
   have q4:(t.f.k==4)=false:=beq_eq_false_iff_ne.2 (by rw [HKK.out];omega)
   have q2:(t.f.k==2)=false:=beq_eq_false_iff_ne.2 (by rw [HKK.out];omega)
   have q5:(t.f.k==5)=false:=beq_eq_false_iff_ne.2 (by rw [HKK.out];omega)
   have q6:(t.f.k==6)=false:=beq_eq_false_iff_ne.2 (by rw [HKK.out];omega)
   have q7:(t.f.k==7)=true:=beq_iff_eq.2 (by rw [HKK.out];omega)
   clear h1 h2 h56 h7
   by_cases hl:ln=1
   ·have el:((t.f.kl:Int)==1)=true:=beq_iff_eq.2 (by rw [HLN.out];omega)
    have HI2:=aD (show br=true ↔ bJ c f p t from ⟨fun z=>HI.out.1 ⟨hl,z⟩,fun z=>(HI.out.2 z).2⟩)
    clear hl
    go_wp2_with (go_at_call 68;(with_reducible refine(BR.out _).mono ?_);rintro e W8 ⟨rfl,h8⟩;have B8:=aD (aK B2.out h8 lz9);clear h8)
    go_ret
    exact FormedP.mk br rfl (HI2.out) B8.out
   ·have el:((t.f.kl:Int)==1)=false:=beq_eq_false_iff_ne.2 (by rw [HLN.out];omega)
    have HI2:=aD (show false=true ↔ bJ c f p t from ⟨fun z=>(by cases z),fun z=>absurd (HI.out.2 z).1 hl⟩)
    clear hl
    go_wp2
    go_ret
    exact FormedP.mk false rfl (HI2.out) B2.out
  by_cases h8:k=8
  ·have BR:=aD (fun W=>zT t.f W)
   obtain⟨br,hbr⟩:∃ br,decide (t.f.mn=0/\t.f.mx=0/\t.f.rs.length=0/\t.f.kl=0)=br:=⟨_,rfl⟩
   rw [hbr] at BR
   have HBR:=aD hbr
   clear hbr
   have HI:=aD (show ((1<=t.f.n/\t.f.n<=9)/\br=true) ↔ bJ c f p t by
    rw [<- HBR.out,FT.out,TK.out,if_neg h1,if_neg h2,if_neg h56,if_neg h7,if_pos h8,decide_eq_true_eq,HKL.out])
   have q1:(t.f.k==1)=false:=beq_eq_false_iff_ne.2 (by rw [HKK.out];omega)
   have q3:(t.f.k==3)=false:=beq_eq_false_iff_ne.2 (by rw [HKK.out];omega)
   have q4:(t.f.k==4)=false:=beq_eq_false_iff_ne.2 (by rw [HKK.out];omega)
   have q2:(t.f.k==2)=false:=beq_eq_false_iff_ne.2 (by rw [HKK.out];omega)
   have q5:(t.f.k==5)=false:=beq_eq_false_iff_ne.2 (by rw [HKK.out];omega)
   have q6:(t.f.k==6)=false:=beq_eq_false_iff_ne.2 (by rw [HKK.out];omega)
   have q7:(t.f.k==7)=false:=beq_eq_false_iff_ne.2 (by rw [HKK.out];omega)
   have q8:(t.f.k==8)=true:=beq_iff_eq.2 (by rw [HKK.out];omega)
   clear h1 h2 h56 h7 h8
   by_cases g1:1<=t.f.n
   ·by_cases g2:t.f.n<=9
    ·have HI2:=aD (show br=true ↔ bJ c f p t from ⟨fun z=>HI.out.1 ⟨⟨g1,g2⟩,z⟩,fun z=>(HI.out.2 z).2⟩)
     go_wp2_with (go_at_call 68;(with_reducible refine(BR.out _).mono ?_);rintro e W8 ⟨rfl,h8⟩;have B8:=aD (aK B2.out h8 lz9);clear h8)
     go_ret
     exact FormedP.mk br rfl (HI2.out) B8.out
    ·have HI2:=aD (show false=true ↔ bJ c f p t from ⟨fun z=>(by cases z),fun z=>absurd (HI.out.2 z).1.2 g2⟩)
     go_wp2
     go_ret
     exact FormedP.mk false rfl (HI2.out) B2.out
   ·have HI2:=aD (show false=true ↔ bJ c f p t from ⟨fun z=>(by cases z),fun z=>absurd (HI.out.2 z).1.1 g1⟩)
    go_wp2
    go_ret
    exact FormedP.mk false rfl (HI2.out) B2.out
  by_cases h9:k=9
  ·have BR:=aD (fun W=>zU t.f W)
   obtain⟨br,hbr⟩:∃ br,decide (t.f.n=0/\t.f.rs.length=0)=br:=⟨_,rfl⟩
   rw [hbr] at BR
   have HBR:=aD hbr
   clear hbr
   have BD:=aD (fun W=>aN0 t.f.mn t.f.mx W)
   obtain⟨bd,hbd⟩:∃ bd,eT t.f.mn t.f.mx=bd:=⟨_,rfl⟩
   rw [hbd] at BD
   have HBD:=aD hbd
   clear hbd
   have HI:=aD (show (bd=true/\ln=1/\br=true) ↔ bJ c f p t by
    rw [<- HBR.out,FT.out,TK.out,if_neg h1,if_neg h2,if_neg h56,if_neg h7,if_neg h8,if_pos h9,decide_eq_true_eq,<- HLN.out,HKL.out,HBD.out])
   have q1:(t.f.k==1)=false:=beq_eq_false_iff_ne.2 (by rw [HKK.out];omega)
   have q3:(t.f.k==3)=false:=beq_eq_false_iff_ne.2 (by rw [HKK.out];omega)
   have q4:(t.f.k==4)=false:=beq_eq_false_iff_ne.2 (by rw [HKK.out];omega)
   have q2:(t.f.k==2)=false:=beq_eq_false_iff_ne.2 (by rw [HKK.out];omega)
   have q5:(t.f.k==5)=false:=beq_eq_false_iff_ne.2 (by rw [HKK.out];omega)
   have q6:(t.f.k==6)=false:=beq_eq_false_iff_ne.2 (by rw [HKK.out];omega)
   have q7:(t.f.k==7)=false:=beq_eq_false_iff_ne.2 (by rw [HKK.out];omega)
   have q8:(t.f.k==8)=false:=beq_eq_false_iff_ne.2 (by rw [HKK.out];omega)
   have q9:(t.f.k==9)=true:=beq_iff_eq.2 (by rw [HKK.out];omega)
   clear h1 h2 h56 h7 h8 h9
   cases bd with
   | false=>
    have HI2:=aD (show false=true ↔ bJ c f p t from ⟨fun z=>(by cases z),fun z=>(HI.out.2 z).1⟩)
    go_wp2_with (go_at_call 72;(with_reducible refine(BD.out _).mono ?_);rintro e w5 ⟨rfl,h5⟩;subst w5)
    go_ret
    exact FormedP.mk false rfl (HI2.out) B2.out
   | true=>
    by_cases hl:ln=1
    ·have el:((t.f.kl:Int)==1)=true:=beq_iff_eq.2 (by rw [HLN.out];omega)
     have HI2:=aD (show br=true ↔ bJ c f p t from ⟨fun z=>HI.out.1 ⟨rfl,hl,z⟩,fun z=>(HI.out.2 z).2.2⟩)
     clear hl
     go_wp2_with first |(go_at_call 72;(with_reducible refine(BD.out _).mono ?_);rintro e w5 ⟨rfl,h5⟩;subst w5) |(go_at_call 68;(with_reducible refine(BR.out _).mono ?_);rintro e W8 ⟨rfl,h8⟩;have B8:=aD (aK B2.out h8 lz9);clear h8)
     go_ret
     exact FormedP.mk br rfl (HI2.out) B8.out
    ·have el:((t.f.kl:Int)==1)=false:=beq_eq_false_iff_ne.2 (by rw [HLN.out];omega)
     have HI2:=aD (show false=true ↔ bJ c f p t from ⟨fun z=>(by cases z),fun z=>absurd (HI.out.2 z).2.1 hl⟩)
     clear hl
     go_wp2_with (go_at_call 72;(with_reducible refine(BD.out _).mono ?_);rintro e w5 ⟨rfl,h5⟩;subst w5)
     go_ret
     exact FormedP.mk false rfl (HI2.out) B2.out
  have q1:(t.f.k==1)=false:=beq_eq_false_iff_ne.2 (by rw [HKK.out];omega)
  have q3:(t.f.k==3)=false:=beq_eq_false_iff_ne.2 (by rw [HKK.out];omega)
  have q4:(t.f.k==4)=false:=beq_eq_false_iff_ne.2 (by rw [HKK.out];omega)
  have q2:(t.f.k==2)=false:=beq_eq_false_iff_ne.2 (by rw [HKK.out];omega)
  have q5:(t.f.k==5)=false:=beq_eq_false_iff_ne.2 (by rw [HKK.out];omega)
  have q6:(t.f.k==6)=false:=beq_eq_false_iff_ne.2 (by rw [HKK.out];omega)
  have q7:(t.f.k==7)=false:=beq_eq_false_iff_ne.2 (by rw [HKK.out];omega)
  have q8:(t.f.k==8)=false:=beq_eq_false_iff_ne.2 (by rw [HKK.out];omega)
  have q9:(t.f.k==9)=false:=beq_eq_false_iff_ne.2 (by rw [HKK.out];omega)
  have HI2:=aD (show false=true ↔ bJ c f p t from ⟨fun z=>(by cases z),fun z=>by
   have:=TK.out.1 (FT.out.1 z)
   rw [if_neg h1,if_neg h2,if_neg h56,if_neg h7,if_neg h8,if_neg h9] at this
   exact this.elim⟩)
  clear h1 h2 h56 h7 h8 h9
  go_wp2
  go_ret
  exact FormedP.mk false rfl (HI2.out) B2.out
section
theorem aV0(W:World)(a:Value)(t:TypeId):∀ (j:Nat) (u:Value),[a][j]?=some u->(W.alloc (.cells #[a] t)).cell? ((⟨W.heap.size,0,none⟩:Addr).add j)=some u:=by
 intro j u h
 match j,h with
 | 0,h=>simp at h;subst h;simp [Addr.add]
theorem aQ0(most:Nat):∀ (a:List El) (k j:Nat) (z:Zl),(tl most k a)[j]?=some z->z.2=min (k+j+z.1.2.sz) most
 | [],k,j,z,h=>by simp [tl] at h
 | x :: a,k,0,z,h=>by
  rw [tl] at h
  simp at h
  subst h
  rfl
 | x :: a,k,j+1,z,h=>by
  rw [tl,List.getElem?_cons_succ] at h
  have:=aQ0 most a (k+1) j z h
  omega
theorem aN6{t:Tr}{j:Nat}{z:Zl}(h:(nN 2001 t)[j]?=some z):z.2=min (j+z.1.2.sz) 2001:=by
 have h':((tl 2001 0 (pp [] t)).take 2001)[j]?=some z:=by
  unfold nN kI at h
  rw [List.nil_append,List.length_nil,Nat.sub_zero] at h
  exact h
 have hj:(tl 2001 0 (pp [] t))[j]?=some z:=by
  obtain⟨hl,hv⟩:=List.getElem?_eq_some_iff.1 h'
  rw [List.length_take] at hl
  rw [List.getElem_take] at hv
  exact List.getElem?_eq_some_iff.2 ⟨by omega,hv⟩
 have:=aQ0 _ _ _ _ _ hj
 omega
theorem aG9{c f:Bool}{p:Way}{t:Tr}{i g:Nat}(h:bP c f p t i g=0)(hk:t.f.k=7):t.f.n=(g:Int)+1:=by
 obtain⟨h1,h2,h3⟩:=iR h
 exact(iB.1 ⟨(by rw [hk];rfl),h2,h3⟩).2 hk
def RG(c f:Bool)(pre:List El):Prop:=∀ (j:Nat) (y:El),pre[j]?=some y->bP c f y.1 y.2 j (bG (pre.take j))=0
theorem RG.nil(c f:Bool):RG c f []:=fun j y h=>by simp at h
theorem RG.step{c f:Bool}{pre:List El}{x:El}(h:RG c f pre)(hx:bP c f x.1 x.2 pre.length (bG pre)=0):RG c f (pre ++ [x]):=fun j y hy=>by
 rcases Nat.lt_or_ge j pre.length with hj | hj
 ·rw [List.getElem?_append_left hj] at hy
  rw [List.take_append_of_le_length (by omega)]
  exact h j y hy
 ·rw [List.getElem?_append_right hj] at hy
  have h0:j - pre.length=0:=by
   rcases Nat.eq_zero_or_pos (j - pre.length) with z | z
   ·exact z
   ·rw [show j - pre.length=(j - pre.length - 1)+1 by omega] at hy
    simp at hy
  rw [h0] at hy
  simp at hy
  subst hy
  have hj2:j=pre.length:=by omega
  subst hj2
  rw [List.take_left]
  exact hx
theorem kS{c f:Bool}:∀ (a b:List El) (i g:Nat),(∀ (j:Nat) (y:El),a[j]?=some y->bP c f y.1 y.2 (i+j) (g+bG (a.take j))=0)->aS c f i g (a ++ b)=aS c f (i+a.length) (g+bG a) b
 | [],b,i,g,_=>by simp [bG]
 | x :: a,b,i,g,h=>by
  have h0:=h 0 x rfl
  rw [List.take_zero,Nat.add_zero] at h0
  have h0':bP c f x.1 x.2 i g=0:=h0
  have ih:=kS a b (i+1) (g+(if x.2.f.k=7 then 1 else 0)) (fun j y hy=>by
   have:=h (j+1) y (by rw [List.getElem?_cons_succ];exact hy)
   rw [List.take_succ_cons,bG] at this
   rw [show i+1+j=i+(j+1) by omega,Nat.add_assoc]
   exact this)
  rw [List.cons_append]
  simp only [aS,h0',ne_eq,not_true,if_false]
  rw [ih,List.length_cons,bG,show i+1+a.length=i+(a.length+1) by omega,Nat.add_assoc]
theorem RG.stop{c f:Bool}{t:Tr}{j:Nat}{x:El}{m:Int}(h:RG c f ((pp [] t).take j))(hx:(pp [] t)[j]?=some x)(hm:bP c f x.1 x.2 j (bG ((pp [] t).take j))=m)(h0:m≠0):aS c f 0 0 (pp [] t)=m:=by
 have hj:=(List.getElem?_eq_some_iff.1 hx).1
 have e:pp [] t=(pp [] t).take j ++ x :: (pp [] t).drop (j+1):=by
  have:=List.take_append_drop j (pp [] t)
  rw [List.drop_eq_getElem_cons hj,(List.getElem?_eq_some_iff.1 hx).2] at this
  exact this.symm
 have hl:((pp [] t).take j).length=j:=by rw [List.length_take];omega
 have hs:=kS ((pp [] t).take j) (x :: (pp [] t).drop (j+1)) 0 0 (fun k y hy=>by rw [Nat.zero_add,Nat.zero_add];exact h k y hy)
 rw [<- e,Nat.zero_add,Nat.zero_add,hl] at hs
 rw [hs]
 simp only [aS,hm,ne_eq,h0,not_false_eq_true,if_true]
theorem RG.all{c f:Bool}{t:Tr}(h:RG c f (pp [] t)):aS c f 0 0 (pp [] t)=0:=by
 have hs:=kS (pp [] t) [] 0 0 (fun k y hy=>by rw [Nat.zero_add,Nat.zero_add];exact h k y hy)
 rw [List.append_nil] at hs
 rw [hs]
 rfl
theorem oI{t:Tr}{j:Nat}{x:El}(hx:(pp [] t)[j]?=some x):(pp [] t).take j ++ [x] <+: pp [] t:=by
 have:(pp [] t).take (j+1)=(pp [] t).take j ++ [x]:=by rw [List.take_add_one,hx];rfl
 rw [<- this]
 exact List.take_prefix _ _
theorem rW{t:Tr}{j k:Nat}{y:El}(h:((pp [] t).take j)[k]?=some y):(pp [] t)[k]?=some y:=by
 obtain⟨hl,hv⟩:=List.getElem?_eq_some_iff.1 h
 rw [List.length_take] at hl
 rw [List.getElem_take] at hv
 exact List.getElem?_eq_some_iff.2 ⟨by omega,hv⟩
open Classical in
theorem aH0{c f:Bool}{p:Way}{t:Tr}{i g:Nat}(hbr:∀ par i r,p=(par,i) :: r->par.f.k=5->brP r=true):bP c f p t i g=if i=2000 then 42 else if 40 < p.length+1 then 43 else if ¬ (bJ c f p t/\(t.f.k=7->t.f.n=(g:Int)+1)) then 50 else if t.f.k=7/\30 < t.f.n then 42 else if t.f.k=8/\¬ (hP p t.f.n=false/\t.f.n<=(g:Int)) then 41 else 0:=by
 unfold bP
 simp only [xC hbr]
structure RS(w5:World)(t:Tr)(c f:Bool)(j gr:Nat)(v:Value)(W:World):Prop where
 le:j<=2000
 cnt:bG ((pp [] t).take j)=gr
 row:W.ownsRow w5.heap.size 3 1 v gr (fU ((fV 0 ((pp [] t).take j)).map Int.ofNat))
 bel:Below w5.heap.size w5 W
 ok:RG c f ((pp [] t).take j)
theorem RS.next{w5 W W':World}{t:Tr}{c f:Bool}{j gr:Nat}{v:Value}{x:El}(h:RS w5 t c f j gr v W)(hx:(pp [] t)[j]?=some x)(hj:j < 2000)(h0:bP c f x.1 x.2 j gr=0)(hk:x.2.f.k≠7)(hb:Below W.heap.size W W'):RS w5 t c f (j+1) gr v W':=by
 have hl:=(List.getElem?_eq_some_iff.1 hx).1
 have hlen:((pp [] t).take j).length=j:=by rw [List.length_take];omega
 have e:(pp [] t).take (j+1)=(pp [] t).take j ++ [x]:=by rw [List.take_add_one,hx];rfl
 refine⟨by omega,?_,?_,aK h.bel hb lz9,?_⟩
 ·rw [e,iF,if_neg hk,h.cnt];rfl
 ·rw [e,qZ,if_neg hk,List.append_nil]
  exact aL h.row (Fr.of_below (S:=fun _=>False) hb) (fun _ _ z=>z)
 ·rw [e]
  refine h.ok.step ?_
  rw [hlen,h.cnt]
  exact h0
theorem RS.group{w5 W W':World}{t:Tr}{c f:Bool}{j gr:Nat}{v v':Value}{x:El}(h:RS w5 t c f j gr v W)(hx:(pp [] t)[j]?=some x)(hj:j < 2000)(h0:bP c f x.1 x.2 j gr=0)(hk:x.2.f.k=7)(hr:W'.ownsRow w5.heap.size 3 1 v' (gr+1) (fU ((fV 0 ((pp [] t).take j)).map Int.ofNat) ++ [.int .i64 (j:Int)]))(hb:Below w5.heap.size w5 W'):RS w5 t c f (j+1) (gr+1) v' W':=by
 have hl:=(List.getElem?_eq_some_iff.1 hx).1
 have hlen:((pp [] t).take j).length=j:=by rw [List.length_take];omega
 have e:(pp [] t).take (j+1)=(pp [] t).take j ++ [x]:=by rw [List.take_add_one,hx];rfl
 refine⟨by omega,?_,?_,hb,?_⟩
 ·rw [e,iF,if_pos hk,h.cnt]
 ·rw [e,qZ,if_pos hk,hlen,List.map_append,uT]
  exact hr
 ·rw [e]
  refine h.ok.step ?_
  rw [hlen,h.cnt]
  exact h0
theorem RS.back{w5 W:World}{t:Tr}{c f:Bool}{j gr:Nat}{v:Value}{x:El}(h:RS w5 t c f j gr v W)(hx:(pp [] t)[j]?=some x)(hj:j < 2000){N:Nat}(hN:N < gr):∃ jj:Nat,(fV 0 ((pp [] t).take j))[N]?=some jj/\∃ y,(pp [] t)[jj]?=some y/\jj < j/\(hP x.1 ((N:Int)+1)=false ↔ min (jj+y.2.sz) 2001<=j):=by
 have hl:=(List.getElem?_eq_some_iff.1 hx).1
 have hlen:((pp [] t).take j).length=j:=by rw [List.length_take];omega
 have hg:N < (fV 0 ((pp [] t).take j)).length:=by rw [lW,h.cnt];exact hN
 obtain⟨jj,hjj⟩:∃ jj,(fV 0 ((pp [] t).take j))[N]?=some jj:=⟨_,List.getElem?_eq_getElem hg⟩
 obtain⟨y,hy,hiff⟩:=aV6 (oI hx) (fun k z hz hk=>aG9 (h.ok k z hz) hk) (by omega) hjj
 rw [hlen] at hiff
 have:=(List.getElem?_eq_some_iff.1 hy).1
 exact⟨jj,hjj,y,rW hy,by omega,hiff⟩
theorem aM1{w:World}{t:Tr}(c f:Bool)(hta:TB w t)(hsm:∀ x∈pp [] t,x.2.f.rs.length<=1048580):Calls Tryz.prog 10 #[.agg #[.int .i64 t.f.k,.int .i64 t.f.n,.int .i64 t.f.mn,.int .i64 t.f.mx,.slice t.f.rq t.f.rs.length t.f.rc,.slice t.f.kq t.f.kl t.f.kc],.agg #[.bool c,.bool f]] w fun e w'=>e=.returned (.int .i64 (aS c f 0 0 (pp [] t)))/\Below w.heap.size w w':=by
 have B1:Hid (Below w.heap.size w ((w.alloc (.cells #[.int .i64 t.f.k,.int .i64 t.f.n,.int .i64 t.f.mn,.int .i64 t.f.mx,.slice t.f.rq t.f.rs.length t.f.rc,.slice t.f.kq t.f.kl t.f.kc] 25)).alloc (.cells #[.bool c,.bool f] 27))):=(bz9).alloc (by simp) _
 have N1:Hid (BoxN ((w.alloc (.cells #[.int .i64 t.f.k,.int .i64 t.f.n,.int .i64 t.f.mn,.int .i64 t.f.mx,.slice t.f.rq t.f.rs.length t.f.rc,.slice t.f.kq t.f.kl t.f.kc] 25)).alloc (.cells #[.bool c,.bool f] 27)) w.heap.size t.f):=(Below.heap_alloc _ _ _ (by simp)).trans (aE w _)
 have M1:Hid (((w.alloc (.cells #[.int .i64 t.f.k,.int .i64 t.f.n,.int .i64 t.f.mn,.int .i64 t.f.mx,.slice t.f.rq t.f.rs.length t.f.rc,.slice t.f.kq t.f.kl t.f.kc] 25)).alloc (.cells #[.bool c,.bool f] 27)).heap[w.heap.size+1]?=some (.cells #[.bool c,.bool f] 27 (0,0))):=(by
  have:=aE (w.alloc (.cells #[.int .i64 t.f.k,.int .i64 t.f.n,.int .i64 t.f.mn,.int .i64 t.f.mx,.slice t.f.rq t.f.rs.length t.f.rc,.slice t.f.kq t.f.kl t.f.kc] 25)) (.cells #[.bool c,.bool f] 27)
  rwa [World.size_alloc] at this)
 have HTA:=aD hta
 have HSM:=aD hsm
 obtain⟨R,hR⟩:∃ R,aS c f 0 0 (pp [] t)=R:=⟨_,rfl⟩
 rw [hR]
 have HR:=aD hR
 clear hta hsm hR
 go_enter Tryz.func10,Tryz.ntmps10
 go_upto_region 1 with fail
 generalize ((w.alloc (.cells #[.int .i64 t.f.k,.int .i64 t.f.n,.int .i64 t.f.mn,.int .i64 t.f.mx,.slice t.f.rq t.f.rs.length t.f.rc,.slice t.f.kq t.f.kl t.f.kc] 25)).alloc (.cells #[.bool c,.bool f] 27))=W1 at B1 N1 M1 ⊢
 generalize w.heap.size+1=bm at M1 ⊢
 obtain⟨c0,c1,c2,c3,c4,c5⟩:=N1.out.six
 simp only [Nat.zero_add] at c1 c2 c3 c4 c5
 have LA:=aD (aH5 (w:=W1) 2001 (by omega) (HTA.out.kept B1.out))
 have HZL:=aD (oY 2001 t)
 have HZM:=aD (oX 2001 t)
 have HTO:=aD (fun (j:Nat) (z:Zl) (h:(nN 2001 t)[j]?=some z)=>aN6 h)
 have hz:=oY 2001 t
 have hzl:(nN 2001 t).length<=2001:=by omega
 clear hz
 generalize nN 2001 t=Z at LA HZL HZM HTO hzl
 go_upto_region 5 with (go_at_call 36;refine(LA.out).mono ?_;rintro e w5 ⟨q5,k5,rfl,h51,h52⟩;have Z5:=aD h51;have B5:=aD h52;clear h51 h52)
 have M5:=aD ((B5.out.block _ (aB M1.out)).trans M1.out)
 have B6:=aD (aK B1.out B5.out lz9)
 clear c0 c1 c2 c3 c4 c5 LA B1 B5 N1 M1
 go_loopw [8,7,6] (fun i v g wr=>∃ (j gr:Nat) (q:Option Addr) (ca:Nat),j<=Z.length/\i=.int .i64 (j:Int)/\v=.slice q gr ca/\g=.int .i64 (gr:Int)/\RS w5 t c f j gr (.slice q gr ca) wr) (fun i _ _ _=>Z.length - (intOf i).toNat)
 case atStart=>exact⟨0,0,none,0,Nat.zero_le _,rfl,rfl,rfl,⟨Nat.zero_le _,rfl,World.ownsRow_nil _ _ _ _,Below.refl _ _,RG.nil c f⟩⟩
 case round=>
  obtain⟨j,gr,q,ca,hj,rfl,rfl,rfl,hs⟩:=hrel
  have HS:=aD hs
  have hgr:gr<=2000:=by
   have h1:=hs.cnt
   have h2:=sM ((pp [] t).take j)
   rw [List.length_take] at h2
   have:=hs.le
   omega
  have hj2:=hs.le
  clear hs
  by_cases hjl:j < Z.length
  case neg=>
   have i0:¬ (j:Int) < (Z.length:Int):=by omega
   have HD:=aD (show R=0 by
    rw [<- HR.out]
    have h1:=HZL.out
    have h2:=HS.out.ok
    rw [List.take_of_length_le (by omega)] at h2
    exact h2.all)
   have BX:=aD (aK B6.out HS.out.bel lz9)
   clear hjl
   go_wp2
   go_ret
   exact⟨congrArg (fun z=>Ending.returned (.int .i64 z)) HD.out.symm,BX.out⟩
  have i0:(j:Int) < (Z.length:Int):=by omega
  obtain⟨⟨x,o⟩,hx⟩:∃ z,Z[j]?=some z:=⟨_,List.getElem?_eq_getElem hjl⟩
  obtain⟨ga,cz,hq⟩:=aJ Z5.out (by omega)
  injection hq with hq1 _ hq2
  subst hq1 hq2
  have YA:ZR W1.heap.size wr (.slice (some ⟨ga,0,none⟩) Z.length k5) Z:=aL Z5.out (Fr.of_below (S:=fun _=>False) HS.out.bel) (fun _ _ z=>z)
  have x0:wr.cell? ⟨ga,j * 12,none⟩=some (.int .i64 x.2.f.k):=YA.cells hx (j:=0) rfl
  have x1:wr.cell? ⟨ga,j * 12+1,none⟩=some (.int .i64 x.2.f.n):=YA.cells hx (j:=1) rfl
  have x2:wr.cell? ⟨ga,j * 12+2,none⟩=some (.int .i64 x.2.f.mn):=YA.cells hx (j:=2) rfl
  have x3:wr.cell? ⟨ga,j * 12+3,none⟩=some (.int .i64 x.2.f.mx):=YA.cells hx (j:=3) rfl
  have x4:wr.cell? ⟨ga,j * 12+4,none⟩=some (.slice x.2.f.rq x.2.f.rs.length x.2.f.rc):=YA.cells hx (j:=4) rfl
  have x5:wr.cell? ⟨ga,j * 12+5,none⟩=some (.slice x.2.f.kq x.2.f.kl x.2.f.kc):=YA.cells hx (j:=5) rfl
  have x6:wr.cell? ⟨ga,j * 12+6,none⟩=some (.int .i64 ((x.1.length:Int)+1)):=YA.cells hx (j:=6) rfl
  have x7:wr.cell? ⟨ga,j * 12+7,none⟩=some (.int .i64 (arP x.1)):=YA.cells hx (j:=7) rfl
  have x8:wr.cell? ⟨ga,j * 12+8,none⟩=some (.bool (fiP x.1)):=YA.cells hx (j:=8) rfl
  have x9:wr.cell? ⟨ga,j * 12+9,none⟩=some (.bool (laP x.1)):=YA.cells hx (j:=9) rfl
  have x10:wr.cell? ⟨ga,j * 12+10,none⟩=some (.bool (brP x.1)):=YA.cells hx (j:=10) rfl
  have x11:wr.cell? ⟨ga,j * 12+11,none⟩=some (.int .i64 (o:Int)):=YA.cells hx (j:=11) rfl
  have hxt:(pp [] t)[j]?=some x:=rW (j:=2001) (by rw [<- HZM.out,List.getElem?_map,hx];rfl)
  have HX:=aD hxt
  have HBR:=aD (aV8 (oI hxt) HS.out.ok)
  have HST:=aD (fun (m:Int) (h:bP c f x.1 x.2 j gr=m) (h0:m≠0)=>HR.out.symm.trans (HS.out.ok.stop hxt (by rw [HS.out.cnt];exact h) h0))
  have BW:=aD (aK B6.out HS.out.bel lz9)
  have HNA:=aD ((HTA.out.at (List.mem_of_getElem? hxt)).node.ck (CK.of_below BW.out))
  have HSL:=aD (HSM.out x (List.mem_of_getElem? hxt))
  have MW:=aD ((HS.out.bel.block _ (aB M5.out)).trans M5.out)
  have hdp:=qO (t:=t) (pre:=(pp [] t).take j) (x:=x) (oI hxt)
  rw [List.length_take] at hdp
  have hdp2:x.1.length<=2001:=by omega
  have lga:ga < wr.heap.size:=(aG YA (g:=ga) rfl).2.1
  have HYA:=aD YA
  clear hx hxt YA hdp
  go_upto_region 8 with fail
  have K2:=aD (show Below wr.heap.size wr (wr.alloc (.cells #[.int .i64 x.2.f.k,.int .i64 x.2.f.n,.int .i64 x.2.f.mn,.int .i64 x.2.f.mx,.slice x.2.f.rq x.2.f.rs.length x.2.f.rc,.slice x.2.f.kq x.2.f.kl x.2.f.kc,.int .i64 ((x.1.length:Int)+1),.int .i64 (arP x.1),.bool (fiP x.1),.bool (laP x.1),.bool (brP x.1),.int .i64 (o:Int)] 65)) from bz9)
  have P2:=aD (aE wr (.cells #[.int .i64 x.2.f.k,.int .i64 x.2.f.n,.int .i64 x.2.f.mn,.int .i64 x.2.f.mx,.slice x.2.f.rq x.2.f.rs.length x.2.f.rc,.slice x.2.f.kq x.2.f.kl x.2.f.kc,.int .i64 ((x.1.length:Int)+1),.int .i64 (arP x.1),.bool (fiP x.1),.bool (laP x.1),.bool (brP x.1),.int .i64 (o:Int)] 65))
  have M2:=aD ((K2.out.block _ (aB MW.out)).trans MW.out)
  have A2:=aD (HNA.out.ck (CK.of_below K2.out))
  clear x0 x1 x2 x3 x4 x5 x6 x7 x8 x9 x10 x11
  generalize (wr.alloc (.cells #[.int .i64 x.2.f.k,.int .i64 x.2.f.n,.int .i64 x.2.f.mn,.int .i64 x.2.f.mx,.slice x.2.f.rq x.2.f.rs.length x.2.f.rc,.slice x.2.f.kq x.2.f.kl x.2.f.kc,.int .i64 ((x.1.length:Int)+1),.int .i64 (arP x.1),.bool (fiP x.1),.bool (laP x.1),.bool (brP x.1),.int .i64 (o:Int)] 65))=W2 at K2 P2 M2 A2 ⊢
  obtain⟨b8,hb8⟩:∃ b8,wr.heap.size=b8:=⟨_,rfl⟩
  have HNB:=aD (show (Value.slice q gr ca).ownBlock≠some wr.heap.size from fun e=>absurd (aG HS.out.row e).2.1 (Nat.lt_irrefl _))
  rw [hb8] at P2 HNB ⊢
  clear hb8
  have B2:=aD (aK BW.out K2.out lz9)
  have p0:W2.cell? ⟨b8,0,none⟩=some (.int .i64 x.2.f.k):=aA P2.out (i:=0) rfl
  have p1:W2.cell? ⟨b8,1,none⟩=some (.int .i64 x.2.f.n):=aA P2.out (i:=1) rfl
  have p2:W2.cell? ⟨b8,2,none⟩=some (.int .i64 x.2.f.mn):=aA P2.out (i:=2) rfl
  have p3:W2.cell? ⟨b8,3,none⟩=some (.int .i64 x.2.f.mx):=aA P2.out (i:=3) rfl
  have p4:W2.cell? ⟨b8,4,none⟩=some (.slice x.2.f.rq x.2.f.rs.length x.2.f.rc):=aA P2.out (i:=4) rfl
  have p5:W2.cell? ⟨b8,5,none⟩=some (.slice x.2.f.kq x.2.f.kl x.2.f.kc):=aA P2.out (i:=5) rfl
  have p6:W2.cell? ⟨b8,6,none⟩=some (.int .i64 ((x.1.length:Int)+1)):=aA P2.out (i:=6) rfl
  have p7:W2.cell? ⟨b8,7,none⟩=some (.int .i64 (arP x.1)):=aA P2.out (i:=7) rfl
  have p8:W2.cell? ⟨b8,8,none⟩=some (.bool (fiP x.1)):=aA P2.out (i:=8) rfl
  have p9:W2.cell? ⟨b8,9,none⟩=some (.bool (laP x.1)):=aA P2.out (i:=9) rfl
  have p10:W2.cell? ⟨b8,10,none⟩=some (.bool (brP x.1)):=aA P2.out (i:=10) rfl
  have p11:W2.cell? ⟨b8,11,none⟩=some (.int .i64 (o:Int)):=aA P2.out (i:=11) rfl
  have m0:W2.cell? ⟨bm,0,none⟩=some (.bool c):=aA M2.out (i:=0) rfl
  have m1:W2.cell? ⟨bm,1,none⟩=some (.bool f):=aA M2.out (i:=1) rfl
  by_cases h2000:j=2000
  ·have e1:(2000:Int)<=(j:Int):=by omega
   have HD:=aD (show R=42 from HST.out 42 (by unfold bP;rw [if_pos h2000]) (by decide))
   clear h2000
   go_wp2
   go_ret
   exact⟨congrArg (fun z=>Ending.returned (.int .i64 z)) HD.out.symm,B2.out⟩
  have e1:¬ (2000:Int)<=(j:Int):=by omega
  have hj3:j < 2000:=by omega
  by_cases h40:40 < x.1.length+1
  ·have e2:(40:Int) < (x.1.length:Int)+1:=by omega
   have HD:=aD (show R=43 from HST.out 43 (by unfold bP;rw [if_neg h2000,if_pos h40]) (by decide))
   clear h2000 h40
   go_wp2
   go_ret
   exact⟨congrArg (fun z=>Ending.returned (.int .i64 z)) HD.out.symm,B2.out⟩
  have e2:¬ (40:Int) < (x.1.length:Int)+1:=by omega
  have FM:=aD (aM5 x.1 x.2 o c f A2.out HSL.out)
  have HL:=aD (show bP c f x.1 x.2 j gr=_ by rw [aH0 HBR.out,if_neg h2000,if_neg h40])
  clear h2000 h40
  go_upto_region 13 with (go_at_call 37;(with_reducible refine(FM.out).mono ?_);rintro e W3 ⟨b3,rfl,hb3,h3⟩;have I3:=aD hb3;have B3:=aD h3;clear hb3 h3)
  have K3:=aD (aK K2.out B3.out lz9)
  have BZ:=aD (aK B2.out B3.out lz9)
  have P3:=aD ((B3.out.block _ (aB P2.out)).trans P2.out)
  clear m0 m1 p0 p1 p2 p3 p4 p5 p6 p7 p8 p9 p10 p11 FM e2
  have p0:W3.cell? ⟨b8,0,none⟩=some (.int .i64 x.2.f.k):=aA P3.out (i:=0) rfl
  have p1:W3.cell? ⟨b8,1,none⟩=some (.int .i64 x.2.f.n):=aA P3.out (i:=1) rfl
  cases b3 with
  | false=>
   have HD:=aD (show R=50 from HST.out 50 (by rw [HL.out,if_pos (fun z=>by cases I3.out.2 z.1)]) (by decide))
   go_wp2
   go_ret
   exact⟨congrArg (fun z=>Ending.returned (.int .i64 z)) HD.out.symm,BZ.out⟩
  | true=>
   have HF:=aD (I3.out.1 rfl)
   by_cases h7:x.2.f.k=7
   ·have e7:(x.2.f.k==7)=true:=beq_iff_eq.2 h7
    have e8:(x.2.f.k==8)=false:=beq_eq_false_iff_ne.2 (by omega)
    have H7:=aD h7
    clear h7
    by_cases hn:x.2.f.n=(gr:Int)+1
    case neg=>
     have en:(x.2.f.n != (gr:Int)+1)=true:=bne_iff_ne.2 hn
     have HD:=aD (show R=50 from HST.out 50 (by rw [HL.out,if_pos (fun z=>hn (z.2 H7.out))]) (by decide))
     clear hn
     go_wp2
     go_ret
     exact⟨congrArg (fun z=>Ending.returned (.int .i64 z)) HD.out.symm,BZ.out⟩
    have en:(x.2.f.n != (gr:Int)+1)=false:=by simpa using hn
    have HN:=aD hn
    clear hn
    have R3:=aD (aL HS.out.row (Fr.of_below (S:=fun _=>False) K3.out) (fun _ _ z=>z))
    have S3:=aD (show w5.heap.size<=W3.heap.size from Nat.le_trans HS.out.bel.size K3.out.size)
    obtain⟨t0,hi,hz0,hz1,hz2⟩:=bC tW
    generalize hgp:fU ((fV 0 ((pp [] t).take j)).map Int.ofNat)=GP at R3
    have HGP:=aD hgp
    clear hgp
    go_upto_region 18 with (at_builtin;refine wpList_append_own_at _ rfl _ _ 44 rfl w5.heap.size 3 t0 (.int .i64 0) 1 8 tS hi hz0 hz1 hz2 rfl (by decide) (.slice q gr ca) gr GP rfl (World.ownsRow.alloc R3.out (.cells #[.int .i64 (j:Int)] 3)) ⟨W3.heap.size,0,none⟩ 1 1 [.int .i64 (j:Int)] rfl rfl (aV0 _ _ _) (by simp [Value.oneCell']) (by unfold maxLen;omega) (by omega) (by have:=S3.out;simp;omega) ?_;intro v' w6 hown' hgrow _ hblk;obtain⟨g6,cap6,rfl⟩:=aJ hown' (Nat.succ_pos _);have O6:=aD hown';have G6:=aD hgrow;clear hown' hgrow hblk)
    have L6:=aD (show Below w5.heap.size w5 w6 from bB (aK HS.out.bel K3.out lz9) (((Fr.refl (fun z=>(Value.slice q gr ca).ownBlock=some z) W3).alloc (.cells #[.int .i64 (j:Int)] 3)).grown G6.out (fun z hz=>hz)) lz9 (fun z hz=>(aG R3.out hz).1))
    have P6:=aD (show w6.heap[b8]?=some (.cells #[.int .i64 x.2.f.k,.int .i64 x.2.f.n,.int .i64 x.2.f.mn,.int .i64 x.2.f.mx,.slice x.2.f.rq x.2.f.rs.length x.2.f.rc,.slice x.2.f.kq x.2.f.kl x.2.f.kc,.int .i64 ((x.1.length:Int)+1),.int .i64 (arP x.1),.bool (fiP x.1),.bool (laP x.1),.bool (brP x.1),.int .i64 (o:Int)] 65 (0,0)) from (G6.out.block _ (by simp;have:=aB P3.out;omega) (fun e=>HNB.out e.symm)).trans ((Below.heap_alloc _ _ _ (aB P3.out)).trans P3.out))
    have p0':w6.cell? ⟨b8,0,none⟩=some (.int .i64 x.2.f.k):=aA P6.out (i:=0) rfl
    clear p0 p1
    by_cases h30:30 < gr+1
    ·have e3:(30:Int) < (gr:Int)+1:=by omega
     have HD:=aD (show R=42 from HST.out 42 (by rw [HL.out,if_neg (fun z=>z ⟨HF.out,fun _=>HN.out⟩),if_pos ⟨H7.out,by rw [HN.out];exact e3⟩]) (by decide))
     have BX:=aD (aK B6.out L6.out lz9)
     clear h30
     go_wp2
     go_ret
     exact⟨congrArg (fun z=>Ending.returned (.int .i64 z)) HD.out.symm,BX.out⟩
    have e3:¬ (30:Int) < (gr:Int)+1:=by omega
    have HD:=aD (show bP c f x.1 x.2 j gr=0 by rw [HL.out,if_neg (fun z=>z ⟨HF.out,fun _=>HN.out⟩),if_neg (fun z=>e3 (by have:=z.2;rw [HN.out] at this;exact this)),if_neg (fun z=>by have:=z.1;rw [H7.out] at this;cases this)])
    clear h30
    go_wp2
    go_roundw
    case rel=>exact⟨j+1,gr+1,_,_,by omega,by go_num,rfl,by go_num,HS.out.group HX.out hj3 HD.out H7.out (by rw [HGP.out];exact O6.out) L6.out⟩
    case measure=>simp only [intOf];omega
   have e7:(x.2.f.k==7)=false:=beq_eq_false_iff_ne.2 h7
   by_cases h8:x.2.f.k=8
   case neg=>
    have e8:(x.2.f.k==8)=false:=beq_eq_false_iff_ne.2 h8
    have HD:=aD (show bP c f x.1 x.2 j gr=0 by rw [HL.out,if_neg (fun z=>z ⟨HF.out,fun q=>absurd q h7⟩),if_neg (fun z=>h7 z.1),if_neg (fun z=>h8 z.1)])
    have H7:=aD h7
    clear h7 h8
    go_wp2
    go_roundw
    case rel=>exact⟨j+1,gr,_,_,by omega,by go_num,rfl,rfl,HS.out.next HX.out hj3 HD.out H7.out K3.out⟩
    case measure=>simp only [intOf];omega
   have e8:(x.2.f.k==8)=true:=beq_iff_eq.2 h8
   have HL8:=aD (show bP c f x.1 x.2 j gr=_ by rw [HL.out,if_neg (fun z=>z ⟨HF.out,fun q=>absurd q h7⟩),if_neg (fun z=>h7 z.1)])
   have hn1:1<=x.2.f.n:=by
    have:=HF.out.2
    unfold dV at this
    rw [if_neg (by omega),if_neg (by omega),if_neg (by omega),if_neg (by omega),if_pos h8] at this
    exact this.1.1
   have H7:=aD h7
   have H8:=aD h8
   clear h7 h8 HL
   by_cases hg:x.2.f.n<=(gr:Int)
   case neg=>
    have eg:(gr:Int) < x.2.f.n:=by omega
    have HD:=aD (show R=41 from HST.out 41 (by rw [HL8.out,if_pos ⟨H8.out,fun z=>hg z.2⟩]) (by decide))
    clear hg hn1
    go_wp2
    go_ret
    exact⟨congrArg (fun z=>Ending.returned (.int .i64 z)) HD.out.symm,BZ.out⟩
   have eg:¬ (gr:Int) < x.2.f.n:=by omega
   obtain⟨N,hN⟩:∃ N:Nat,x.2.f.n=(N:Int)+1:=⟨(x.2.f.n - 1).toNat,by omega⟩
   have HN:=aD hN
   have hNg:N < gr:=by omega
   have p1':W3.cell? ⟨b8,1,none⟩=some (.int .i64 ((N:Int)+1)):=by rw [<- hN];exact p1
   have eg':¬ (gr:Int) < (N:Int)+1:=by omega
   have hnn:x.2.f.n<=(gr:Int):=hg
   have HNN:=aD hnn
   clear p1 eg hg hn1 hN hnn
   obtain⟨jj,hjj,y,hy,hjj2,hiff⟩:=HS.out.back HX.out hj3 hNg
   have R3:=aL HS.out.row (Fr.of_below (S:=fun _=>False) K3.out) (fun _ _ z=>z)
   obtain⟨gb,cb,hqb⟩:=aJ R3 (by omega)
   injection hqb with hqb1 _ hqb2
   subst hqb1 hqb2
   have a0:W3.cell? ⟨gb,N,none⟩=some (.int .i64 (jj:Int)):=by
    have:=aP R3 (j:=N) (u:=.int .i64 (jj:Int)) (aH7 (by rw [List.getElem?_map,hjj];rfl))
    exact this
   obtain⟨zz,hzz⟩:∃ zz,Z[jj]?=some zz:=⟨_,List.getElem?_eq_getElem (by omega)⟩
   have hyz:zz.1=y:=by
    have h1:(pp [] t)[jj]?=some zz.1:=rW (j:=2001) (by rw [<- HZM.out,List.getElem?_map,hzz];rfl)
    rw [hy] at h1
    exact(Option.some.inj h1).symm
   have hto:=HTO.out jj zz hzz
   rw [hyz] at hto
   rw [<- hto] at hiff
   have Y3:ZR W1.heap.size W3 (.slice (some ⟨ga,0,none⟩) Z.length k5) Z:=aL HYA.out (Fr.of_below (S:=fun _=>False) K3.out) (fun _ _ z=>z)
   have a1:W3.cell? ⟨ga,jj * 12+11,none⟩=some (.int .i64 (zz.2:Int)):=Y3.cells hzz (j:=11) rfl
   generalize zz.2=tt at a1 hto hiff
   have lgb:gb < W3.heap.size:=(aG R3 (g:=gb) rfl).2.1
   have HIF:=aD hiff
   have hjz:jj < Z.length:=by omega
   clear R3 Y3 hjj hy hzz hyz hto hiff
   by_cases hto:tt<=j
   ·have et:¬ (j:Int) < (tt:Int):=by omega
    have HD:=aD (show bP c f x.1 x.2 j gr=0 by rw [HL8.out,if_neg (fun z=>z.2 ⟨by rw [HN.out];exact HIF.out.2 hto,HNN.out⟩)])
    clear hto
    go_wp2
    go_roundw
    case rel=>exact⟨j+1,gr,_,_,by omega,by go_num,rfl,rfl,HS.out.next HX.out hj3 HD.out H7.out K3.out⟩
    case measure=>simp only [intOf];omega
   ·have et:(j:Int) < (tt:Int):=by omega
    have HD:=aD (show R=41 from HST.out 41 (by rw [HL8.out,if_pos ⟨H8.out,fun z=>hto (HIF.out.1 (by rw [<- HN.out];exact z.1))⟩]) (by decide))
    clear hto
    go_wp2
    go_ret
    exact⟨congrArg (fun z=>Ending.returned (.int .i64 z)) HD.out.symm,BZ.out⟩
end
section
open Go Go.RowKit Go.Shelf Go.Lib
theorem aJ5(d:Array Int)(hs:∀ j,j+1 < d.size->d[j]! <= d[j+1]!):∀ m,m<=d.size->(∀ x,x∈compactUpTo d m ↔ ∃ j,j < m/\d[j]! = x)/\(compactUpTo d m).Pairwise (· < ·)/\(∀ x∈compactUpTo d m,x<=d[m-1]!)
 | 0,_=>by simp [compactUpTo]
 | m+1,hm=>by
  obtain⟨h1,h2,h3⟩:=aJ5 d hs m (by omega)
  rw [compactUpTo_succ]
  by_cases hk:keeps d m=true
  ·rw [if_pos hk]
   have hlt:∀ x∈compactUpTo d m,x < d[m]!:=by
    intro x hx
    cases m with
    | zero=>simp [compactUpTo] at hx
    | succ m=>
     have a:=h3 x hx
     have b:=hs m (by omega)
     have c:d[m+1]! ≠ d[m]!:=by
      unfold keeps at hk
      have:=of_decide_eq_true hk
      rcases this with e | e
      ·omega
      ·exact e
     simp only [Nat.add_sub_cancel] at a
     omega
   refine⟨fun x=>?_,?_,fun x hx=>?_⟩
   ·rw [List.mem_append,h1]
    constructor
    ·rintro (⟨j,a,b⟩ | hx)
     ·exact⟨j,by omega,b⟩
     ·exact⟨m,by omega,(List.mem_singleton.1 hx).symm⟩
    ·rintro ⟨j,a,b⟩
     by_cases e:j=m
     ·subst e;exact .inr (List.mem_singleton.2 b.symm)
     ·exact .inl ⟨j,by omega,b⟩
   ·rw [List.pairwise_append]
    exact⟨h2,List.pairwise_singleton _ _,fun x hx y hy=>by rw [List.mem_singleton.1 hy];exact hlt x hx⟩
   ·rw [Nat.add_sub_cancel]
    rcases List.mem_append.1 hx with e | e
    ·exact Int.le_of_lt (hlt x e)
    ·rw [List.mem_singleton.1 e];exact Int.le_refl _
  ·rw [if_neg hk,List.append_nil]
   have hm0:m≠0:=fun e=>hk (by subst e;simp [keeps])
   have he:d[m]! = d[m - 1]!:=by
    apply Classical.byContradiction
    intro e
    exact hk (by simp [keeps,e])
   refine⟨fun x=>?_,h2,fun x hx=>?_⟩
   ·rw [h1]
    constructor
    ·rintro ⟨j,a,b⟩;exact⟨j,by omega,b⟩
    ·rintro ⟨j,a,b⟩
     by_cases e:j=m
     ·subst e;exact⟨j - 1,by omega,by rw [<- he];exact b⟩
     ·exact⟨j,by omega,b⟩
   ·rw [Nat.add_sub_cancel,he];exact h3 x hx
theorem aG8:∀ (a b:List Int),a.Pairwise (· < ·)->b.Pairwise (· < ·)->(∀ x,x∈a ↔ x∈b)->a=b
 | [],[],_,_,_=>rfl
 | [],y :: b,_,_,h=>absurd ((h y).2 (by simp)) (by simp)
 | x :: a,[],_,_,h=>absurd ((h x).1 (by simp)) (by simp)
 | x :: a,y :: b,ha,hb,h=>by
  rw [List.pairwise_cons] at ha hb
  have e:x=y:=by
   have p:=(h x).1 (by simp)
   have q:=(h y).2 (by simp)
   rcases List.mem_cons.1 p with e | e
   ·exact e
   ·rcases List.mem_cons.1 q with f | f
    ·exact f.symm
    ·have:=hb.1 x e;have:=ha.1 y f;omega
  subst e
  rw [aG8 a b ha.2 hb.2 fun z=>?_]
  constructor
  ·intro hz
   have:=(h z).1 (List.mem_cons_of_mem _ hz)
   rcases List.mem_cons.1 this with e | e
   ·have:=ha.1 z hz;omega
   ·exact e
  ·intro hz
   have:=(h z).2 (List.mem_cons_of_mem _ hz)
   rcases List.mem_cons.1 this with e | e
   ·have:=hb.1 z hz;omega
   ·exact e
theorem vC(zs:List Int):(∀ x,x∈compact (zs.mergeSort fun x y=>decide (x<=y)) ↔ x∈zs)/\(compact (zs.mergeSort fun x y=>decide (x<=y))).Pairwise (· < ·):=by
 have hp:(zs.mergeSort fun x y=>decide (x<=y)).Pairwise (fun a b=>decide (a<=b)=true):=List.pairwise_mergeSort (le:=fun x y=>decide (x<=y)) (fun a b c=>by simp;omega) (fun a b=>by simp;omega) zs
 obtain⟨h1,h2,-⟩:=aJ5 (zs.mergeSort fun x y=>decide (x<=y)).toArray (fun j hj=>by
  have hj':j+1 < (zs.mergeSort fun x y=>decide (x<=y)).length:=by simpa using hj
  have:=List.pairwise_iff_getElem.1 hp j (j+1) (by omega) hj' (by omega)
  have:=of_decide_eq_true this
  rw [getElem!_pos _ j (by simp at hj ⊢;omega),getElem!_pos _ (j+1) (by simpa using hj)]
  simpa using this) _ lz9
 refine⟨fun x=>?_,?_⟩
 ·unfold compact
  rw [show (zs.mergeSort fun x y=>decide (x<=y)).length=(zs.mergeSort fun x y=>decide (x<=y)).toArray.size by simp,h1]
  rw [<- List.mem_mergeSort (le:=fun x y=>decide (x<=y)) (l:=zs)]
  constructor
  ·rintro ⟨j,a,b⟩
   rw [<- b,getElem!_pos (zs.mergeSort fun x y=>decide (x<=y)).toArray j a]
   simp
  ·intro hx
   obtain⟨j,hj,e⟩:=List.getElem_of_mem hx
   exact⟨j,by simpa using hj,by rw [getElem!_pos _ _ (by simpa using hj)];simpa using e⟩
 ·unfold compact
  rw [show (zs.mergeSort fun x y=>decide (x<=y)).length=(zs.mergeSort fun x y=>decide (x<=y)).toArray.size by simp]
  exact h2
def usN(L:List El)(k:Nat):List Int:=((List.range k).map fun i:Nat=>((i:Int)+1)).filter fun i=>decide (i∈bks L)
theorem aD5(L:List El)(k:Nat):usN L (k+1)=usN L k ++ (if ((k:Int)+1)∈bks L then [(k:Int)+1] else []):=by
 unfold usN
 rw [List.range_succ,List.map_append,List.filter_append]
 congr 1
 by_cases h:((k:Int)+1)∈bks L <;> simp [h]
theorem aD6(L:List El):∀ k,(usN L k).Pairwise (· < ·)/\(∀ x,x∈usN L k ↔ x∈bks L/\1<=x/\x<=k)
 | 0=>by
  refine⟨by simp [usN],fun x=>?_⟩
  simp [usN]
  omega
 | k+1=>by
  obtain⟨h1,h2⟩:=aD6 L k
  rw [aD5]
  by_cases h:((k:Int)+1)∈bks L
  ·rw [if_pos h,List.pairwise_append]
   refine⟨⟨h1,List.pairwise_singleton _ _,fun x hx y hy=>?_⟩,fun x=>?_⟩
   ·rw [List.mem_singleton.1 hy]
    have:=((h2 x).1 hx).2.2
    omega
   ·rw [List.mem_append,h2,List.mem_singleton]
    constructor
    ·rintro (⟨a,b,c⟩ | e)
     ·exact⟨a,b,by omega⟩
     ·subst e;exact⟨h,by omega,by omega⟩
    ·rintro ⟨a,b,c⟩
     by_cases e:x=(k:Int)+1
     ·exact .inr e
     ·exact .inl ⟨a,b,by omega⟩
  ·rw [if_neg h,List.append_nil]
   refine⟨h1,fun x=>?_⟩
   rw [h2]
   constructor
   ·rintro ⟨a,b,c⟩;exact⟨a,b,by omega⟩
   ·rintro ⟨a,b,c⟩
    refine⟨a,b,?_⟩
    have:x≠(k:Int)+1:=fun e=>h (e ▸ a)
    omega
theorem yF{L:List El}{x:Int}:x∈bks L ↔ ∃ z∈L,z.2.f.k=8/\z.2.f.n=x:=by
 unfold bks
 rw [List.mem_flatMap]
 constructor
 ·rintro ⟨z,hz,h⟩
  by_cases hk:z.2.f.k=8
  ·rw [if_pos hk] at h
   exact⟨z,hz,hk,(List.mem_singleton.1 h).symm⟩
  ·rw [if_neg hk] at h;cases h
 ·rintro ⟨z,hz,hk,e⟩
  exact⟨z,hz,by rw [if_pos hk,e];simp⟩
theorem aR0{c o:Bool}{t:Tr}(h:aS c o 0 0 (pp [] t)=0):usd t=usN (pp [] t) 9:=by
 obtain⟨a1,a2⟩:=vC (bks (pp [] t))
 obtain⟨b1,b2⟩:=aD6 (pp [] t) 9
 refine aG8 _ _ a2 b1 fun x=>?_
 show x∈compact ((bks (pp [] t)).mergeSort fun x y=>decide (x<=y)) ↔ _
 rw [a1,b2]
 constructor
 ·intro hx
  refine⟨hx,?_⟩
  obtain⟨z,hz,hk,e⟩:=yF.1 hx
  have:=(((aX z.2).1 (mC t [] (fK h) z hz)).1).1
  unfold dV at this
  rw [hk] at this
  simp at this
  subst e
  exact⟨this.1.1,this.1.2⟩
 ·exact fun h=>h.1
end
section
attribute [local go_sem] Oper.semAt_some aZ
def Sm(t:Tr):Prop:=∀ x∈pp [] t,x.2.f.rs.length<=1048580
end
section
attribute [local go_sem] Oper.semAt_some aZ
def sG(c:Bool)(t:Tr):Int:=evG (dY c) (fun _=>0) t
theorem aF3(c:Bool)(t:Tr):sG c t=min (cU c t.f (t.ks.map (sG c))) 10001:=by
 have:=sS (ρ:=dY c) (fun _=>0) t
 rw [pD] at this
 exact this
theorem xO(c o:Bool):∀ (m:Nat) (t:Tr),t.sz<=m->t.sz<=2000->bQ (NP c o) t->gN (sG c t)
 | 0,t,h,_,_=>absurd h (by have:=fN t;omega)
 | m+1,t,h,h2,hev=>by
  have hx:∀ x∈t.ks.map (sG c),gN x:=fun x hx=>by
   obtain⟨u,hu,rfl⟩:=List.mem_map.1 hx
   exact xO c o m u (by have:=dW hu;omega) (by have:=dW hu;omega) (bD hev hu)
  have:=qP t (t.ks.map (sG c)) (fun _=>0) ((aX t).1 hev).1 (by simp) hx (fun _=>⟨by omega,by omega⟩)
  rw [aF3]
  exact this
theorem lE{l:List Tr}{p:Tr->Int}{j:Nat}{x:Tr}(hx:l[j]?=some x):((l.take (j+1)).map p).sum=((l.take j).map p).sum+p x:=by
 rw [List.take_add_one,hx,Option.toList_some,List.map_append,List.sum_append]
 simp
theorem aQ1(c:Bool):∀ (m:Nat) (t:Tr),t.sz<=m->∀ g,(ev (dY c) g t).1=sG c t
 | 0,t,h=>absurd h (by have:=fN t;omega)
 | m+1,t,h=>fun g=>by
  have hs:∀ (ks:List Tr),(∀ u∈ks,∀ g,(ev (dY c) g u).1=sG c u)->∀ g,(evs (dY c) g ks).1=ks.map (sG c):=fun ks=>by
   induction ks with
   | nil=>intro _ g;rw [cP];rfl
   | cons u ks ih=>
    intro h g
    rw [fM,List.map_cons,h u (by simp) g]
    simp only
    rw [ih (fun v hv=>h v (by simp [hv]))]
  rw [jP,aF3,hs t.ks (fun u hu=>aQ1 c m u (by have:=dW hu;omega))]
  rfl
theorem aE1(c o:Bool)(t:Tr):tvI (dY c) c o t=if aS c o 0 0 (pp [] t)=0 then sG c t else 0:=by
 unfold tvI
 rw [aQ1 c t.sz t lz9]
def Bx2(w V:World)(f:Fl)(c o:Bool):Prop:=Below w.heap.size w V/\BoxN V w.heap.size f/\V.heap[w.heap.size+1]?=some (.cells #[.bool c,.bool o] 27 (0,0))
theorem Bx2.kept{w V V':World}{f:Fl}{c o:Bool}(h:Bx2 w V f c o)(hb:Below V.heap.size V V'):Bx2 w V' f c o:=⟨aK h.1 hb lz9,(hb.block _ (aB h.2.1)).trans h.2.1,(hb.block _ (aB h.2.2)).trans h.2.2⟩
end
section
attribute [local go_sem] Oper.semAt_some aZ
def ceQ(xs:List (Int × Int)):List Value:=xs.flatMap fun x=>[.int .i64 x.1,.int .i64 x.2]
def KW(V:World)(b:Nat)(f:Fl)(c o:Bool)(G:Int->Int × Int):Prop:=
 ∃ cs:List Value,V.heap[b]?=some (.cells cs.toArray 106 (0,0))/\cs.length=287/\(∀ (i:Nat) (v:Value),(f.cells ++ [.bool c,.bool o])[i]?=some v->cs[i]?=some v) /\
  ∀ i:Nat,i < 31->∃ h:Bool,cs[8+i]?=some (.bool h)/\(h=true->cs[39+i * 2]?=some (.int .i64 (G (i:Int)).1)/\cs[39+i * 2+1]?=some (.int .i64 (G (i:Int)).2))
variable {f:Fl} {c o:Bool} {G:Int->Int × Int}
structure KS(B b:Nat)(t:Tr)(c o:Bool)(G:Int->Int × Int)(V:World):Prop where
 tb:TB V t
 ft:aW3 (fun k=>k < B) t
 lt:B<=b
 kw:KW V b t.f c o G
variable {B b:Nat} {t:Tr}
structure WI(w:World)(B b:Nat)(t:Tr)(c o:Bool)(G:Int->Int × Int)(f:Fl)(xs:List (Int × Int))(q:Option Addr)(cc:Nat)(V:World):Prop where
 ks:KS B b t c o G V
 fr:Fr (fun k=>k=b) w V
 bw:b < w.heap.size
 nb:BoxN V w.heap.size f
 rz:V.heap[w.heap.size+1]?=some (.cells #[.int .i64 0,.int .i64 0] 102 (0,0))
 row:V.ownsRow w.heap.size 102 2 (.slice q xs.length cc) xs.length (ceQ xs)
 old:∀ k,(Value.slice q xs.length cc).ownBlock=some k->w.heap.size+1 < k
variable {w V V':World} {xs:List (Int × Int)} {q:Option Addr} {cc:Nat}
structure W2(w:World)(B b:Nat)(t:Tr)(c o:Bool)(G:Int->Int × Int)(f:Fl)(xs:List (Int × Int))(q:Option Addr)(cc:Nat)(bw:Nat)(y:Int × Int)(V:World):Prop where
 wi:WI w B b t c o G f xs q cc V
 y:V.heap[bw]?=some (.cells #[.int .i64 y.1,.int .i64 y.2] 102 (0,0))
 lt:w.heap.size+1 < bw
 ne:(Value.slice q xs.length cc).ownBlock≠some bw
end
section
attribute [local go_sem] Oper.semAt_some aZ
variable {c o:Bool} {G:Int->Int × Int} {B b:Nat} {t:Tr}
theorem aI6{T:Type}{ρ:cQ T}{NP:Tr->Prop}{Good:T->Prop}(hg:∀ t xs g,NP t->xs.length=t.ks.length->(∀ x∈xs,Good x)->(∀ i,Good (g i))->Good (ρ t.f t.ks xs g)){G:Int->T}(hG:∀ i,Good (G i))(t:Tr):bQ NP t->Good (evG ρ G t):=by
 refine Tr.ind (P:=fun t=>bQ NP t->Good (evG ρ G t)) (fun t ih he=>?_) t
 rw [sS,pD]
 refine hg t _ G ((aX t).1 he).1 (by simp) (fun x hx=>?_) hG
 obtain⟨u,hu,rfl⟩:=List.mem_map.1 hx
 exact ih u hu (bD he hu)
theorem aH9{α:Type}{xs:List α}{x d:α}(h:xs[0]?=some x):xs.headD d=x:=by
 cases xs with
 | nil=>cases h
 | cons a l=>simpa using h
end
section
open Go Go.RowKit Go.Shelf
attribute [local go_sem] Oper.semAt_some aZ
theorem zP{w:World}{t:Tr}(hta:TB w t):Calls Tryz.prog 25 #[.agg #[.int .i64 t.f.k,.int .i64 t.f.n,.int .i64 t.f.mn,.int .i64 t.f.mx,.slice t.f.rq t.f.rs.length t.f.rc,.slice t.f.kq t.f.kl t.f.kc]] w fun e w'=>e=.returned (.int .i64 ((if 2000 < (pp [] t).length then 0 else bG (pp [] t):Nat):Int))/\Below w.heap.size w w':=by
 have B1:Hid (Below w.heap.size w (w.alloc (.cells #[.int .i64 t.f.k,.int .i64 t.f.n,.int .i64 t.f.mn,.int .i64 t.f.mx,.slice t.f.rq t.f.rs.length t.f.rc,.slice t.f.kq t.f.kl t.f.kc] 25))):=bz9
 have N1:BoxN (w.alloc (.cells #[.int .i64 t.f.k,.int .i64 t.f.n,.int .i64 t.f.mn,.int .i64 t.f.mx,.slice t.f.rq t.f.rs.length t.f.rc,.slice t.f.kq t.f.kl t.f.kc] 25)) w.heap.size t.f:=aE w _
 obtain⟨c0,c1,c2,c3,c4,c5⟩:=N1.six
 simp only [Nat.zero_add] at c1 c2 c3 c4 c5
 have LD:=aD (aH5 (w:=w.alloc (.cells #[.int .i64 t.f.k,.int .i64 t.f.n,.int .i64 t.f.mn,.int .i64 t.f.mx,.slice t.f.rq t.f.rs.length t.f.rc,.slice t.f.kq t.f.kl t.f.kc] 25)) 2001 (by omega) (hta.kept B1.out))
 have hl:=oY 2001 t
 have HMP:=aD (oX 2001 t)
 have HL:=aD hl
 have hle:(nN 2001 t).length<=2001:=by omega
 generalize nN 2001 t=Z at LD HMP HL hle
 obtain⟨R,hR⟩:∃ R,(if 2000 < (pp [] t).length then 0 else bG (pp [] t))=R:=⟨_,rfl⟩
 rw [hR]
 have HR:=aD hR
 clear hR
 clear N1 hta hl
 go_enter Tryz.func25,Tryz.ntmps25
 go_upto_region 4 with (go_at_call 36;refine(LD.out).mono ?_;rintro e w5 ⟨q5,k5,rfl,h51,h52⟩;have Z5:=aD h51;have B5:=aD h52;clear h51 h52)
 have B6:=aD (aK B1.out B5.out lz9)
 clear c0 c1 c2 c3 c4 c5 B1 B5 LD
 by_cases hbig:Z.length<=2000
 ·have b0:(Z.length:Int)<=2000:=by omega
  have hn:¬ 2000 < (pp [] t).length:=by have:=HL.out;omega
  have he:Z.map (·.1)=pp [] t:=by rw [HMP.out,List.take_of_length_le (by omega)]
  have HE:=aD he
  have HN:=aD hn
  clear he hn
  go_loopw [5,4] (fun i d wr=>∃ j:Nat,j<=Z.length/\i=.int .i64 (j:Int)/\d=.int .i64 (bG ((pp [] t).take j):Int)/\wr=w5) (fun i _ _=>Z.length - (intOf i).toNat)
  case atStart=>exact⟨0,Nat.zero_le _,rfl,rfl,rfl⟩
  case round=>
   obtain⟨j,hj,rfl,rfl,rfl⟩:=hrel
   by_cases hjl:j < Z.length
   ·have i0:(j:Int) < (Z.length:Int):=by omega
    obtain⟨z,hz⟩:∃ z,Z[j]?=some z:=⟨_,List.getElem?_eq_getElem hjl⟩
    obtain⟨g,cc,hq⟩:=aJ Z5.out (by omega)
    injection hq with hq1 _ hq2
    subst hq1 hq2
    have y6:=Z5.out.cells hz (j:=0) (v:=.int .i64 z.1.2.f.k) rfl
    rw [Nat.add_zero] at y6
    have hx:(pp [] t)[j]?=some z.1:=by rw [<- HE.out,List.getElem?_map,hz];rfl
    have hgl:bG ((pp [] t).take j)<=2000:=by have:=sM ((pp [] t).take j);rw [List.length_take] at this;omega
    by_cases hk:z.1.2.f.k=7
    ·have HD:=aD (show (bG ((pp [] t).take (j+1)):Int)=(bG ((pp [] t).take j):Int)+1 by rw [qY _ _ _ hx,if_pos hk];rfl)
     have e1:(z.1.2.f.k==7)=true:=by simpa using hk
     clear hz hx hk
     go_wp2
     go_roundw
     case rel=>exact⟨j+1,by omega,by go_num,by rw [HD.out],by trivial⟩
     case measure=>simp only [intOf];omega
    ·have HD:=aD (show (bG ((pp [] t).take (j+1)):Int)=(bG ((pp [] t).take j):Int) by rw [qY _ _ _ hx,if_neg hk];rfl)
     have e1:(z.1.2.f.k==7)=false:=by simpa using hk
     clear hz hx hk
     go_wp2
     go_roundw
     case rel=>exact⟨j+1,by omega,by go_num,by rw [HD.out],by trivial⟩
     case measure=>simp only [intOf];omega
   ·have i0:¬ (j:Int) < (Z.length:Int):=by omega
    have HD:=aD (show (if 2000 < (pp [] t).length then 0 else bG (pp [] t))=bG ((pp [] t).take j) by
     have h1:=congrArg List.length HE.out
     rw [List.length_map] at h1
     rw [if_neg HN.out,List.take_of_length_le (by omega)])
    go_wp2
    go_ret
    have hRR:=HR.out.symm.trans HD.out
    subst hRR
    exact⟨rfl,B6.out⟩
 ·have b0:¬ (Z.length:Int)<=2000:=by omega
  have HD:=aD (show (if 2000 < (pp [] t).length then 0 else bG (pp [] t))=0 by rw [if_pos (by have:=HL.out;omega)])
  go_loopw [5,4] (fun i d wr=>i=.int .i64 0/\d=.int .i64 0/\wr=w5) (fun _ _ _=>0)
  case atStart=>exact⟨rfl,rfl,rfl⟩
  case round=>
   obtain⟨rfl,rfl,rfl⟩:=hrel
   have i0:(0:Int) < (Z.length:Int):=by omega
   go_wp2
   go_ret
   have hRR:=HR.out.symm.trans HD.out
   subst hRR
   exact⟨rfl,B6.out⟩
theorem yO{T:Type}{ρ:cQ T}(hρ:aQ5 ρ)(G:Int->T)(t:Tr):∀ g,bQ (fun u=>u.f.k≠8) t->(ev ρ g t).1=evG ρ G t:=by
 refine Tr.ind (P:=fun t=>∀ g,bQ (fun u=>u.f.k≠8) t->(ev ρ g t).1=evG ρ G t) (fun t ih g he=>?_) t
 have key:∀ (ks:List Tr) (g:Int->T),(∀ u∈ks,u∈t.ks)->(evs ρ g ks).1=sR ρ G ks:=by
  intro ks
  induction ks with
  | nil=>intro g _;rw [cP,sR]
  | cons u ks ihk=>
   intro g hm
   rw [fM,sR,ih u (hm u List.mem_cons_self) g (bD he (hm u List.mem_cons_self)),ihk _ (fun z hz=>hm z (List.mem_cons_of_mem _ hz))]
 rw [jP,sS,key t.ks g (fun _ h=>h)]
 exact hρ _ _ _ _ _ (fun h=>absurd h ((aX t).1 he).1)
theorem rA{c o:Bool}{t:Tr}(h:aS c o 0 0 (pp [] t)=0)(hg:bG (pp [] t)=0):∀ z∈pp [] t,z.2.f.k≠8:=fun z hz hk=>by
 obtain⟨pre,post,e⟩:=List.append_of_mem hz
 have:=(zO h pre z post e).2 hk
 have h2:bG pre<=bG (pp [] t):=by rw [e,eF];omega
 simp at this
 omega
theorem yL{c o:Bool}{t:Tr}(h:aS c o 0 0 (pp [] t)=0)(hg:bG (pp [] t)=0):usd t=[]:=by
 have hb:bks (pp [] t)=[]:=List.eq_nil_iff_forall_not_mem.2 fun x hx=>by
  obtain⟨z,hz,hk,-⟩:=yF.1 hx
  exact rA h hg z hz hk
 rw [aR0 h]
 unfold usN
 rw [hb]
 simp
def dS(l:List Int):Int:=l.foldl (fun a x=>if a < 0\/x < a then x else a) (-1)
theorem qT(l:List Int)(x:Int):dS (l ++ [x])=if dS l < 0\/x < dS l then x else dS l:=by unfold dS;rw [List.foldl_append];rfl
theorem rE:∀ (l:List (Int × Int)) (w:Int × Int),0<=w.1->(∀ x∈l,bV x)->(l.foldl mZ w).1=min (w.1+(l.map (·.1)).sum) 1000000\/(l=[]/\(l.foldl mZ w).1=w.1)
 | [],w,_,_=>.inr ⟨rfl,rfl⟩
 | x :: l,w,hw,hl=>by
  have hx:=hl x List.mem_cons_self
  have h1:(mZ w x).1=min (w.1+x.1) 1000000:=rfl
  have h0:0<=(mZ w x).1:=by rw [h1];have:=hx.1;omega
  have hs:∀ (m:List (Int × Int)),(∀ y∈m,bV y)->0<=(m.map (·.1)).sum:=by
   intro m
   induction m with
   | nil=>intro _;simp
   | cons y m ih=>intro hm;have:=ih (fun z hz=>hm z (List.mem_cons_of_mem _ hz));have:=(hm y List.mem_cons_self).1;simp only [List.map_cons,List.sum_cons];omega
  have hsl:=hs l (fun y hy=>hl y (List.mem_cons_of_mem _ hy))
  refine .inl ?_
  rw [List.foldl_cons,List.map_cons,List.sum_cons]
  rcases rE l (mZ w x) h0 (fun y hy=>hl y (List.mem_cons_of_mem _ hy)) with e | ⟨e,e2⟩
  ·rw [e,h1];omega
  ·subst e;rw [e2,h1];simp
theorem yW:∀ (l:List (Int × Int)) (w:Int × Int) (a:Int),0<=w.1->w.1=a->(∀ x∈l,bV x)->(l.foldl nO w).1=(l.map (·.1)).foldl (fun a x=>if a < 0\/x < a then x else a) a
 | [],w,a,_,h,_=>h
 | x :: l,w,a,hw,h,hl=>by
  have hx:=(hl x List.mem_cons_self).1
  rw [List.foldl_cons,List.map_cons,List.foldl_cons]
  refine yW l (nO w x) _ ?_ ?_ (fun y hy=>hl y (List.mem_cons_of_mem _ hy))
  ·show 0<=min w.1 x.1;omega
  ·show min w.1 x.1=_
   subst h
   by_cases hc:x.1 < w.1
   ·rw [if_pos (.inr hc)];omega
   ·rw [if_neg (by omega)];omega
theorem aC4{xs:List (Int × Int)}{x0:Int × Int}(h0:xs[0]?=some x0)(hl:∀ x∈xs,bV x):(xs.foldl nO x0).1=dS (xs.map (·.1)):=by
 cases xs with
 | nil=>cases h0
 | cons y l=>
  simp at h0
  subst h0
  have hy:=(hl y List.mem_cons_self).1
  rw [List.foldl_cons,dS,List.map_cons,List.foldl_cons]
  refine yW l (nO y y) _ ?_ ?_ (fun z hz=>hl z (List.mem_cons_of_mem _ hz))
  ·show 0<=min y.1 y.1;omega
  ·show min y.1 y.1=_;rw [if_pos (.inl (by decide))];omega
end
end Go.Proofs.YtjafnbjipgediaaGreatDoor
