/-
  Parts of the proof.
-/
import Derived.Test.YtlamifbjklpdbaaGreatSameProofA0
import Derived.Test.YtlamifbjklpdbaaGreatSameProofB19
import Derived.Test.YtlamifbjklpdbaaGreatSameProofB20
import Derived.Test.YtlamifbjklpdbaaGreatSameProofB11
import Derived.Test.YtlamifbjklpdbaaGreatSameProofB0
import Derived.Test.YtlamifbjklpdbaaGreatSameProofB17
import Derived.Test.YtlamifbjklpdbaaGreatSameProofB8
import Derived.Test.YtlamifbjklpdbaaGreatSameProofB18
set_option linter.unusedSimpArgs false
set_option maxRecDepth 100000
set_option maxHeartbeats 8000000
namespace Go.Proofs.YtlamifbjklpdbaaGreat
open Go Go.RowKit
theorem aX1{c f:Bool}{L C:List (Int×Int)}(hC:IsC C (kX L)):lC c f L↔(IsC L (fun x=>In L x/\eB c x)/\(f=true->L=C)):=by
 constructor
 ·rintro ⟨h1,h2⟩
  refine⟨h1,fun hf=>?_⟩
  have h3:IsC L (kX L):=⟨h1.cls,h1.fit,h2 hf⟩
  exact h3.one hC (fun _=>Iff.rfl)
 ·rintro ⟨h1,h2⟩
  refine⟨h1,fun hf x=>?_⟩
  have e:=h2 hf
  rw [<- e] at hC
  exact hC.mem x
theorem aW2{c f:Bool}{t:Tr}{k:Int}(hk:t.f.k=k):dN c f t↔(if k=1\/k=3\/k=4 then t.f.n=0/\t.f.mn=0/\t.f.mx=0/\t.f.rs.length=0/\t.ks.length=0
 else if k=2 then lC c f t.f.rs/\t.f.n=0/\t.f.mn=0/\t.f.mx=0/\t.ks.length=0
 else if k=5\/k=6 then 1<t.ks.length/\t.f.n=0/\t.f.mn=0/\t.f.mx=0/\t.f.rs.length=0
 else if k=7 then t.ks.length=1/\t.f.mn=0/\t.f.mx=0/\t.f.rs.length=0
 else if k=8 then (1<=t.f.n/\t.f.n<=9)/\t.f.mn=0/\t.f.mx=0/\t.f.rs.length=0/\t.ks.length=0
 else if k=9 then eX t.f.mn t.f.mx=true/\t.ks.length=1/\t.f.n=0/\t.f.rs.length=0
 else False):=by
 unfold dN
 rw [hk]
def FormedP(c f:Bool)(p:Way)(t:Tr)(w:World)(e:Ending)(w':World):Prop:=∃ b:Bool,e=.returned (.bool b)/\(b=true↔bJ c f p t)/\Below w.heap.size w w'
theorem FormedP.mk{c f:Bool}{p:Way}{t:Tr}{w w':World}{e:Ending}(b:Bool)(h1:e=.returned (.bool b))(h2:b=true↔bJ c f p t)(h3:Below w.heap.size w w'):FormedP c f p t w e w':=⟨b,h1,h2,h3⟩
theorem aY4(p:Way)(t:Tr)(o:Nat)(c f:Bool){w:World}(hn:NB w t)(hrl:t.f.rs.length<=1048580) :
  Calls Tryz.prog 20 #[.agg #[.int .i64 t.f.k,.int .i64 t.f.n,.int .i64 t.f.mn,.int .i64 t.f.mx,.slice t.f.rq t.f.rs.length t.f.rc,.slice t.f.kq t.f.kl t.f.kc,.int .i64 ((p.length:Int)+1),.int .i64 (arP p),.bool (fiP p),.bool (laP p),.bool (brP p),.int .i64 (o:Int)],.agg #[.bool c,.bool f]] w fun e w'=>FormedP c f p t w e w':=by
 have HNA:=aA hn
 have hkl:=hn.kl
 have HKL:=aA hkl
 obtain⟨qk,ck,ek,hkm,-,-⟩:=hn.k.slice
 have hkm':t.f.kl<=9223372036854775807:=by rw [hkl];exact hkm
 have HF:=aA hn.fit
 have B0:Hid (Below w.heap.size w ((w.alloc (.cells #[.int .i64 t.f.k,.int .i64 t.f.n,.int .i64 t.f.mn,.int .i64 t.f.mx,.slice t.f.rq t.f.rs.length t.f.rc,.slice t.f.kq t.f.kl t.f.kc,.int .i64 ((p.length:Int)+1),.int .i64 (arP p),.bool (fiP p),.bool (laP p),.bool (brP p),.int .i64 (o:Int)] 56)).alloc (.cells #[.bool c,.bool f] 27))):=(bz9).alloc (by simp) _
 have P0:Hid (((w.alloc (.cells #[.int .i64 t.f.k,.int .i64 t.f.n,.int .i64 t.f.mn,.int .i64 t.f.mx,.slice t.f.rq t.f.rs.length t.f.rc,.slice t.f.kq t.f.kl t.f.kc,.int .i64 ((p.length:Int)+1),.int .i64 (arP p),.bool (fiP p),.bool (laP p),.bool (brP p),.int .i64 (o:Int)] 56)).alloc (.cells #[.bool c,.bool f] 27)).heap[w.heap.size]?=some (.cells #[.int .i64 t.f.k,.int .i64 t.f.n,.int .i64 t.f.mn,.int .i64 t.f.mx,.slice t.f.rq t.f.rs.length t.f.rc,.slice t.f.kq t.f.kl t.f.kc,.int .i64 ((p.length:Int)+1),.int .i64 (arP p),.bool (fiP p),.bool (laP p),.bool (brP p),.int .i64 (o:Int)] 56 (0,0))):=(Below.heap_alloc _ _ _ (by simp)).trans (aD w _)
 have M0:Hid (((w.alloc (.cells #[.int .i64 t.f.k,.int .i64 t.f.n,.int .i64 t.f.mn,.int .i64 t.f.mx,.slice t.f.rq t.f.rs.length t.f.rc,.slice t.f.kq t.f.kl t.f.kc,.int .i64 ((p.length:Int)+1),.int .i64 (arP p),.bool (fiP p),.bool (laP p),.bool (brP p),.int .i64 (o:Int)] 56)).alloc (.cells #[.bool c,.bool f] 27)).heap[w.heap.size+1]?=some (.cells #[.bool c,.bool f] 27 (0,0))):=(by
  have:=aD (w.alloc (.cells #[.int .i64 t.f.k,.int .i64 t.f.n,.int .i64 t.f.mn,.int .i64 t.f.mx,.slice t.f.rq t.f.rs.length t.f.rc,.slice t.f.kq t.f.kl t.f.kc,.int .i64 ((p.length:Int)+1),.int .i64 (arP p),.bool (fiP p),.bool (laP p),.bool (brP p),.int .i64 (o:Int)] 56)) (.cells #[.bool c,.bool f] 27)
  rwa [v9] at this)
 clear hn hkl ek hkm
 go_enter Tryz.func20,Tryz.ntmps20
 go_upto_region 1 with fail
 generalize ((w.alloc (.cells #[.int .i64 t.f.k,.int .i64 t.f.n,.int .i64 t.f.mn,.int .i64 t.f.mx,.slice t.f.rq t.f.rs.length t.f.rc,.slice t.f.kq t.f.kl t.f.kc,.int .i64 ((p.length:Int)+1),.int .i64 (arP p),.bool (fiP p),.bool (laP p),.bool (brP p),.int .i64 (o:Int)] 56)).alloc (.cells #[.bool c,.bool f] 27))=W0 at B0 P0 M0 ⊢
 generalize w.heap.size+1=bm at M0 ⊢
 have p0:W0.cell? ⟨w.heap.size,0,none⟩=some (.int .i64 t.f.k):=aB P0.out (i:=0) rfl
 have p1:W0.cell? ⟨w.heap.size,1,none⟩=some (.int .i64 t.f.n):=aB P0.out (i:=1) rfl
 have p2:W0.cell? ⟨w.heap.size,2,none⟩=some (.int .i64 t.f.mn):=aB P0.out (i:=2) rfl
 have p3:W0.cell? ⟨w.heap.size,3,none⟩=some (.int .i64 t.f.mx):=aB P0.out (i:=3) rfl
 have p4:W0.cell? ⟨w.heap.size,4,none⟩=some (.slice t.f.rq t.f.rs.length t.f.rc):=aB P0.out (i:=4) rfl
 have p5:W0.cell? ⟨w.heap.size,5,none⟩=some (.slice t.f.kq t.f.kl t.f.kc):=aB P0.out (i:=5) rfl
 have p6:W0.cell? ⟨w.heap.size,6,none⟩=some (.int .i64 ((p.length:Int)+1)):=aB P0.out (i:=6) rfl
 have p7:W0.cell? ⟨w.heap.size,7,none⟩=some (.int .i64 (arP p)):=aB P0.out (i:=7) rfl
 have p8:W0.cell? ⟨w.heap.size,8,none⟩=some (.bool (fiP p)):=aB P0.out (i:=8) rfl
 have p9:W0.cell? ⟨w.heap.size,9,none⟩=some (.bool (laP p)):=aB P0.out (i:=9) rfl
 have p10:W0.cell? ⟨w.heap.size,10,none⟩=some (.bool (brP p)):=aB P0.out (i:=10) rfl
 have p11:W0.cell? ⟨w.heap.size,11,none⟩=some (.int .i64 (o:Int)):=aB P0.out (i:=11) rfl
 go_upto_region 2 with fail
 have K1:Below W0.heap.size W0 (W0.alloc (.cells #[.int .i64 t.f.k,.int .i64 t.f.n,.int .i64 t.f.mn,.int .i64 t.f.mx,.slice t.f.rq t.f.rs.length t.f.rc,.slice t.f.kq t.f.kl t.f.kc] 25)):=bz9
 have N1:=aA (aD W0 (.cells #[.int .i64 t.f.k,.int .i64 t.f.n,.int .i64 t.f.mn,.int .i64 t.f.mx,.slice t.f.rq t.f.rs.length t.f.rc,.slice t.f.kq t.f.kl t.f.kc] 25))
 have P1:=aA ((K1.block _ (aC P0.out)).trans P0.out)
 have M1:=aA ((K1.block _ (aC M0.out)).trans M0.out)
 have B1:=aA (aG B0.out K1 lz9)
 clear K1 B0 P0 M0 p0 p1 p2 p3 p4 p5 p6 p7 p8 p9 p10 p11
 generalize (W0.alloc (.cells #[.int .i64 t.f.k,.int .i64 t.f.n,.int .i64 t.f.mn,.int .i64 t.f.mx,.slice t.f.rq t.f.rs.length t.f.rc,.slice t.f.kq t.f.kl t.f.kc] 25))=W1 at N1 P1 M1 B1 ⊢
 generalize W0.heap.size=bn at N1 ⊢
 have p0:W1.cell? ⟨w.heap.size,0,none⟩=some (.int .i64 t.f.k):=aB P1.out (i:=0) rfl
 have p1:W1.cell? ⟨w.heap.size,1,none⟩=some (.int .i64 t.f.n):=aB P1.out (i:=1) rfl
 have p2:W1.cell? ⟨w.heap.size,2,none⟩=some (.int .i64 t.f.mn):=aB P1.out (i:=2) rfl
 have p3:W1.cell? ⟨w.heap.size,3,none⟩=some (.int .i64 t.f.mx):=aB P1.out (i:=3) rfl
 have p4:W1.cell? ⟨w.heap.size,4,none⟩=some (.slice t.f.rq t.f.rs.length t.f.rc):=aB P1.out (i:=4) rfl
 have p5:W1.cell? ⟨w.heap.size,5,none⟩=some (.slice t.f.kq t.f.kl t.f.kc):=aB P1.out (i:=5) rfl
 have p6:W1.cell? ⟨w.heap.size,6,none⟩=some (.int .i64 ((p.length:Int)+1)):=aB P1.out (i:=6) rfl
 have p7:W1.cell? ⟨w.heap.size,7,none⟩=some (.int .i64 (arP p)):=aB P1.out (i:=7) rfl
 have p8:W1.cell? ⟨w.heap.size,8,none⟩=some (.bool (fiP p)):=aB P1.out (i:=8) rfl
 have p9:W1.cell? ⟨w.heap.size,9,none⟩=some (.bool (laP p)):=aB P1.out (i:=9) rfl
 have p10:W1.cell? ⟨w.heap.size,10,none⟩=some (.bool (brP p)):=aB P1.out (i:=10) rfl
 have p11:W1.cell? ⟨w.heap.size,11,none⟩=some (.int .i64 (o:Int)):=aB P1.out (i:=11) rfl
 have ST:=aA (aX9 p t o W1)
 obtain⟨s,hs⟩:∃ s,kA p t.f.k=s:=⟨_,rfl⟩
 rw [hs] at ST
 have HS:=aA hs
 clear hs
 go_upto_region 3 with (go_at_call 33;(with_reducible refine(ST.out).mono ?_);rintro e W2 ⟨rfl,h2⟩;have B2:=aA (aG B1.out h2 lz9);have N2:=aA ((h2.block _ (aC N1.out)).trans N1.out);have M2:=aA ((h2.block _ (aC M1.out)).trans M1.out);clear h2)
 clear p0 p1 p2 p3 p4 p5 p6 p7 p8 p9 p10 p11 N1 P1 M1 B1 ST
 cases s with
 | false=>
  go_wp2
  go_ret
  exact FormedP.mk false rfl (⟨fun z=>(by cases z),fun z=>by have:=z.1;rw [HS.out] at this;cases this⟩) B2.out
 | true=>
  have FT:Hid (bJ c f p t↔dN c f t):=⟨fun z=>z.2,fun z=>⟨HS.out,z⟩⟩
  obtain⟨n0,n1,n2,n3,n4,n5⟩:=(show BoxN W2 bn t.f from N2.out).six
  simp only [m7] at n1 n2 n3 n4 n5
  have m0:W2.cell? ⟨bm,0,none⟩=some (.bool c):=aB M2.out (i:=0) rfl
  have m1:W2.cell? ⟨bm,1,none⟩=some (.bool f):=aB M2.out (i:=1) rfl
  obtain⟨k,hk⟩:∃ k,t.f.k=k:=⟨_,rfl⟩
  have TK:=aA (aW2 (c:=c) (f:=f) hk)
  have HKK:=aA hk
  obtain⟨ln,hln⟩:∃ ln,t.f.kl=ln:=⟨_,rfl⟩
  have HLN:=aA hln
  clear hk hln
  by_cases h1:k=1\/k=3\/k=4
  ·have BR:=aA (fun W=>aD3 t.f W)
   obtain⟨br,hbr⟩:∃ br,decide (t.f.n=0/\t.f.mn=0/\t.f.mx=0/\t.f.rs.length=0/\t.f.kl=0)=br:=⟨_,rfl⟩
   rw [hbr] at BR
   have HBR:=aA hbr
   clear hbr
   have HI:=aA (show br=true↔bJ c f p t by
    rw [<- HBR.out,FT.out,TK.out,if_pos h1,aBD,HKL.out])
   rcases h1 with h1 | h1 | h1
   ·have q1:(t.f.k==1)=true:=beq_iff_eq.2 (by rw [HKK.out];omega)
    clear h1
    go_wp2_with (go_at_call 34;(with_reducible refine(BR.out _).mono ?_);rintro e W8 ⟨rfl,h8⟩;have B8:=aA (aG B2.out h8 lz9);clear h8)
    go_ret
    exact FormedP.mk br rfl (HI.out) B8.out
   ·have q1:(t.f.k==1)=false:=n7.2 (by rw [HKK.out];omega)
    have q3:(t.f.k==3)=true:=beq_iff_eq.2 (by rw [HKK.out];omega)
    clear h1
    go_wp2_with (go_at_call 34;(with_reducible refine(BR.out _).mono ?_);rintro e W8 ⟨rfl,h8⟩;have B8:=aA (aG B2.out h8 lz9);clear h8)
    go_ret
    exact FormedP.mk br rfl (HI.out) B8.out
   ·have q1:(t.f.k==1)=false:=n7.2 (by rw [HKK.out];omega)
    have q3:(t.f.k==3)=false:=n7.2 (by rw [HKK.out];omega)
    have q4:(t.f.k==4)=true:=beq_iff_eq.2 (by rw [HKK.out];omega)
    clear h1
    go_wp2_with (go_at_call 34;(with_reducible refine(BR.out _).mono ?_);rintro e W8 ⟨rfl,h8⟩;have B8:=aA (aG B2.out h8 lz9);clear h8)
    go_ret
    exact FormedP.mk br rfl (HI.out) B8.out
  by_cases h2:k=2
  ·have BR:=aA (fun W=>aD1 t.f W)
   obtain⟨br,hbr⟩:∃ br,decide (t.f.n=0/\t.f.mn=0/\t.f.mx=0/\t.f.kl=0)=br:=⟨_,rfl⟩
   rw [hbr] at BR
   have HBR:=aA hbr
   clear hbr
   have q1:(t.f.k==1)=false:=n7.2 (by rw [HKK.out];omega)
   have q3:(t.f.k==3)=false:=n7.2 (by rw [HKK.out];omega)
   have q4:(t.f.k==4)=false:=n7.2 (by rw [HKK.out];omega)
   have q2:(t.f.k==2)=true:=beq_iff_eq.2 (by rw [HKK.out];omega)
   have RC:=aA (aL8 (m:=c) (HNA.out.ck (CK.of_below B2.out)).r HF.out hrl)
   go_upto_region 12 with (go_at_call 35;(with_reducible refine(RC.out).mono ?_);rintro e W3 ⟨b3,rfl,hb3,h3⟩;have I3:=aA hb3;have B3:=aA (aG B2.out h3 lz9);have N3:=aA ((h3.block _ (aC N2.out)).trans N2.out);have M3:=aA ((h3.block _ (aC M2.out)).trans M2.out);clear hb3 h3)
   clear n0 n1 n2 n3 n4 n5 m0 m1
   have n4:W3.cell? ⟨bn,4,none⟩=some (.slice t.f.rq t.f.rs.length t.f.rc):=(show BoxN W3 bn t.f from N3.out).six.2.2.2.2.1
   have FC:=aA (aY5 (HNA.out.ck (CK.of_below B3.out)).r HF.out hrl)
   go_upto_region 13 with (go_at_call 36;(with_reducible refine(FC.out).mono ?_);rintro e W4 ⟨v4,C,rfl,h41,h42,h43,h44⟩;obtain⟨q4,k4,rfl⟩:=h41.shape;have X4:=aA h41;have I4:=aA h42;have B4:=aA (aG B3.out h44 lz9);have N4:=aA ((h44.block _ (aC N3.out)).trans N3.out);have M4:=aA ((h44.block _ (aC M3.out)).trans M3.out);clear h41 h42 h43 h44)
   clear n4
   have n4:W4.cell? ⟨bn,4,none⟩=some (.slice t.f.rq t.f.rs.length t.f.rc):=(show BoxN W4 bn t.f from N4.out).six.2.2.2.2.1
   have AK:=aA (tL (HNA.out.ck (CK.of_below B4.out)).r X4.out.arg)
   obtain⟨aa,haa⟩:∃ aa,decide (t.f.rs=C)=aa:=⟨_,rfl⟩
   rw [haa] at AK
   have HAA:=aA haa
   clear haa
   go_upto_region 14 with (go_at_call 31;(with_reducible refine(AK.out).mono ?_);rintro e W5 ⟨rfl,h5⟩;have B5:=aA (aG B4.out h5 lz9);have N5:=aA ((h5.block _ (aC N4.out)).trans N4.out);have M5:=aA ((h5.block _ (aC M4.out)).trans M4.out);clear h5)
   clear n4
   obtain⟨n0,n1,n2,n3,n4,n5⟩:=(show BoxN W5 bn t.f from N5.out).six
   simp only [m7] at n1 n2 n3 n4 n5
   have m1:W5.cell? ⟨bm,1,none⟩=some (.bool f):=aB M5.out (i:=1) rfl
   have HI:=aA (show ((b3=true/\(f=true->aa=true))/\br=true)↔bJ c f p t by
    rw [<- HBR.out,FT.out,TK.out,if_neg h1,if_pos h2,aBD,HKL.out,aX1 I4.out,I3.out,<- HAA.out,aBD])
   clear h1 h2 RC FC AK
   cases b3 with
   | false=>
    have HI2:=aA (show false=true↔bJ c f p t from ⟨fun z=>(by cases z),fun z=>(HI.out.2 z).1.1⟩)
    go_wp2
    go_ret
    exact FormedP.mk false rfl (HI2.out) B5.out
   | true=>
    cases f with
    | false=>
     have HI2:=aA (show br=true↔bJ c false p t from ⟨fun z=>HI.out.1 ⟨⟨rfl,fun q=>(by cases q)⟩,z⟩,fun z=>(HI.out.2 z).2⟩)
     go_wp2_with (go_at_call 34;(with_reducible refine(BR.out _).mono ?_);rintro e W8 ⟨rfl,h8⟩;have B8:=aA (aG B5.out h8 lz9);clear h8)
     go_ret
     exact FormedP.mk br rfl (HI2.out) B8.out
    | true=>
     cases aa with
     | false=>
      have HI2:=aA (show false=true↔bJ c true p t from ⟨fun z=>(by cases z),fun z=>(HI.out.2 z).1.2 rfl⟩)
      go_wp2
      go_ret
      exact FormedP.mk false rfl (HI2.out) B5.out
     | true=>
      have HI2:=aA (show br=true↔bJ c true p t from ⟨fun z=>HI.out.1 ⟨⟨rfl,fun _=>rfl⟩,z⟩,fun z=>(HI.out.2 z).2⟩)
      go_wp2_with (go_at_call 34;(with_reducible refine(BR.out _).mono ?_);rintro e W8 ⟨rfl,h8⟩;have B8:=aA (aG B5.out h8 lz9);clear h8)
      go_ret
      exact FormedP.mk br rfl (HI2.out) B8.out
  by_cases h56:k=5\/k=6
  ·have BR:=aA (fun W=>aD2 t.f W)
   obtain⟨br,hbr⟩:∃ br,decide (t.f.n=0/\t.f.mn=0/\t.f.mx=0/\t.f.rs.length=0)=br:=⟨_,rfl⟩
   rw [hbr] at BR
   have HBR:=aA hbr
   clear hbr
   have HI:=aA (show (1<ln/\br=true)↔bJ c f p t by
    rw [<- HBR.out,FT.out,TK.out,if_neg h1,if_neg h2,if_pos h56,aBD,<- HLN.out,HKL.out])
   by_cases hl:1<ln
   ·have el:(1:Int)<(t.f.kl:Int):=by rw [HLN.out];omega
    have HI2:=aA (show br=true↔bJ c f p t from ⟨fun z=>HI.out.1 ⟨hl,z⟩,fun z=>(HI.out.2 z).2⟩)
    clear hl
    rcases h56 with h5 | h5
    ·have q1:(t.f.k==1)=false:=n7.2 (by rw [HKK.out];omega)
     have q3:(t.f.k==3)=false:=n7.2 (by rw [HKK.out];omega)
     have q4:(t.f.k==4)=false:=n7.2 (by rw [HKK.out];omega)
     have q2:(t.f.k==2)=false:=n7.2 (by rw [HKK.out];omega)
     have q5:(t.f.k==5)=true:=beq_iff_eq.2 (by rw [HKK.out];omega)
     clear h5 h1 h2
     go_wp2_with (go_at_call 34;(with_reducible refine(BR.out _).mono ?_);rintro e W8 ⟨rfl,h8⟩;have B8:=aA (aG B2.out h8 lz9);clear h8)
     go_ret
     exact FormedP.mk br rfl (HI2.out) B8.out
    ·have q1:(t.f.k==1)=false:=n7.2 (by rw [HKK.out];omega)
     have q3:(t.f.k==3)=false:=n7.2 (by rw [HKK.out];omega)
     have q4:(t.f.k==4)=false:=n7.2 (by rw [HKK.out];omega)
     have q2:(t.f.k==2)=false:=n7.2 (by rw [HKK.out];omega)
     have q5:(t.f.k==5)=false:=n7.2 (by rw [HKK.out];omega)
     have q6:(t.f.k==6)=true:=beq_iff_eq.2 (by rw [HKK.out];omega)
     clear h5 h1 h2
     go_wp2_with (go_at_call 34;(with_reducible refine(BR.out _).mono ?_);rintro e W8 ⟨rfl,h8⟩;have B8:=aA (aG B2.out h8 lz9);clear h8)
     go_ret
     exact FormedP.mk br rfl (HI2.out) B8.out
   ·have el:¬ (1:Int)<(t.f.kl:Int):=by rw [HLN.out];omega
    have HI2:=aA (show false=true↔bJ c f p t from ⟨fun z=>(by cases z),fun z=>absurd (HI.out.2 z).1 hl⟩)
    clear hl
    rcases h56 with h5 | h5
    ·have q1:(t.f.k==1)=false:=n7.2 (by rw [HKK.out];omega)
     have q3:(t.f.k==3)=false:=n7.2 (by rw [HKK.out];omega)
     have q4:(t.f.k==4)=false:=n7.2 (by rw [HKK.out];omega)
     have q2:(t.f.k==2)=false:=n7.2 (by rw [HKK.out];omega)
     have q5:(t.f.k==5)=true:=beq_iff_eq.2 (by rw [HKK.out];omega)
     clear h5 h1 h2
     go_wp2
     go_ret
     exact FormedP.mk false rfl (HI2.out) B2.out
    ·have q1:(t.f.k==1)=false:=n7.2 (by rw [HKK.out];omega)
     have q3:(t.f.k==3)=false:=n7.2 (by rw [HKK.out];omega)
     have q4:(t.f.k==4)=false:=n7.2 (by rw [HKK.out];omega)
     have q2:(t.f.k==2)=false:=n7.2 (by rw [HKK.out];omega)
     have q5:(t.f.k==5)=false:=n7.2 (by rw [HKK.out];omega)
     have q6:(t.f.k==6)=true:=beq_iff_eq.2 (by rw [HKK.out];omega)
     clear h5 h1 h2
     go_wp2
     go_ret
     exact FormedP.mk false rfl (HI2.out) B2.out
  by_cases h7:k=7
  ·have BR:=aA (fun W=>aC8 t.f W)
   obtain⟨br,hbr⟩:∃ br,decide (t.f.mn=0/\t.f.mx=0/\t.f.rs.length=0)=br:=⟨_,rfl⟩
   rw [hbr] at BR
   have HBR:=aA hbr
   clear hbr
   have HI:=aA (show (ln=1/\br=true)↔bJ c f p t by
    rw [<- HBR.out,FT.out,TK.out,if_neg h1,if_neg h2,if_neg h56,if_pos h7,aBD,<- HLN.out,HKL.out])
   have q1:(t.f.k==1)=false:=n7.2 (by rw [HKK.out];omega)
   have q3:(t.f.k==3)=false:=n7.2 (by rw [HKK.out];omega)
   have q4:(t.f.k==4)=false:=n7.2 (by rw [HKK.out];omega)
   have q2:(t.f.k==2)=false:=n7.2 (by rw [HKK.out];omega)
   have q5:(t.f.k==5)=false:=n7.2 (by rw [HKK.out];omega)
   have q6:(t.f.k==6)=false:=n7.2 (by rw [HKK.out];omega)
   have q7:(t.f.k==7)=true:=beq_iff_eq.2 (by rw [HKK.out];omega)
   clear h1 h2 h56 h7
   by_cases hl:ln=1
   ·have el:((t.f.kl:Int)==1)=true:=beq_iff_eq.2 (by rw [HLN.out];omega)
    have HI2:=aA (show br=true↔bJ c f p t from ⟨fun z=>HI.out.1 ⟨hl,z⟩,fun z=>(HI.out.2 z).2⟩)
    clear hl
    go_wp2_with (go_at_call 34;(with_reducible refine(BR.out _).mono ?_);rintro e W8 ⟨rfl,h8⟩;have B8:=aA (aG B2.out h8 lz9);clear h8)
    go_ret
    exact FormedP.mk br rfl (HI2.out) B8.out
   ·have el:((t.f.kl:Int)==1)=false:=n7.2 (by rw [HLN.out];omega)
    have HI2:=aA (show false=true↔bJ c f p t from ⟨fun z=>(by cases z),fun z=>absurd (HI.out.2 z).1 hl⟩)
    clear hl
    go_wp2
    go_ret
    exact FormedP.mk false rfl (HI2.out) B2.out
  by_cases h8:k=8
  ·have BR:=aA (fun W=>aC9 t.f W)
   obtain⟨br,hbr⟩:∃ br,decide (t.f.mn=0/\t.f.mx=0/\t.f.rs.length=0/\t.f.kl=0)=br:=⟨_,rfl⟩
   rw [hbr] at BR
   have HBR:=aA hbr
   clear hbr
   have HI:=aA (show ((1<=t.f.n/\t.f.n<=9)/\br=true)↔bJ c f p t by
    rw [<- HBR.out,FT.out,TK.out,if_neg h1,if_neg h2,if_neg h56,if_neg h7,if_pos h8,aBD,HKL.out])
   have q1:(t.f.k==1)=false:=n7.2 (by rw [HKK.out];omega)
   have q3:(t.f.k==3)=false:=n7.2 (by rw [HKK.out];omega)
   have q4:(t.f.k==4)=false:=n7.2 (by rw [HKK.out];omega)
   have q2:(t.f.k==2)=false:=n7.2 (by rw [HKK.out];omega)
   have q5:(t.f.k==5)=false:=n7.2 (by rw [HKK.out];omega)
   have q6:(t.f.k==6)=false:=n7.2 (by rw [HKK.out];omega)
   have q7:(t.f.k==7)=false:=n7.2 (by rw [HKK.out];omega)
   have q8:(t.f.k==8)=true:=beq_iff_eq.2 (by rw [HKK.out];omega)
   clear h1 h2 h56 h7 h8
   by_cases g1:1<=t.f.n
   ·by_cases g2:t.f.n<=9
    ·have HI2:=aA (show br=true↔bJ c f p t from ⟨fun z=>HI.out.1 ⟨⟨g1,g2⟩,z⟩,fun z=>(HI.out.2 z).2⟩)
     go_wp2_with (go_at_call 34;(with_reducible refine(BR.out _).mono ?_);rintro e W8 ⟨rfl,h8⟩;have B8:=aA (aG B2.out h8 lz9);clear h8)
     go_ret
     exact FormedP.mk br rfl (HI2.out) B8.out
    ·have HI2:=aA (show false=true↔bJ c f p t from ⟨fun z=>(by cases z),fun z=>absurd (HI.out.2 z).1.2 g2⟩)
     go_wp2
     go_ret
     exact FormedP.mk false rfl (HI2.out) B2.out
   ·have HI2:=aA (show false=true↔bJ c f p t from ⟨fun z=>(by cases z),fun z=>absurd (HI.out.2 z).1.1 g1⟩)
    go_wp2
    go_ret
    exact FormedP.mk false rfl (HI2.out) B2.out
  by_cases h9:k=9
  ·have BR:=aA (fun W=>aD0 t.f W)
   obtain⟨br,hbr⟩:∃ br,decide (t.f.n=0/\t.f.rs.length=0)=br:=⟨_,rfl⟩
   rw [hbr] at BR
   have HBR:=aA hbr
   clear hbr
   have BD:=aA (fun W=>aY8 t.f.mn t.f.mx W)
   obtain⟨bd,hbd⟩:∃ bd,eX t.f.mn t.f.mx=bd:=⟨_,rfl⟩
   rw [hbd] at BD
   have HBD:=aA hbd
   clear hbd
   have HI:=aA (show (bd=true/\ln=1/\br=true)↔bJ c f p t by
    rw [<- HBR.out,FT.out,TK.out,if_neg h1,if_neg h2,if_neg h56,if_neg h7,if_neg h8,if_pos h9,aBD,<- HLN.out,HKL.out,HBD.out])
   have q1:(t.f.k==1)=false:=n7.2 (by rw [HKK.out];omega)
   have q3:(t.f.k==3)=false:=n7.2 (by rw [HKK.out];omega)
   have q4:(t.f.k==4)=false:=n7.2 (by rw [HKK.out];omega)
   have q2:(t.f.k==2)=false:=n7.2 (by rw [HKK.out];omega)
   have q5:(t.f.k==5)=false:=n7.2 (by rw [HKK.out];omega)
   have q6:(t.f.k==6)=false:=n7.2 (by rw [HKK.out];omega)
   have q7:(t.f.k==7)=false:=n7.2 (by rw [HKK.out];omega)
   have q8:(t.f.k==8)=false:=n7.2 (by rw [HKK.out];omega)
   have q9:(t.f.k==9)=true:=beq_iff_eq.2 (by rw [HKK.out];omega)
   clear h1 h2 h56 h7 h8 h9
   cases bd with
   | false=>
    have HI2:=aA (show false=true↔bJ c f p t from ⟨fun z=>(by cases z),fun z=>(HI.out.2 z).1⟩)
    go_wp2_with (go_at_call 37;(with_reducible refine(BD.out _).mono ?_);rintro e w5 ⟨rfl,h5⟩;subst w5)
    go_ret
    exact FormedP.mk false rfl (HI2.out) B2.out
   | true=>
    by_cases hl:ln=1
    ·have el:((t.f.kl:Int)==1)=true:=beq_iff_eq.2 (by rw [HLN.out];omega)
     have HI2:=aA (show br=true↔bJ c f p t from ⟨fun z=>HI.out.1 ⟨rfl,hl,z⟩,fun z=>(HI.out.2 z).2.2⟩)
     clear hl
     go_wp2_with first |(go_at_call 37;(with_reducible refine(BD.out _).mono ?_);rintro e w5 ⟨rfl,h5⟩;subst w5) |(go_at_call 34;(with_reducible refine(BR.out _).mono ?_);rintro e W8 ⟨rfl,h8⟩;have B8:=aA (aG B2.out h8 lz9);clear h8)
     go_ret
     exact FormedP.mk br rfl (HI2.out) B8.out
    ·have el:((t.f.kl:Int)==1)=false:=n7.2 (by rw [HLN.out];omega)
     have HI2:=aA (show false=true↔bJ c f p t from ⟨fun z=>(by cases z),fun z=>absurd (HI.out.2 z).2.1 hl⟩)
     clear hl
     go_wp2_with (go_at_call 37;(with_reducible refine(BD.out _).mono ?_);rintro e w5 ⟨rfl,h5⟩;subst w5)
     go_ret
     exact FormedP.mk false rfl (HI2.out) B2.out
  have q1:(t.f.k==1)=false:=n7.2 (by rw [HKK.out];omega)
  have q3:(t.f.k==3)=false:=n7.2 (by rw [HKK.out];omega)
  have q4:(t.f.k==4)=false:=n7.2 (by rw [HKK.out];omega)
  have q2:(t.f.k==2)=false:=n7.2 (by rw [HKK.out];omega)
  have q5:(t.f.k==5)=false:=n7.2 (by rw [HKK.out];omega)
  have q6:(t.f.k==6)=false:=n7.2 (by rw [HKK.out];omega)
  have q7:(t.f.k==7)=false:=n7.2 (by rw [HKK.out];omega)
  have q8:(t.f.k==8)=false:=n7.2 (by rw [HKK.out];omega)
  have q9:(t.f.k==9)=false:=n7.2 (by rw [HKK.out];omega)
  have HI2:=aA (show false=true↔bJ c f p t from ⟨fun z=>(by cases z),fun z=>by
   have:=TK.out.1 (FT.out.1 z)
   rw [if_neg h1,if_neg h2,if_neg h56,if_neg h7,if_neg h8,if_neg h9] at this
   exact this.elim⟩)
  clear h1 h2 h56 h7 h8 h9
  go_wp2
  go_ret
  exact FormedP.mk false rfl (HI2.out) B2.out
section
theorem bO7(W:World)(a:Value)(t:TypeId):∀ (j:Nat) (u:Value),[a][j]?=some u->(W.alloc (.cells #[a] t)).cell? ((⟨W.heap.size,0,none⟩:Addr).add j)=some u:=by
 intro j u h
 match j,h with
 | 0,h=>simp at h;subst h;simp [Addr.add]
theorem bE2(most:Nat):∀ (a:List El) (k j:Nat) (z:Zl),(tl most k a)[j]?=some z->z.2=min (k+j+z.1.2.sz) most
 | [],k,j,z,h=>by simp [tl] at h
 | x :: a,k,0,z,h=>by
  rw [tl] at h
  simp at h
  subst h
  rfl
 | x :: a,k,j+1,z,h=>by
  rw [tl,aAP] at h
  have:=bE2 most a (k+1) j z h
  omega
theorem bA9{t:Tr}{j:Nat}{z:Zl}(h:(gM 2001 t)[j]?=some z):z.2=min (j+z.1.2.sz) 2001:=by
 have h':((tl 2001 0 (pp [] t)).take 2001)[j]?=some z:=by
  unfold gM jM at h
  rw [aAI,List.length_nil,Nat.sub_zero] at h
  exact h
 have hj:(tl 2001 0 (pp [] t))[j]?=some z:=by
  obtain⟨hl,hv⟩:=m8.1 h'
  rw [aAG] at hl
  rw [List.getElem_take] at hv
  exact m8.2 ⟨by omega,hv⟩
 have:=bE2 _ _ _ _ _ hj
 omega
theorem aP3{c f:Bool}{p:Way}{t:Tr}{i g:Nat}(h:bR c f p t i g=0)(hk:t.f.k=7):t.f.n=(g:Int)+1:=by
 obtain⟨h1,h2,h3⟩:=iP h
 exact(gR.1 ⟨(by rw [hk];rfl),h2,h3⟩).2 hk
def RG(c f:Bool)(pre:List El):Prop:=∀ (j:Nat) (y:El),pre[j]?=some y->bR c f y.1 y.2 j (aN (pre.take j))=0
theorem RG.nil(c f:Bool):RG c f []:=fun j y h=>by simp at h
theorem RG.step{c f:Bool}{pre:List El}{x:El}(h:RG c f pre)(hx:bR c f x.1 x.2 pre.length (aN pre)=0):RG c f (pre++[x]):=fun j y hy=>by
 rcases Nat.lt_or_ge j pre.length with hj | hj
 ·rw [aAH hj] at hy
  rw [List.take_append_of_le_length (by omega)]
  exact h j y hy
 ·rw [aAA hj] at hy
  have h0:j-pre.length=0:=by
   rcases Nat.eq_zero_or_pos (j-pre.length) with z | z
   ·exact z
   ·rw [show j-pre.length=(j-pre.length-1)+1 by omega] at hy
    simp at hy
  rw [h0] at hy
  simp at hy
  subst hy
  have hj2:j=pre.length:=by omega
  subst hj2
  rw [List.take_left]
  exact hx
theorem lE{c f:Bool}:∀ (a b:List El) (i g:Nat),(∀ (j:Nat) (y:El),a[j]?=some y->bR c f y.1 y.2 (i+j) (g+aN (a.take j))=0)->aZ c f i g (a++b)=aZ c f (i+a.length) (g+aN a) b
 | [],b,i,g,_=>by simp [aN]
 | x :: a,b,i,g,h=>by
  have h0:=h 0 x rfl
  rw [aAL,aAJ] at h0
  have h0':bR c f x.1 x.2 i g=0:=h0
  have ih:=lE a b (i+1) (g+(if x.2.f.k=7 then 1 else 0)) (fun j y hy=>by
   have:=h (j+1) y (by rw [aAP];exact hy)
   rw [aBN,aN] at this
   rw [show i+1+j=i+(j+1) by omega,aAU]
   exact this)
  rw [t4]
  simp only [aZ,h0',ne_eq,not_true,if_false]
  rw [ih,o7,aN,show i+1+a.length=i+(a.length+1) by omega,aAU]
theorem RG.stop{c f:Bool}{t:Tr}{j:Nat}{x:El}{m:Int}(h:RG c f ((pp [] t).take j))(hx:(pp [] t)[j]?=some x)(hm:bR c f x.1 x.2 j (aN ((pp [] t).take j))=m)(h0:m≠0):aZ c f 0 0 (pp [] t)=m:=by
 have hj:=(m8.1 hx).1
 have e:pp [] t=(pp [] t).take j++x :: (pp [] t).drop (j+1):=by
  have:=aBG j (pp [] t)
  rw [aBO hj,(m8.1 hx).2] at this
  exact this.symm
 have hl:((pp [] t).take j).length=j:=by rw [aAG];omega
 have hs:=lE ((pp [] t).take j) (x :: (pp [] t).drop (j+1)) 0 0 (fun k y hy=>by rw [m7,m7];exact h k y hy)
 rw [<- e,m7,m7,hl] at hs
 rw [hs]
 simp only [aZ,hm,ne_eq,h0,not_false_eq_true,if_true]
theorem RG.all{c f:Bool}{t:Tr}(h:RG c f (pp [] t)):aZ c f 0 0 (pp [] t)=0:=by
 have hs:=lE (pp [] t) [] 0 0 (fun k y hy=>by rw [m7,m7];exact h k y hy)
 rw [t9] at hs
 rw [hs]
 rfl
theorem pL{t:Tr}{j:Nat}{x:El}(hx:(pp [] t)[j]?=some x):(pp [] t).take j++[x] <+: pp [] t:=by
 have:(pp [] t).take (j+1)=(pp [] t).take j++[x]:=by rw [s7,hx];rfl
 rw [<- this]
 exact List.take_prefix _ _
theorem rU{t:Tr}{j k:Nat}{y:El}(h:((pp [] t).take j)[k]?=some y):(pp [] t)[k]?=some y:=by
 obtain⟨hl,hv⟩:=m8.1 h
 rw [aAG] at hl
 rw [List.getElem_take] at hv
 exact m8.2 ⟨by omega,hv⟩
open Classical in
theorem aP5{c f:Bool}{p:Way}{t:Tr}{i g:Nat}(hbr:∀ par i r,p=(par,i) :: r->par.f.k=5->brP r=true):bR c f p t i g=if i=2000 then 42 else if 40<p.length+1 then 43 else if ¬ (bJ c f p t/\(t.f.k=7->t.f.n=(g:Int)+1)) then 50 else if t.f.k=7/\30<t.f.n then 42 else if t.f.k=8/\¬ (fJ p t.f.n=false/\t.f.n<=(g:Int)) then 41 else 0:=by
 unfold bR
 simp only [yD hbr]
structure RS(w5:World)(t:Tr)(c f:Bool)(j gr:Nat)(v:Value)(W:World):Prop where
 le:j<=2000
 cnt:aN ((pp [] t).take j)=gr
 row:W.ownsRow w5.heap.size 3 1 v gr (fN ((fO 0 ((pp [] t).take j)).map Int.ofNat))
 bel:Below w5.heap.size w5 W
 ok:RG c f ((pp [] t).take j)
theorem RS.next{w5 W W':World}{t:Tr}{c f:Bool}{j gr:Nat}{v:Value}{x:El}(h:RS w5 t c f j gr v W)(hx:(pp [] t)[j]?=some x)(hj:j<2000)(h0:bR c f x.1 x.2 j gr=0)(hk:x.2.f.k≠7)(hb:Below W.heap.size W W'):RS w5 t c f (j+1) gr v W':=by
 have hl:=(m8.1 hx).1
 have hlen:((pp [] t).take j).length=j:=by rw [aAG];omega
 have e:(pp [] t).take (j+1)=(pp [] t).take j++[x]:=by rw [s7,hx];rfl
 refine⟨by omega,?_,?_,aG h.bel hb lz9,?_⟩
 ·rw [e,fQ,if_neg hk,h.cnt];rfl
 ·rw [e,rJ,if_neg hk,t9]
  exact aH h.row (Fr.of_below (S:=fun _=>False) hb) (fun _ _ z=>z)
 ·rw [e]
  refine h.ok.step ?_
  rw [hlen,h.cnt]
  exact h0
theorem RS.group{w5 W W':World}{t:Tr}{c f:Bool}{j gr:Nat}{v v':Value}{x:El}(h:RS w5 t c f j gr v W)(hx:(pp [] t)[j]?=some x)(hj:j<2000)(h0:bR c f x.1 x.2 j gr=0)(hk:x.2.f.k=7)(hr:W'.ownsRow w5.heap.size 3 1 v' (gr+1) (fN ((fO 0 ((pp [] t).take j)).map Int.ofNat)++[.int .i64 (j:Int)]))(hb:Below w5.heap.size w5 W'):RS w5 t c f (j+1) (gr+1) v' W':=by
 have hl:=(m8.1 hx).1
 have hlen:((pp [] t).take j).length=j:=by rw [aAG];omega
 have e:(pp [] t).take (j+1)=(pp [] t).take j++[x]:=by rw [s7,hx];rfl
 refine⟨by omega,?_,?_,hb,?_⟩
 ·rw [e,fQ,if_pos hk,h.cnt]
 ·rw [e,rJ,if_pos hk,hlen,aAK,vB]
  exact hr
 ·rw [e]
  refine h.ok.step ?_
  rw [hlen,h.cnt]
  exact h0
theorem RS.back{w5 W:World}{t:Tr}{c f:Bool}{j gr:Nat}{v:Value}{x:El}(h:RS w5 t c f j gr v W)(hx:(pp [] t)[j]?=some x)(hj:j<2000){N:Nat}(hN:N<gr):∃ jj:Nat,(fO 0 ((pp [] t).take j))[N]?=some jj/\∃ y,(pp [] t)[jj]?=some y/\jj<j/\(fJ x.1 ((N:Int)+1)=false↔min (jj+y.2.sz) 2001<=j):=by
 have hl:=(m8.1 hx).1
 have hlen:((pp [] t).take j).length=j:=by rw [aAG];omega
 have hg:N<(fO 0 ((pp [] t).take j)).length:=by rw [mR,h.cnt];exact hN
 obtain⟨jj,hjj⟩:∃ jj,(fO 0 ((pp [] t).take j))[N]?=some jj:=⟨_,g9 hg⟩
 obtain⟨y,hy,hiff⟩:=bP2 (pL hx) (fun k z hz hk=>aP3 (h.ok k z hz) hk) (by omega) hjj
 rw [hlen] at hiff
 have:=(m8.1 hy).1
 exact⟨jj,hjj,y,rU hy,by omega,hiff⟩
theorem sH{w:World}{t:Tr}(c f:Bool)(hta:TB w t)(hsm:∀ x∈pp [] t,x.2.f.rs.length<=1048580):Calls Tryz.prog 6 #[.agg #[.int .i64 t.f.k,.int .i64 t.f.n,.int .i64 t.f.mn,.int .i64 t.f.mx,.slice t.f.rq t.f.rs.length t.f.rc,.slice t.f.kq t.f.kl t.f.kc],.agg #[.bool c,.bool f]] w fun e w'=>e=.returned (.int .i64 (aZ c f 0 0 (pp [] t)))/\Below w.heap.size w w':=by
 have B1:Hid (Below w.heap.size w ((w.alloc (.cells #[.int .i64 t.f.k,.int .i64 t.f.n,.int .i64 t.f.mn,.int .i64 t.f.mx,.slice t.f.rq t.f.rs.length t.f.rc,.slice t.f.kq t.f.kl t.f.kc] 25)).alloc (.cells #[.bool c,.bool f] 27))):=(bz9).alloc (by simp) _
 have N1:Hid (BoxN ((w.alloc (.cells #[.int .i64 t.f.k,.int .i64 t.f.n,.int .i64 t.f.mn,.int .i64 t.f.mx,.slice t.f.rq t.f.rs.length t.f.rc,.slice t.f.kq t.f.kl t.f.kc] 25)).alloc (.cells #[.bool c,.bool f] 27)) w.heap.size t.f):=(Below.heap_alloc _ _ _ (by simp)).trans (aD w _)
 have M1:Hid (((w.alloc (.cells #[.int .i64 t.f.k,.int .i64 t.f.n,.int .i64 t.f.mn,.int .i64 t.f.mx,.slice t.f.rq t.f.rs.length t.f.rc,.slice t.f.kq t.f.kl t.f.kc] 25)).alloc (.cells #[.bool c,.bool f] 27)).heap[w.heap.size+1]?=some (.cells #[.bool c,.bool f] 27 (0,0))):=(by
  have:=aD (w.alloc (.cells #[.int .i64 t.f.k,.int .i64 t.f.n,.int .i64 t.f.mn,.int .i64 t.f.mx,.slice t.f.rq t.f.rs.length t.f.rc,.slice t.f.kq t.f.kl t.f.kc] 25)) (.cells #[.bool c,.bool f] 27)
  rwa [v9] at this)
 have HTA:=aA hta
 have HSM:=aA hsm
 obtain⟨R,hR⟩:∃ R,aZ c f 0 0 (pp [] t)=R:=⟨_,rfl⟩
 rw [hR]
 have HR:=aA hR
 clear hta hsm hR
 go_enter Tryz.func6,Tryz.ntmps6
 go_upto_region 1 with fail
 generalize ((w.alloc (.cells #[.int .i64 t.f.k,.int .i64 t.f.n,.int .i64 t.f.mn,.int .i64 t.f.mx,.slice t.f.rq t.f.rs.length t.f.rc,.slice t.f.kq t.f.kl t.f.kc] 25)).alloc (.cells #[.bool c,.bool f] 27))=W1 at B1 N1 M1 ⊢
 generalize w.heap.size+1=bm at M1 ⊢
 obtain⟨c0,c1,c2,c3,c4,c5⟩:=N1.out.six
 simp only [m7] at c1 c2 c3 c4 c5
 have LA:=aA (sW (w:=W1) 2001 (by omega) (HTA.out.kept B1.out))
 have HZL:=aA (jO 2001 t)
 have HZM:=aA (jN 2001 t)
 have HTO:=aA (fun (j:Nat) (z:Zl) (h:(gM 2001 t)[j]?=some z)=>bA9 h)
 have hz:=jO 2001 t
 have hzl:(gM 2001 t).length<=2001:=by omega
 clear hz
 generalize gM 2001 t=Z at LA HZL HZM HTO hzl
 go_upto_region 5 with (go_at_call 19;refine(LA.out).mono ?_;rintro e w5 ⟨q5,k5,rfl,h51,h52⟩;have Z5:=aA h51;have B5:=aA h52;clear h51 h52)
 have M5:=aA ((B5.out.block _ (aC M1.out)).trans M1.out)
 have B6:=aA (aG B1.out B5.out lz9)
 clear c0 c1 c2 c3 c4 c5 LA B1 B5 N1 M1
 go_loopw [8,7,6] (fun i v g wr=>∃ (j gr:Nat) (q:Option Addr) (ca:Nat),j<=Z.length/\i=.int .i64 (j:Int)/\v=.slice q gr ca/\g=.int .i64 (gr:Int)/\RS w5 t c f j gr (.slice q gr ca) wr) (fun i _ _ _=>Z.length-(intOf i).toNat)
 case atStart=>exact⟨0,0,none,0,o9 _,rfl,rfl,rfl,⟨o9 _,rfl,aAY _ _ _ _,Below.refl _ _,RG.nil c f⟩⟩
 case round=>
  obtain⟨j,gr,q,ca,hj,rfl,rfl,rfl,hs⟩:=hrel
  have HS:=aA hs
  have hgr:gr<=2000:=by
   have h1:=hs.cnt
   have h2:=tC ((pp [] t).take j)
   rw [aAG] at h2
   have:=hs.le
   omega
  have hj2:=hs.le
  clear hs
  by_cases hjl:j<Z.length
  case neg=>
   have i0:¬ (j:Int)<(Z.length:Int):=by omega
   have HD:=aA (show R=0 by
    rw [<- HR.out]
    have h1:=HZL.out
    have h2:=HS.out.ok
    rw [o4 (by omega)] at h2
    exact h2.all)
   have BX:=aA (aG B6.out HS.out.bel lz9)
   clear hjl
   go_wp2
   go_ret
   exact⟨congrArg (fun z=>Ending.returned (.int .i64 z)) HD.out.symm,BX.out⟩
  have i0:(j:Int)<(Z.length:Int):=by omega
  obtain⟨⟨x,o⟩,hx⟩:∃ z,Z[j]?=some z:=⟨_,g9 hjl⟩
  obtain⟨ga,cz,hq⟩:=aO Z5.out (by omega)
  injection hq with hq1 _ hq2
  subst hq1 hq2
  have YA:ZR W1.heap.size wr (.slice (some ⟨ga,0,none⟩) Z.length k5) Z:=aH Z5.out (Fr.of_below (S:=fun _=>False) HS.out.bel) (fun _ _ z=>z)
  have x0:wr.cell? ⟨ga,j*12,none⟩=some (.int .i64 x.2.f.k):=YA.cells hx (j:=0) rfl
  have x1:wr.cell? ⟨ga,j*12+1,none⟩=some (.int .i64 x.2.f.n):=YA.cells hx (j:=1) rfl
  have x2:wr.cell? ⟨ga,j*12+2,none⟩=some (.int .i64 x.2.f.mn):=YA.cells hx (j:=2) rfl
  have x3:wr.cell? ⟨ga,j*12+3,none⟩=some (.int .i64 x.2.f.mx):=YA.cells hx (j:=3) rfl
  have x4:wr.cell? ⟨ga,j*12+4,none⟩=some (.slice x.2.f.rq x.2.f.rs.length x.2.f.rc):=YA.cells hx (j:=4) rfl
  have x5:wr.cell? ⟨ga,j*12+5,none⟩=some (.slice x.2.f.kq x.2.f.kl x.2.f.kc):=YA.cells hx (j:=5) rfl
  have x6:wr.cell? ⟨ga,j*12+6,none⟩=some (.int .i64 ((x.1.length:Int)+1)):=YA.cells hx (j:=6) rfl
  have x7:wr.cell? ⟨ga,j*12+7,none⟩=some (.int .i64 (arP x.1)):=YA.cells hx (j:=7) rfl
  have x8:wr.cell? ⟨ga,j*12+8,none⟩=some (.bool (fiP x.1)):=YA.cells hx (j:=8) rfl
  have x9:wr.cell? ⟨ga,j*12+9,none⟩=some (.bool (laP x.1)):=YA.cells hx (j:=9) rfl
  have x10:wr.cell? ⟨ga,j*12+10,none⟩=some (.bool (brP x.1)):=YA.cells hx (j:=10) rfl
  have x11:wr.cell? ⟨ga,j*12+11,none⟩=some (.int .i64 (o:Int)):=YA.cells hx (j:=11) rfl
  have hxt:(pp [] t)[j]?=some x:=rU (j:=2001) (by rw [<- HZM.out,aAO,hx];rfl)
  have HX:=aA hxt
  have HBR:=aA (bP7 (pL hxt) HS.out.ok)
  have HST:=aA (fun (m:Int) (h:bR c f x.1 x.2 j gr=m) (h0:m≠0)=>HR.out.symm.trans (HS.out.ok.stop hxt (by rw [HS.out.cnt];exact h) h0))
  have BW:=aA (aG B6.out HS.out.bel lz9)
  have HNA:=aA ((HTA.out.at (n8 hxt)).node.ck (CK.of_below BW.out))
  have HSL:=aA (HSM.out x (n8 hxt))
  have MW:=aA ((HS.out.bel.block _ (aC M5.out)).trans M5.out)
  have hdp:=qZ (t:=t) (pre:=(pp [] t).take j) (x:=x) (pL hxt)
  rw [aAG] at hdp
  have hdp2:x.1.length<=2001:=by omega
  have lga:ga<wr.heap.size:=(aF YA (g:=ga) rfl).2.1
  have HYA:=aA YA
  clear hx hxt YA hdp
  go_upto_region 8 with fail
  have K2:=aA (show Below wr.heap.size wr (wr.alloc (.cells #[.int .i64 x.2.f.k,.int .i64 x.2.f.n,.int .i64 x.2.f.mn,.int .i64 x.2.f.mx,.slice x.2.f.rq x.2.f.rs.length x.2.f.rc,.slice x.2.f.kq x.2.f.kl x.2.f.kc,.int .i64 ((x.1.length:Int)+1),.int .i64 (arP x.1),.bool (fiP x.1),.bool (laP x.1),.bool (brP x.1),.int .i64 (o:Int)] 56)) from bz9)
  have P2:=aA (aD wr (.cells #[.int .i64 x.2.f.k,.int .i64 x.2.f.n,.int .i64 x.2.f.mn,.int .i64 x.2.f.mx,.slice x.2.f.rq x.2.f.rs.length x.2.f.rc,.slice x.2.f.kq x.2.f.kl x.2.f.kc,.int .i64 ((x.1.length:Int)+1),.int .i64 (arP x.1),.bool (fiP x.1),.bool (laP x.1),.bool (brP x.1),.int .i64 (o:Int)] 56))
  have M2:=aA ((K2.out.block _ (aC MW.out)).trans MW.out)
  have A2:=aA (HNA.out.ck (CK.of_below K2.out))
  clear x0 x1 x2 x3 x4 x5 x6 x7 x8 x9 x10 x11
  generalize (wr.alloc (.cells #[.int .i64 x.2.f.k,.int .i64 x.2.f.n,.int .i64 x.2.f.mn,.int .i64 x.2.f.mx,.slice x.2.f.rq x.2.f.rs.length x.2.f.rc,.slice x.2.f.kq x.2.f.kl x.2.f.kc,.int .i64 ((x.1.length:Int)+1),.int .i64 (arP x.1),.bool (fiP x.1),.bool (laP x.1),.bool (brP x.1),.int .i64 (o:Int)] 56))=W2 at K2 P2 M2 A2 ⊢
  obtain⟨b8,hb8⟩:∃ b8,wr.heap.size=b8:=⟨_,rfl⟩
  have HNB:=aA (show (Value.slice q gr ca).ownBlock≠some wr.heap.size from fun e=>absurd (aF HS.out.row e).2.1 (Nat.lt_irrefl _))
  rw [hb8] at P2 HNB ⊢
  clear hb8
  have B2:=aA (aG BW.out K2.out lz9)
  have p0:W2.cell? ⟨b8,0,none⟩=some (.int .i64 x.2.f.k):=aB P2.out (i:=0) rfl
  have p1:W2.cell? ⟨b8,1,none⟩=some (.int .i64 x.2.f.n):=aB P2.out (i:=1) rfl
  have p2:W2.cell? ⟨b8,2,none⟩=some (.int .i64 x.2.f.mn):=aB P2.out (i:=2) rfl
  have p3:W2.cell? ⟨b8,3,none⟩=some (.int .i64 x.2.f.mx):=aB P2.out (i:=3) rfl
  have p4:W2.cell? ⟨b8,4,none⟩=some (.slice x.2.f.rq x.2.f.rs.length x.2.f.rc):=aB P2.out (i:=4) rfl
  have p5:W2.cell? ⟨b8,5,none⟩=some (.slice x.2.f.kq x.2.f.kl x.2.f.kc):=aB P2.out (i:=5) rfl
  have p6:W2.cell? ⟨b8,6,none⟩=some (.int .i64 ((x.1.length:Int)+1)):=aB P2.out (i:=6) rfl
  have p7:W2.cell? ⟨b8,7,none⟩=some (.int .i64 (arP x.1)):=aB P2.out (i:=7) rfl
  have p8:W2.cell? ⟨b8,8,none⟩=some (.bool (fiP x.1)):=aB P2.out (i:=8) rfl
  have p9:W2.cell? ⟨b8,9,none⟩=some (.bool (laP x.1)):=aB P2.out (i:=9) rfl
  have p10:W2.cell? ⟨b8,10,none⟩=some (.bool (brP x.1)):=aB P2.out (i:=10) rfl
  have p11:W2.cell? ⟨b8,11,none⟩=some (.int .i64 (o:Int)):=aB P2.out (i:=11) rfl
  have m0:W2.cell? ⟨bm,0,none⟩=some (.bool c):=aB M2.out (i:=0) rfl
  have m1:W2.cell? ⟨bm,1,none⟩=some (.bool f):=aB M2.out (i:=1) rfl
  by_cases h2000:j=2000
  ·have e1:(2000:Int)<=(j:Int):=by omega
   have HD:=aA (show R=42 from HST.out 42 (by unfold bR;rw [if_pos h2000]) (by decide))
   clear h2000
   go_wp2
   go_ret
   exact⟨congrArg (fun z=>Ending.returned (.int .i64 z)) HD.out.symm,B2.out⟩
  have e1:¬ (2000:Int)<=(j:Int):=by omega
  have hj3:j<2000:=by omega
  by_cases h40:40<x.1.length+1
  ·have e2:(40:Int)<(x.1.length:Int)+1:=by omega
   have HD:=aA (show R=43 from HST.out 43 (by unfold bR;rw [if_neg h2000,if_pos h40]) (by decide))
   clear h2000 h40
   go_wp2
   go_ret
   exact⟨congrArg (fun z=>Ending.returned (.int .i64 z)) HD.out.symm,B2.out⟩
  have e2:¬ (40:Int)<(x.1.length:Int)+1:=by omega
  have FM:=aA (aY4 x.1 x.2 o c f A2.out HSL.out)
  have HL:=aA (show bR c f x.1 x.2 j gr=_ by rw [aP5 HBR.out,if_neg h2000,if_neg h40])
  clear h2000 h40
  go_upto_region 13 with (go_at_call 20;(with_reducible refine(FM.out).mono ?_);rintro e W3 ⟨b3,rfl,hb3,h3⟩;have I3:=aA hb3;have B3:=aA h3;clear hb3 h3)
  have K3:=aA (aG K2.out B3.out lz9)
  have BZ:=aA (aG B2.out B3.out lz9)
  have P3:=aA ((B3.out.block _ (aC P2.out)).trans P2.out)
  clear m0 m1 p0 p1 p2 p3 p4 p5 p6 p7 p8 p9 p10 p11 FM e2
  have p0:W3.cell? ⟨b8,0,none⟩=some (.int .i64 x.2.f.k):=aB P3.out (i:=0) rfl
  have p1:W3.cell? ⟨b8,1,none⟩=some (.int .i64 x.2.f.n):=aB P3.out (i:=1) rfl
  cases b3 with
  | false=>
   have HD:=aA (show R=50 from HST.out 50 (by rw [HL.out,if_pos (fun z=>by cases I3.out.2 z.1)]) (by decide))
   go_wp2
   go_ret
   exact⟨congrArg (fun z=>Ending.returned (.int .i64 z)) HD.out.symm,BZ.out⟩
  | true=>
   have HF:=aA (I3.out.1 rfl)
   by_cases h7:x.2.f.k=7
   ·have e7:(x.2.f.k==7)=true:=beq_iff_eq.2 h7
    have e8:(x.2.f.k==8)=false:=n7.2 (by omega)
    have H7:=aA h7
    clear h7
    by_cases hn:x.2.f.n=(gr:Int)+1
    case neg=>
     have en:(x.2.f.n != (gr:Int)+1)=true:=bne_iff_ne.2 hn
     have HD:=aA (show R=50 from HST.out 50 (by rw [HL.out,if_pos (fun z=>hn (z.2 H7.out))]) (by decide))
     clear hn
     go_wp2
     go_ret
     exact⟨congrArg (fun z=>Ending.returned (.int .i64 z)) HD.out.symm,BZ.out⟩
    have en:(x.2.f.n != (gr:Int)+1)=false:=by simpa using hn
    have HN:=aA hn
    clear hn
    have R3:=aA (aH HS.out.row (Fr.of_below (S:=fun _=>False) K3.out) (fun _ _ z=>z))
    have S3:=aA (show w5.heap.size<=W3.heap.size from o0 HS.out.bel.size K3.out.size)
    obtain⟨t0,hi,hz0,hz1,hz2⟩:=aR gU
    generalize hgp:fN ((fO 0 ((pp [] t).take j)).map Int.ofNat)=GP at R3
    have HGP:=aA hgp
    clear hgp
    go_upto_region 18 with (at_builtin;refine wpList_append_own_at _ rfl _ _ 35 rfl w5.heap.size 3 t0 (.int .i64 0) 1 8 gP hi hz0 hz1 hz2 rfl (by decide) (.slice q gr ca) gr GP rfl (aAB R3.out (.cells #[.int .i64 (j:Int)] 3)) ⟨W3.heap.size,0,none⟩ 1 1 [.int .i64 (j:Int)] rfl rfl (bO7 _ _ _) (by simp [Value.oneCell']) (by unfold maxLen;omega) (by omega) (by have:=S3.out;simp;omega) ?_;intro v' w6 hown' hgrow _ hblk;obtain⟨g6,cap6,rfl⟩:=aO hown' (aBK _);have O6:=aA hown';have G6:=aA hgrow;clear hown' hgrow hblk)
    have L6:=aA (show Below w5.heap.size w5 w6 from bB (aG HS.out.bel K3.out lz9) (((Fr.refl (fun z=>(Value.slice q gr ca).ownBlock=some z) W3).alloc (.cells #[.int .i64 (j:Int)] 3)).grown G6.out (fun z hz=>hz)) lz9 (fun z hz=>(aF R3.out hz).1))
    have P6:=aA (show w6.heap[b8]?=some (.cells #[.int .i64 x.2.f.k,.int .i64 x.2.f.n,.int .i64 x.2.f.mn,.int .i64 x.2.f.mx,.slice x.2.f.rq x.2.f.rs.length x.2.f.rc,.slice x.2.f.kq x.2.f.kl x.2.f.kc,.int .i64 ((x.1.length:Int)+1),.int .i64 (arP x.1),.bool (fiP x.1),.bool (laP x.1),.bool (brP x.1),.int .i64 (o:Int)] 56 (0,0)) from (G6.out.block _ (by simp;have:=aC P3.out;omega) (fun e=>HNB.out e.symm)).trans ((Below.heap_alloc _ _ _ (aC P3.out)).trans P3.out))
    have p0':w6.cell? ⟨b8,0,none⟩=some (.int .i64 x.2.f.k):=aB P6.out (i:=0) rfl
    clear p0 p1
    by_cases h30:30<gr+1
    ·have e3:(30:Int)<(gr:Int)+1:=by omega
     have HD:=aA (show R=42 from HST.out 42 (by rw [HL.out,if_neg (fun z=>z ⟨HF.out,fun _=>HN.out⟩),if_pos ⟨H7.out,by rw [HN.out];exact e3⟩]) (by decide))
     have BX:=aA (aG B6.out L6.out lz9)
     clear h30
     go_wp2
     go_ret
     exact⟨congrArg (fun z=>Ending.returned (.int .i64 z)) HD.out.symm,BX.out⟩
    have e3:¬ (30:Int)<(gr:Int)+1:=by omega
    have HD:=aA (show bR c f x.1 x.2 j gr=0 by rw [HL.out,if_neg (fun z=>z ⟨HF.out,fun _=>HN.out⟩),if_neg (fun z=>e3 (by have:=z.2;rw [HN.out] at this;exact this)),if_neg (fun z=>by have:=z.1;rw [H7.out] at this;cases this)])
    clear h30
    go_wp2
    go_roundw
    case rel=>exact⟨j+1,gr+1,_,_,by omega,by go_num,rfl,by go_num,HS.out.group HX.out hj3 HD.out H7.out (by rw [HGP.out];exact O6.out) L6.out⟩
    case measure=>simp only [intOf];omega
   have e7:(x.2.f.k==7)=false:=n7.2 h7
   by_cases h8:x.2.f.k=8
   case neg=>
    have e8:(x.2.f.k==8)=false:=n7.2 h8
    have HD:=aA (show bR c f x.1 x.2 j gr=0 by rw [HL.out,if_neg (fun z=>z ⟨HF.out,fun q=>absurd q h7⟩),if_neg (fun z=>h7 z.1),if_neg (fun z=>h8 z.1)])
    have H7:=aA h7
    clear h7 h8
    go_wp2
    go_roundw
    case rel=>exact⟨j+1,gr,_,_,by omega,by go_num,rfl,rfl,HS.out.next HX.out hj3 HD.out H7.out K3.out⟩
    case measure=>simp only [intOf];omega
   have e8:(x.2.f.k==8)=true:=beq_iff_eq.2 h8
   have HL8:=aA (show bR c f x.1 x.2 j gr=_ by rw [HL.out,if_neg (fun z=>z ⟨HF.out,fun q=>absurd q h7⟩),if_neg (fun z=>h7 z.1)])
   have hn1:1<=x.2.f.n:=by
    have:=HF.out.2
    unfold dN at this
    rw [if_neg (by omega),if_neg (by omega),if_neg (by omega),if_neg (by omega),if_pos h8] at this
    exact this.1.1
   have H7:=aA h7
   have H8:=aA h8
   clear h7 h8 HL
   by_cases hg:x.2.f.n<=(gr:Int)
   case neg=>
    have eg:(gr:Int)<x.2.f.n:=by omega
    have HD:=aA (show R=41 from HST.out 41 (by rw [HL8.out,if_pos ⟨H8.out,fun z=>hg z.2⟩]) (by decide))
    clear hg hn1
    go_wp2
    go_ret
    exact⟨congrArg (fun z=>Ending.returned (.int .i64 z)) HD.out.symm,BZ.out⟩
   have eg:¬ (gr:Int)<x.2.f.n:=by omega
   obtain⟨N,hN⟩:∃ N:Nat,x.2.f.n=(N:Int)+1:=⟨(x.2.f.n-1).toNat,by omega⟩
   have HN:=aA hN
   have hNg:N<gr:=by omega
   have p1':W3.cell? ⟨b8,1,none⟩=some (.int .i64 ((N:Int)+1)):=by rw [<- hN];exact p1
   have eg':¬ (gr:Int)<(N:Int)+1:=by omega
   have hnn:x.2.f.n<=(gr:Int):=hg
   have HNN:=aA hnn
   clear p1 eg hg hn1 hN hnn
   obtain⟨jj,hjj,y,hy,hjj2,hiff⟩:=HS.out.back HX.out hj3 hNg
   have R3:=aH HS.out.row (Fr.of_below (S:=fun _=>False) K3.out) (fun _ _ z=>z)
   obtain⟨gb,cb,hqb⟩:=aO R3 (by omega)
   injection hqb with hqb1 _ hqb2
   subst hqb1 hqb2
   have a0:W3.cell? ⟨gb,N,none⟩=some (.int .i64 (jj:Int)):=by
    have:=aP R3 (j:=N) (u:=.int .i64 (jj:Int)) (aQ3 (by rw [aAO,hjj];rfl))
    exact this
   obtain⟨zz,hzz⟩:∃ zz,Z[jj]?=some zz:=⟨_,g9 (by omega)⟩
   have hyz:zz.1=y:=by
    have h1:(pp [] t)[jj]?=some zz.1:=rU (j:=2001) (by rw [<- HZM.out,aAO,hzz];rfl)
    rw [hy] at h1
    exact(aAE h1).symm
   have hto:=HTO.out jj zz hzz
   rw [hyz] at hto
   rw [<- hto] at hiff
   have Y3:ZR W1.heap.size W3 (.slice (some ⟨ga,0,none⟩) Z.length k5) Z:=aH HYA.out (Fr.of_below (S:=fun _=>False) K3.out) (fun _ _ z=>z)
   have a1:W3.cell? ⟨ga,jj*12+11,none⟩=some (.int .i64 (zz.2:Int)):=Y3.cells hzz (j:=11) rfl
   generalize zz.2=tt at a1 hto hiff
   have lgb:gb<W3.heap.size:=(aF R3 (g:=gb) rfl).2.1
   have HIF:=aA hiff
   have hjz:jj<Z.length:=by omega
   clear R3 Y3 hjj hy hzz hyz hto hiff
   by_cases hto:tt<=j
   ·have et:¬ (j:Int)<(tt:Int):=by omega
    have HD:=aA (show bR c f x.1 x.2 j gr=0 by rw [HL8.out,if_neg (fun z=>z.2 ⟨by rw [HN.out];exact HIF.out.2 hto,HNN.out⟩)])
    clear hto
    go_wp2
    go_roundw
    case rel=>exact⟨j+1,gr,_,_,by omega,by go_num,rfl,rfl,HS.out.next HX.out hj3 HD.out H7.out K3.out⟩
    case measure=>simp only [intOf];omega
   ·have et:(j:Int)<(tt:Int):=by omega
    have HD:=aA (show R=41 from HST.out 41 (by rw [HL8.out,if_pos ⟨H8.out,fun z=>hto (HIF.out.1 (by rw [<- HN.out];exact z.1))⟩]) (by decide))
    clear hto
    go_wp2
    go_ret
    exact⟨congrArg (fun z=>Ending.returned (.int .i64 z)) HD.out.symm,BZ.out⟩
end
section
attribute [local go_sem] Oper.semAt_some aU
def Sm(t:Tr):Prop:=∀ x∈pp [] t,x.2.f.rs.length<=1048580
theorem aC6{w:World}{t:Tr}(c o:Bool)(hta:TB w t)(hsm:Sm t):Calls Tryz.prog 24 #[.agg #[.int .i64 t.f.k,.int .i64 t.f.n,.int .i64 t.f.mn,.int .i64 t.f.mx,.slice t.f.rq t.f.rs.length t.f.rc,.slice t.f.kq t.f.kl t.f.kc],.agg #[.bool c,.bool o]] w fun e w'=>e=.returned (.bool (decide (aZ c o 0 0 (pp [] t)=0)))/\Below w.heap.size w w':=by
 have B1:Hid (Below w.heap.size w ((w.alloc (.cells #[.int .i64 t.f.k,.int .i64 t.f.n,.int .i64 t.f.mn,.int .i64 t.f.mx,.slice t.f.rq t.f.rs.length t.f.rc,.slice t.f.kq t.f.kl t.f.kc] 25)).alloc (.cells #[.bool c,.bool o] 27))):=(bz9).alloc (by simp) _
 have X1:Hid (BoxN ((w.alloc (.cells #[.int .i64 t.f.k,.int .i64 t.f.n,.int .i64 t.f.mn,.int .i64 t.f.mx,.slice t.f.rq t.f.rs.length t.f.rc,.slice t.f.kq t.f.kl t.f.kc] 25)).alloc (.cells #[.bool c,.bool o] 27)) w.heap.size t.f):=(Below.heap_alloc _ _ _ (by simp)).trans (aD w _)
 have X2:Hid (((w.alloc (.cells #[.int .i64 t.f.k,.int .i64 t.f.n,.int .i64 t.f.mn,.int .i64 t.f.mx,.slice t.f.rq t.f.rs.length t.f.rc,.slice t.f.kq t.f.kl t.f.kc] 25)).alloc (.cells #[.bool c,.bool o] 27)).heap[w.heap.size+1]?=some (.cells #[.bool c,.bool o] 27 (0,0))):=nF _ (by simp only [v9])
 have HTA:=aA hta
 have HSM:=aA hsm
 clear hta hsm
 go_enter Tryz.func24,Tryz.ntmps24
 go_upto_region 1 with fail
 generalize ((w.alloc (.cells #[.int .i64 t.f.k,.int .i64 t.f.n,.int .i64 t.f.mn,.int .i64 t.f.mx,.slice t.f.rq t.f.rs.length t.f.rc,.slice t.f.kq t.f.kl t.f.kc] 25)).alloc (.cells #[.bool c,.bool o] 27))=w1 at B1 X1 X2 ⊢
 obtain⟨n0,n1,n2,n3,n4,n5⟩:=X1.out.six
 simp only [m7] at n1 n2 n3 n4 n5
 have a0:=aB X2.out (i:=0) rfl
 have a1:=aB X2.out (i:=1) rfl
 have RT:=aA (sH c o (HTA.out.kept B1.out) HSM.out)
 obtain⟨r,hr⟩:∃ r,aZ c o 0 0 (pp [] t)=r:=⟨_,rfl⟩
 have HR:=aA hr
 rw [hr] at RT
 clear hr
 go_wp2_with (go_at_call 6;refine(RT.out).mono ?_;rintro e w2 ⟨rfl,h2⟩;have B2:=aA (aG B1.out h2 lz9);clear h2)
 go_ret
 refine⟨?_,B2.out⟩
 rw [HR.out]
 by_cases h:r=0
 ·subst h;rfl
 ·have h1:(r==0)=false:=by simpa using h
  simp [h,h1]
end
section
attribute [local go_sem] Oper.semAt_some aU
def sG(c:Bool)(t:Tr):Int:=evG (kV c) (fun _=>0) t
theorem aL4(c:Bool)(t:Tr):sG c t=min (fG c t.f (t.ks.map (sG c))) 10001:=by
 have:=bM7 (ρ:=kV c) (fun _=>0) t
 rw [aR6] at this
 exact this
theorem yY(c o:Bool):∀ (m:Nat) (t:Tr),t.sz<=m->t.sz<=2000->bF (NP c o) t->jB (sG c t)
 | 0,t,h,_,_=>absurd h (by have:=dO t;omega)
 | m+1,t,h,h2,hev=>by
  have hx:∀ x∈t.ks.map (sG c),jB x:=fun x hx=>by
   obtain⟨u,hu,rfl⟩:=s4.1 hx
   exact yY c o m u (by have:=bW hu;omega) (by have:=bW hu;omega) (cB hev hu)
  have:=aB4 t (t.ks.map (sG c)) (fun _=>0) ((aI t).1 hev).1 (by simp) hx (fun _=>⟨by omega,by omega⟩)
  rw [aL4]
  exact this
theorem aJ8{l:List Tr}{p:Tr->Int}{j:Nat}{x:Tr}(hx:l[j]?=some x):((l.take (j+1)).map p).sum=((l.take j).map p).sum+p x:=by
 rw [s7,hx,aBH,aAK,List.sum_append]
 simp
theorem bE9(c:Bool):∀ (m:Nat) (t:Tr),t.sz<=m->∀ g,(ev (kV c) g t).1=sG c t
 | 0,t,h=>absurd h (by have:=dO t;omega)
 | m+1,t,h=>fun g=>by
  have hs:∀ (ks:List Tr),(∀ u∈ks,∀ g,(ev (kV c) g u).1=sG c u)->∀ g,(evs (kV c) g ks).1=ks.map (sG c):=fun ks=>by
   induction ks with
   | nil=>intro _ g;rw [bB4];rfl
   | cons u ks ih=>
    intro h g
    rw [aR5,s6,h u (by simp) g]
    simp only
    rw [ih (fun v hv=>h v (by simp [hv]))]
  rw [bM6,aL4,hs t.ks (fun u hu=>bE9 c m u (by have:=bW hu;omega))]
  rfl
theorem bG2(c o:Bool)(t:Tr):tvI (kV c) c o t=if aZ c o 0 0 (pp [] t)=0 then sG c t else 0:=by
 unfold tvI
 rw [bE9 c t.sz t lz9]
def wN(c:Bool)(l:List (Int×Int)):Int:=if c then wide l else 0
def nN(c:Bool)(l:List (Int×Int)):Int:=if c then sQ l else if l.length=0 then 0 else 1
def hiN(c:Bool)(r:Int×Int):Bool:=c&&decide (127<r.2)
theorem aV1(c:Bool)(l:List (Int×Int))(r:Int×Int):wN c (l++[r])=if hiN c r then wN c l+16 else wN c l:=by
 unfold wN wide hiN
 cases c
 ·simp
 ·by_cases h:127<r.2 <;> simp [h,List.filter_append];omega
theorem bA1(c:Bool)(l:List (Int×Int))(r:Int×Int):nN c (l++[r])=if hiN c r then nN c l else 1:=by
 unfold nN sQ hiN
 cases c
 ·simp
 ·by_cases h:127<r.2
  ·have h2:decide (r.2<=127)=false:=by simp;omega
   have h3:decide (127<r.2)=true:=by simpa using h
   simp only [if_true,aCB,h3,List.any_append,aCC,List.any_nil,h2,Bool.or_false]
  ·have:r.2<=127:=by omega
   simp [h,this]
theorem bN5(c:Bool)(l:List (Int×Int)):0<=wN c l/\wN c l<=16*(l.length:Int):=by
 unfold wN wide
 cases c
 ·simp;omega
 ·have:=List.length_filter_le (fun r:Int×Int=>decide (127<r.2)) l
  simp only [if_true]
  omega
theorem bO8(c:Bool)(l:List (Int×Int)):0<=nN c l/\nN c l<=1:=by
 unfold nN sQ
 repeat' split
 all_goals omega
theorem aX2(c:Bool)(l:List (Int×Int)):max (wN c l+nN c l) 1=tX c l:=by
 unfold wN nN tX
 cases c
 ·simp only [Bool.false_eq_true,if_false];split <;> omega
 ·rfl
def Bx2(w V:World)(f:Fl)(c o:Bool):Prop:=Below w.heap.size w V/\BoxN V w.heap.size f/\V.heap[w.heap.size+1]?=some (.cells #[.bool c,.bool o] 27 (0,0))
theorem Bx2.kept{w V V':World}{f:Fl}{c o:Bool}(h:Bx2 w V f c o)(hb:Below V.heap.size V V'):Bx2 w V' f c o:=⟨aG h.1 hb lz9,(hb.block _ (aC h.2.1)).trans h.2.1,(hb.block _ (aC h.2.2)).trans h.2.2⟩
theorem aA0(c o:Bool):∀ (m:Nat) (t:Tr) (w:World),t.sz<=m->t.sz<=2000->TB w t->bF (NP c o) t->Calls Tryz.prog 25 #[.agg #[.int .i64 t.f.k,.int .i64 t.f.n,.int .i64 t.f.mn,.int .i64 t.f.mx,.slice t.f.rq t.f.rs.length t.f.rc,.slice t.f.kq t.f.kl t.f.kc],.agg #[.bool c,.bool o]] w fun e w'=>e=.returned (.int .i64 (sG c t))/\Below w.heap.size w w'
 | 0,t,_,h,_,_,_=>absurd h (by have:=dO t;omega)
 | m+1,t,w,hm,hsz,hta,hev=>by
  have IH:Hid (∀ (u:Tr) (W:World),u∈t.ks->Below w.heap.size w W->Calls Tryz.prog 25 #[.agg #[.int .i64 u.f.k,.int .i64 u.f.n,.int .i64 u.f.mn,.int .i64 u.f.mx,.slice u.f.rq u.f.rs.length u.f.rc,.slice u.f.kq u.f.kl u.f.kc],.agg #[.bool c,.bool o]] W fun e w'=>e=.returned (.int .i64 (sG c u))/\Below W.heap.size W w'):=fun u W hu hW=>aA0 c o m u W (by have:=bW hu;omega) (by have:=bW hu;omega) ((hta.kept hW).kid hu) (cB hev hu)
  have GD:Hid (∀ u∈t.ks,jB (sG c u)):=fun u hu=>yY c o m u (by have:=bW hu;omega) (by have:=bW hu;omega) (cB hev hu)
  have hnp:NP c o t:=((aI t).1 hev).1
  have hnb:=hta.node
  have HNB:=aA hnb
  have HKL:=aA hnb.kl
  have HLN:Hid (t.ks.length<=2000):=by have h1:=eY t.ks;have h2:=dA t;exact aA (by omega)
  obtain⟨q1,cap1,eq1,-,-,hk3⟩:=hnb.k.slice
  injection eq1 with eq1 eq2 eq3
  subst eq1 eq3
  have HK3:=aA hk3
  have SM:Hid (∀ j,0<=((t.ks.take j).map (sG c)).sum/\((t.ks.take j).map (sG c)).sum<=20002000):=fun j=>by
   have h1:=aJ9 (l:=(t.ks.take j).map (sG c)) (fun x hx=>by
    obtain⟨u,hu,rfl⟩:=s4.1 hx
    exact GD.out u (aAS hu))
   have h2:((t.ks.take j).map (sG c)).length<=2000:=by rw [aAC,aAG];have:=HLN.out;omega
   omega
  have X1:Hid (Bx2 w ((w.alloc (.cells #[.int .i64 t.f.k,.int .i64 t.f.n,.int .i64 t.f.mn,.int .i64 t.f.mx,.slice t.f.rq t.f.rs.length t.f.rc,.slice t.f.kq t.f.kl t.f.kc] 25)).alloc (.cells #[.bool c,.bool o] 27)) t.f c o):=⟨(bz9).alloc (by simp) _,(Below.heap_alloc _ _ _ (by simp)).trans (aD w _),nF _ (by simp only [v9])⟩
  clear hta hev hnb hm hk3 eq2 hsz
  go_enter Tryz.func25,Tryz.ntmps25
  go_upto_region 3 with fail
  generalize hV:(w.alloc (.cells #[.int .i64 t.f.k,.int .i64 t.f.n,.int .i64 t.f.mn,.int .i64 t.f.mx,.slice t.f.rq t.f.rs.length t.f.rc,.slice t.f.kq t.f.kl t.f.kc] 25)).alloc (.cells #[.bool c,.bool o] 27)=V at X1 ⊢
  clear hV
  go_loopw [5,6] (fun s i wr=>∃ j:Nat,j<=t.ks.length/\s=.int .i64 ((t.ks.take j).map (sG c)).sum/\i=.int .i64 (j:Int)/\Bx2 w wr t.f c o) (fun _ i _=>t.ks.length-(intOf i).toNat)
  case atStart=>exact⟨0,o9 _,rfl,rfl,X1.out⟩
  case round=>
   obtain⟨j,hj,rfl,rfl,hx⟩:=hrel
   have XW:=aA hx
   clear hx
   have hln:=HLN.out
   obtain⟨S,hS⟩:∃ S,((t.ks.take j).map (sG c)).sum=S:=⟨_,rfl⟩
   have hS1:=SM.out j
   rw [hS] at hS1 ⊢
   have HS:=aA hS
   clear hS
   obtain⟨n0,n1,n2,n3,n4,n5⟩:=XW.out.2.1.six
   simp only [m7] at n1 n2 n3 n4 n5
   have a0:=aB XW.out.2.2 (i:=0) rfl
   have a1:=aB XW.out.2.2 (i:=1) rfl
   by_cases hjl:j<t.ks.length
   ·obtain⟨u,hu⟩:∃ u,t.ks[j]?=some u:=⟨_,g9 hjl⟩
    have hi:(j:Int)<(t.f.kl:Int):=by rw [HKL.out];omega
    have DN:=aA (aJ8 (p:=sG c) hu)
    have hin:=n8 hu
    have hg:=GD.out u hin
    obtain⟨X,hX⟩:∃ X,sG c u=X:=⟨_,rfl⟩
    have CU:Hid (∀ W,Below wr.heap.size wr W->Calls Tryz.prog 25 #[.agg #[.int .i64 u.f.k,.int .i64 u.f.n,.int .i64 u.f.mn,.int .i64 u.f.mx,.slice u.f.rq u.f.rs.length u.f.rc,.slice u.f.kq u.f.kl u.f.kc],.agg #[.bool c,.bool o]] W fun e w'=>e=.returned (.int .i64 X)/\Below W.heap.size W w'):=fun W hW=>by
     have:=IH.out u W hin (aG XW.out.1 hW lz9)
     rw [hX] at this
     exact this
    rw [hX] at DN hg
    rw [HS.out] at DN
    unfold jB at hg
    obtain⟨gq,off,hq,hgl,six⟩:=HK3.out j u hu
    rw [hq] at n5
    clear hq
    obtain⟨c0,c1,c2,c3,c4,c5⟩:=six.ck (CK.of_below XW.out.1) hgl
    have l0:w.heap.size<wr.heap.size:=aC XW.out.2.1
    have l1:w.heap.size+1<wr.heap.size:=aC XW.out.2.2
    have l2:gq<wr.heap.size:=by omega
    have w1:wrap64 (S+X)=S+X:=by unfold wrap64;omega
    have w2:IntKind.wrap .i64 (S+X)=S+X:=by rw [IntKind.wrap_i64];omega
    clear hu six hX
    go_upto_region 5 with fail
    refine wx9 ?_
    repeat (go_big_quiet_step (first | exact rfl |(go_at_call 25;exact dJ (CU.out _ (nT _)))))
    refine wpQuiet_nil ?_
    intro w3 hw
    have X3:=aA (XW.out.kept (aM hw))
    clear hw
    go_wp2
    go_roundw
    case rel=>exact⟨j+1,by omega,by rw [DN.out],by go_num,X3.out⟩
    case measure=>simp only [intOf];omega
   ·have hi:¬ (j:Int)<(t.f.kl:Int):=by rw [HKL.out];omega
    have HSE:Hid ((t.ks.map (sG c)).sum=S):=by have:=HS.out;rw [o4 (by omega)] at this;exact aA this
    have HKI:(t.f.kl:Int)=(t.ks.length:Int):=by rw [HKL.out]
    have hv0:=aA (aL4 c t)
    clear HS
    rcases aO1 hnp with hk | hk | hk | hk | hk | hk | hk | hk | hk
    ·have hv:Hid (sG c t=1):=aA (by rw [hv0.out,show fG c t.f (t.ks.map (sG c))=1 by unfold fG;rw [hk];simp];decide)
     have e2:(t.f.k==2)=false:=by rw [hk];rfl
     have e5:(t.f.k==5)=false:=by rw [hk];rfl
     have e6:(t.f.k==6)=false:=by rw [hk];rfl
     have e7:(t.f.k==7)=false:=by rw [hk];rfl
     have e9:(t.f.k==9)=false:=by rw [hk];rfl
     clear hk hnp
     go_wp2
     go_ret
     exact⟨by rw [hv.out];rfl,XW.out.1⟩
    ·have hset:=bK3 hnp hk
     have hk0:t.ks.length=0:=by have:=hnp.1;unfold dN at this;rw [hk] at this;simp at this;simp [this.2.2.2.2]
     have hS0:S=0:=by rw [<- HSE.out,List.length_eq_zero_iff.1 hk0];rfl
     subst hS0
     have hrl:=mA hset.1
     have hv:Hid (sG c t=min (max (wN c t.f.rs+nN c t.f.rs) 1) 10001):=aA (by rw [hv0.out,aX2];unfold fG;rw [hk];rfl)
     have HRL:=aA hrl
     have e2:(t.f.k==2)=true:=by rw [hk];rfl
     have e5:(t.f.k==5)=false:=by rw [hk];rfl
     have e6:(t.f.k==6)=false:=by rw [hk];rfl
     have e7:(t.f.k==7)=false:=by rw [hk];rfl
     have e9:(t.f.k==9)=false:=by rw [hk];rfl
     clear hk hnp HKI hset hk0 hrl
     go_upto_region 21 with fail
     clear n0 n1 n2 n3 n4 n5 a0 a1
     go_loopw [5,8,9] (fun s l i wr=>∃ j:Nat,j<=t.f.rs.length/\s=.int .i64 (wN c (t.f.rs.take j))/\l=.int .i64 (nN c (t.f.rs.take j))/\i=.int .i64 (j:Int)/\Bx2 w wr t.f c o) (fun _ _ i _=>t.f.rs.length-(intOf i).toNat)
     case atStart=>exact⟨0,o9 _,by cases c <;> rfl,by cases c <;> rfl,rfl,XW.out⟩
     case round=>
      obtain⟨k,hkj,rfl,rfl,rfl,hx2⟩:=hrel
      have XV:=aA hx2
      clear hx2
      have hrl:=HRL.out
      obtain⟨A,hA⟩:∃ A,wN c (t.f.rs.take k)=A:=⟨_,rfl⟩
      obtain⟨N,hN⟩:∃ N,nN c (t.f.rs.take k)=N:=⟨_,rfl⟩
      have hA1:=bN5 c (t.f.rs.take k)
      have hN1:=bO8 c (t.f.rs.take k)
      have hlt:((t.f.rs.take k).length:Int)<=600000:=by rw [aAG];omega
      rw [hA] at hA1 ⊢
      rw [hN] at hN1 ⊢
      have HA:=aA hA
      have HN:=aA hN
      clear hA hN
      obtain⟨n0,n1,n2,n3,n4,n5⟩:=XV.out.2.1.six
      simp only [m7] at n1 n2 n3 n4 n5
      have a0:=aB XV.out.2.2 (i:=0) rfl
      have a1:=aB XV.out.2.2 (i:=1) rfl
      by_cases hkl:k<t.f.rs.length
      ·obtain⟨⟨ra,rb⟩,hr⟩:∃ r,t.f.rs[k]?=some r:=⟨_,g9 hkl⟩
       have hi2:(k:Int)<(t.f.rs.length:Int):=by omega
       have ht1:t.f.rs.take (k+1)=t.f.rs.take k++[(ra,rb)]:=by rw [s7,hr];rfl
       have D1:=aA (show wN c (t.f.rs.take (k+1))=if hiN c (ra,rb) then A+16 else A by rw [ht1,aV1,HA.out])
       have D2:=aA (show nN c (t.f.rs.take (k+1))=if hiN c (ra,rb) then N else 1 by rw [ht1,bA1,HN.out])
       have HAR:=aA (HNB.out.r.kept XV.out.1)
       obtain⟨q2,cap2,eq2,-,-,hcell⟩:=HAR.out.slice
       injection eq2 with eq2 eq3 eq4
       subst eq2 eq4
       obtain⟨gr,off,hq,hgr,r0,r1⟩:=hcell k _ hr
       rw [aBB] at r0 r1
       simp only at r0 r1
       rw [hq] at n4
       have w1:wrap64 (A+16)=A+16:=by unfold wrap64;omega
       have w2:IntKind.wrap .i64 (A+16)=A+16:=by rw [IntKind.wrap_i64];omega
       clear hq hcell hr eq3 ht1
       cases c with
       | false=>
        rw [show hiN false (ra,rb)=false from rfl] at D1 D2
        simp only [Bool.false_eq_true,if_false] at D1 D2
        go_wp2
        go_roundw
        case rel=>exact⟨k+1,by omega,by rw [D1.out],by rw [D2.out],by go_num,XV.out⟩
        case measure=>simp only [intOf];omega
       | true=>
        by_cases hh:127<rb
        ·have hd:decide (127<rb)=true:=by simpa using hh
         rw [show hiN true (ra,rb)=true by unfold hiN;rw [hd];rfl,if_pos rfl] at D1 D2
         go_wp2
         go_roundw
         case rel=>exact⟨k+1,by omega,by rw [D1.out],by rw [D2.out],by go_num,XV.out⟩
         case measure=>simp only [intOf];omega
        ·have hd:decide (127<rb)=false:=by simpa using hh
         rw [show hiN true (ra,rb)=false by unfold hiN;rw [hd];rfl] at D1 D2
         simp only [Bool.false_eq_true,if_false] at D1 D2
         go_wp2
         go_roundw
         case rel=>exact⟨k+1,by omega,by rw [D1.out],by rw [D2.out],by go_num,XV.out⟩
         case measure=>simp only [intOf];omega
      ·have hi2:¬ (k:Int)<(t.f.rs.length:Int):=by omega
       have hv2:Hid (sG c t=min (max (A+N) 1) 10001):=by
        have h1:=HA.out
        have h2:=HN.out
        rw [o4 (by omega)] at h1 h2
        exact aA (by rw [hv.out,h1,h2])
       have w1:wrap64 (A+N)=A+N:=by unfold wrap64;omega
       have w2:IntKind.wrap .i64 (A+N)=A+N:=by rw [IntKind.wrap_i64];omega
       go_wp2
       go_ret
       exact⟨by rw [hv2.out];rfl,XV.out.1⟩
    ·have hv:Hid (sG c t=1):=aA (by rw [hv0.out,show fG c t.f (t.ks.map (sG c))=1 by unfold fG;rw [hk];simp];decide)
     have e2:(t.f.k==2)=false:=by rw [hk];rfl
     have e5:(t.f.k==5)=false:=by rw [hk];rfl
     have e6:(t.f.k==6)=false:=by rw [hk];rfl
     have e7:(t.f.k==7)=false:=by rw [hk];rfl
     have e9:(t.f.k==9)=false:=by rw [hk];rfl
     clear hk hnp
     go_wp2
     go_ret
     exact⟨by rw [hv.out];rfl,XW.out.1⟩
    ·have hv:Hid (sG c t=1):=aA (by rw [hv0.out,show fG c t.f (t.ks.map (sG c))=1 by unfold fG;rw [hk];simp];decide)
     have e2:(t.f.k==2)=false:=by rw [hk];rfl
     have e5:(t.f.k==5)=false:=by rw [hk];rfl
     have e6:(t.f.k==6)=false:=by rw [hk];rfl
     have e7:(t.f.k==7)=false:=by rw [hk];rfl
     have e9:(t.f.k==9)=false:=by rw [hk];rfl
     clear hk hnp
     go_wp2
     go_ret
     exact⟨by rw [hv.out];rfl,XW.out.1⟩
    ·have hv:Hid (sG c t=min (S+(t.f.kl:Int)) 10001):=aA (by rw [hv0.out];unfold fG;rw [hk,HSE.out,aAC,HKI,Int.add_comm];rfl)
     have e2:(t.f.k==2)=false:=by rw [hk];rfl
     have e5:(t.f.k==5)=true:=by rw [hk];rfl
     have e6:(t.f.k==6)=false:=by rw [hk];rfl
     have e7:(t.f.k==7)=false:=by rw [hk];rfl
     have e9:(t.f.k==9)=false:=by rw [hk];rfl
     have w1:wrap64 (S+(t.f.kl:Int))=S+(t.f.kl:Int):=by unfold wrap64;omega
     have w2:IntKind.wrap .i64 (S+(t.f.kl:Int))=S+(t.f.kl:Int):=by rw [IntKind.wrap_i64];omega
     clear hk hnp HKI
     go_wp2
     go_ret
     exact⟨by rw [hv.out];rfl,XW.out.1⟩
    ·have hv:Hid (sG c t=min (S+(t.f.kl:Int)) 10001):=aA (by rw [hv0.out];unfold fG;rw [hk,HSE.out,aAC,HKI,Int.add_comm];rfl)
     have e2:(t.f.k==2)=false:=by rw [hk];rfl
     have e5:(t.f.k==5)=false:=by rw [hk];rfl
     have e6:(t.f.k==6)=true:=by rw [hk];rfl
     have e7:(t.f.k==7)=false:=by rw [hk];rfl
     have e9:(t.f.k==9)=false:=by rw [hk];rfl
     have w1:wrap64 (S+(t.f.kl:Int))=S+(t.f.kl:Int):=by unfold wrap64;omega
     have w2:IntKind.wrap .i64 (S+(t.f.kl:Int))=S+(t.f.kl:Int):=by rw [IntKind.wrap_i64];omega
     clear hk hnp HKI
     go_wp2
     go_ret
     exact⟨by rw [hv.out];rfl,XW.out.1⟩
    ·have hone:=aO0 hnp (.inl hk)
     have hv:Hid (sG c t=min (S+2) 10001):=aA (by
      rw [hv0.out];unfold fG;rw [hk,<- HSE.out]
      obtain⟨u,hu⟩:=List.length_eq_one_iff.1 hone
      rw [hu];simp)
     have e2:(t.f.k==2)=false:=by rw [hk];rfl
     have e5:(t.f.k==5)=false:=by rw [hk];rfl
     have e6:(t.f.k==6)=false:=by rw [hk];rfl
     have e7:(t.f.k==7)=true:=by rw [hk];rfl
     have e9:(t.f.k==9)=false:=by rw [hk];rfl
     have w1:wrap64 (S+2)=S+2:=by unfold wrap64;omega
     have w2:IntKind.wrap .i64 (S+2)=S+2:=by rw [IntKind.wrap_i64];omega
     clear hk hnp HKI
     go_wp2
     go_ret
     exact⟨by rw [hv.out];rfl,XW.out.1⟩
    ·have hv:Hid (sG c t=1):=aA (by rw [hv0.out,show fG c t.f (t.ks.map (sG c))=1 by unfold fG;rw [hk];simp];decide)
     have e2:(t.f.k==2)=false:=by rw [hk];rfl
     have e5:(t.f.k==5)=false:=by rw [hk];rfl
     have e6:(t.f.k==6)=false:=by rw [hk];rfl
     have e7:(t.f.k==7)=false:=by rw [hk];rfl
     have e9:(t.f.k==9)=false:=by rw [hk];rfl
     clear hk hnp
     go_wp2
     go_ret
     exact⟨by rw [hv.out];rfl,XW.out.1⟩
    ·have hone:=aO0 hnp (.inr hk)
     have hbd:=aN9 hnp hk
     have hb2:0<=t.f.mn/\t.f.mn<=255/\-1<=t.f.mx/\t.f.mx<=255:=by
      simp only [eX,aBY,Bool.or_eq_true,aBD,beq_iff_eq] at hbd
      omega
     have hS9:S<=10001:=by
      rw [<- HSE.out]
      obtain⟨u,hu⟩:=List.length_eq_one_iff.1 hone
      rw [hu]
      have:=GD.out u (by rw [hu];simp)
      unfold jB at this
      simp
      omega
     have hv:Hid (sG c t=min ((S+2)*lA t.f) 10001):=aA (by
      rw [hv0.out];unfold fG;rw [hk,<- HSE.out]
      obtain⟨u,hu⟩:=List.length_eq_one_iff.1 hone
      rw [hu];simp)
     have e2:(t.f.k==2)=false:=by rw [hk];rfl
     have e5:(t.f.k==5)=false:=by rw [hk];rfl
     have e6:(t.f.k==6)=false:=by rw [hk];rfl
     have e7:(t.f.k==7)=false:=by rw [hk];rfl
     have e9:(t.f.k==9)=true:=by rw [hk];rfl
     clear hk hnp HKI hbd hone
     have w1:wrap64 (S+2)=S+2:=by unfold wrap64;omega
     have w2:IntKind.wrap .i64 (S+2)=S+2:=by rw [IntKind.wrap_i64];omega
     by_cases hmx:t.f.mx=-1
     ·have q9:(t.f.mx==-1)=true:=by rw [hmx];rfl
      have hv2:Hid (sG c t=min ((S+2)*max (t.f.mn+1) 1) 10001):=aA (by rw [hv.out];unfold lA;rw [if_pos hmx,show max (t.f.mn+1) 1=t.f.mn+1 by omega])
      have w3:wrap64 (t.f.mn+1)=t.f.mn+1:=by unfold wrap64;omega
      have w4:IntKind.wrap .i64 (t.f.mn+1)=t.f.mn+1:=by rw [IntKind.wrap_i64];omega
      have hm1:0<=(S+2)*max (t.f.mn+1) 1:=Int.mul_nonneg (by omega) (by omega)
      have hm2:(S+2)*max (t.f.mn+1) 1<=10003*256:=Int.mul_le_mul (by omega) (by omega) (by omega) (by omega)
      have w5:wrap64 ((S+2)*max (t.f.mn+1) 1)=(S+2)*max (t.f.mn+1) 1:=by unfold wrap64;omega
      have w6:IntKind.wrap .i64 ((S+2)*max (t.f.mn+1) 1)=(S+2)*max (t.f.mn+1) 1:=by rw [IntKind.wrap_i64];omega
      clear hmx hm1 hm2
      go_wp2
      go_ret
      exact⟨by rw [hv2.out];rfl,XW.out.1⟩
     ·have q9:(t.f.mx==-1)=false:=by simpa using hmx
      have hv2:Hid (sG c t=min ((S+2)*max t.f.mx 1) 10001):=aA (by rw [hv.out];unfold lA;rw [if_neg hmx])
      have hm1:0<=(S+2)*max t.f.mx 1:=Int.mul_nonneg (by omega) (by omega)
      have hm2:(S+2)*max t.f.mx 1<=10003*256:=Int.mul_le_mul (by omega) (by omega) (by omega) (by omega)
      have w5:wrap64 ((S+2)*max t.f.mx 1)=(S+2)*max t.f.mx 1:=by unfold wrap64;omega
      have w6:IntKind.wrap .i64 ((S+2)*max t.f.mx 1)=(S+2)*max t.f.mx 1:=by rw [IntKind.wrap_i64];omega
      clear hmx hm1 hm2
      go_wp2
      go_ret
      exact⟨by rw [hv2.out];rfl,XW.out.1⟩
end
section
theorem zU(l:List (Int×Int))(c:Int):kR l c=true↔In l c:=by
 unfold kR In
 simp
theorem hun(l:List (Int×Int))(c:Int):kR (unC l) c=true↔kR l c=true:=by rw [zU,zU,pE]
variable (c:Bool)
end
section
attribute [local go_sem] Oper.semAt_some
theorem Six.drew{W:World}{b o:Nat}{f:Fl}(h:Six W b o f):Six W.drew b o f:=h
def nE(f:Fl):Bool:=f.k==9&&f.mn==0&&f.mx==-1
theorem oG(f:Fl)(w:World):Calls Tryz.prog 67 #[.agg #[.int .i64 f.k,.int .i64 f.n,.int .i64 f.mn,.int .i64 f.mx,.slice f.rq f.rs.length f.rc,.slice f.kq f.kl f.kc]] w fun e w'=>e=.returned (.bool (nE f))/\Below w.heap.size w w':=by
 have B1:Hid (Below w.heap.size w (w.alloc (.cells #[.int .i64 f.k,.int .i64 f.n,.int .i64 f.mn,.int .i64 f.mx,.slice f.rq f.rs.length f.rc,.slice f.kq f.kl f.kc] 25))):=bz9
 have N1:Hid (BoxN (w.alloc (.cells #[.int .i64 f.k,.int .i64 f.n,.int .i64 f.mn,.int .i64 f.mx,.slice f.rq f.rs.length f.rc,.slice f.kq f.kl f.kc] 25)) w.heap.size f):=aD w _
 obtain⟨c0,c1,c2,c3,c4,c5⟩:=N1.out.six
 simp only [m7] at c1 c2 c3 c4 c5
 unfold nE
 cases h1:(f.k==9) with
 | false=>
  go_enter Tryz.func67,Tryz.ntmps67
  go_wp2
  go_ret
  exact⟨rfl,B1.out⟩
 | true=>
  cases h2:(f.mn==0) with
  | false=>
   go_enter Tryz.func67,Tryz.ntmps67
   go_wp2
   go_ret
   exact⟨rfl,B1.out⟩
  | true=>
   cases h3:(f.mx==-1) with
   | false=>
    go_enter Tryz.func67,Tryz.ntmps67
    go_wp2
    go_ret
    exact⟨rfl,B1.out⟩
   | true=>
    go_enter Tryz.func67,Tryz.ntmps67
    go_wp2
    go_ret
    exact⟨rfl,B1.out⟩
theorem iK(w:World)(f:Fl):∃ W,(w.alloc (.cells #[.int .i64 f.k,.int .i64 f.n,.int .i64 f.mn,.int .i64 f.mx,.slice f.rq f.rs.length f.rc,.slice f.kq f.kl f.kc] 25)).alloc (.cells #[.int .i64 0,.int .i64 0,.int .i64 0,.int .i64 0,.slice none 0 0,.slice none 0 0] 25)=W/\Below w.heap.size w W/\BoxN W w.heap.size f/\W.heap[w.heap.size+1]?=some (.cells #[.int .i64 0,.int .i64 0,.int .i64 0,.int .i64 0,.slice none 0 0,.slice none 0 0] 25 (0,0)):=by
 refine⟨_,rfl,(bz9).alloc (by simp) _,(Below.heap_alloc _ _ _ (by simp)).trans (aD w _),?_⟩
 have:=aD (w.alloc (.cells #[.int .i64 f.k,.int .i64 f.n,.int .i64 f.mn,.int .i64 f.mx,.slice f.rq f.rs.length f.rc,.slice f.kq f.kl f.kc] 25)) (.cells #[.int .i64 0,.int .i64 0,.int .i64 0,.int .i64 0,.slice none 0 0,.slice none 0 0] 25)
 rwa [v9] at this
theorem sY{t u:Tr}{w:World}(hta:TB w t)(hk:t.ks=[u]):∃ g off cap,t.f.kq=some ⟨g,off,none⟩/\t.f.kl=1/\t.f.kc=cap/\g<w.heap.size/\Six w g off u.f:=by
 obtain⟨q,cap,e,h1,h2,h3⟩:=hta.node.k.slice
 injection e with e1 e2 e3
 obtain⟨g,off,hq,hl,hs⟩:=h3 0 u (by rw [hk];rfl)
 exact⟨g,off,cap,e1.trans hq,by rw [e2,hk];rfl,e3,hl,by simpa using hs⟩
theorem jH{R:Ending->World->Prop}{a:Act}{W:World}{b:Nat}{f:Fl}{e:Bool}(h:Six W b 0 f)(ha:a.tmps[2]?.getD undef=.pointer (some ⟨b,0,none⟩))(he:a.tmps[3]?.getD undef=.bool e)(hd:a.defers=[])(hR:R (.returned (.tuple #[.agg #[.int .i64 f.k,.int .i64 f.n,.int .i64 f.mn,.int .i64 f.mx,.slice f.rq f.rs.length f.rc,.slice f.kq f.kl f.kc],.bool e])) W):bodyPost Tryz.prog Tryz.f42 R .ret a W:=by
 obtain⟨z0,z1,z2,z3,z4,z5⟩:=h
 simp only [m7] at z1 z2 z3 z4 z5
 refine bodyPost_ret (v:=.tuple #[.agg #[.int .i64 f.k,.int .i64 f.n,.int .i64 f.mn,.int .i64 f.mx,.slice f.rq f.rs.length f.rc,.slice f.kq f.kl f.kc],.bool e]) ?_ hd hR
 simp [results,Tryz.results42,go_sem,ha,he,z0,z1,z2,z3,z4,z5]
def bK1(f:Fl):Bool:=f.mn==1&&f.mx==1
theorem aD8{t u:Tr}{w:World}(hta:TB w t)(hk:t.ks=[u]):Calls Tryz.prog 42 #[.agg #[.int .i64 t.f.k,.int .i64 t.f.n,.int .i64 t.f.mn,.int .i64 t.f.mx,.slice t.f.rq t.f.rs.length t.f.rc,.slice t.f.kq t.f.kl t.f.kc]] w fun e w'=>e=.returned (.tuple #[.agg #[.int .i64 u.f.k,.int .i64 u.f.n,.int .i64 u.f.mn,.int .i64 u.f.mx,.slice u.f.rq u.f.rs.length u.f.rc,.slice u.f.kq u.f.kl u.f.kc],.bool (bK1 t.f)])/\Below w.heap.size w w':=by
 obtain⟨g,off,cap,q1,q2,q3,hl,hs⟩:=sY hta hk
 obtain⟨uf,hu⟩:∃ x,u.f=x:=⟨_,rfl⟩
 rw [hu] at hs ⊢
 clear hu hta hk
 obtain⟨tf,tks⟩:=t
 obtain⟨fk,fn,fmn,fmx,frs,frq,frc,fkq,fkl,fkc⟩:=tf
 dsimp only [Tr.f] at *
 subst q1 q2 q3
 obtain⟨W,hW,B1,N1,R1⟩:=iK w ⟨fk,fn,fmn,fmx,frs,frq,frc,some ⟨g,off,none⟩,1,fkc⟩
 have s1:=hs.ck (CK.of_below B1) hl
 obtain⟨c0,c1,c2,c3,c4,c5⟩:=N1.six
 simp only [m7] at c1 c2 c3 c4 c5
 obtain⟨d0,d1,d2,d3,d4,d5⟩:=s1
 have r0:=aB R1 (i:=0) rfl
 have r1:=aB R1 (i:=1) rfl
 have r2:=aB R1 (i:=2) rfl
 have r3:=aB R1 (i:=3) rfl
 have r4:=aB R1 (i:=4) rfl
 have r5:=aB R1 (i:=5) rfl
 have fz:=fun z=>aK R1 z
 have P9:=aA (dP W (w.heap.size+1) 0 uf)
 have X9:=aA (dT (b:=w.heap.size+1) (o:=0) (f:=⟨0,0,0,0,[],none,0,none,0,0⟩) (g:=uf) ⟨r0,r1,r2,r3,r4,r5⟩)
 unfold cD at P9 X9
 have BB:=aA B1
 have hm:Hid (bK1 ⟨fk,fn,fmn,fmx,frs,frq,frc,some ⟨g,off,none⟩,1,fkc⟩=(fmn==1&&fmx==1)):=rfl
 rw [hm.out]
 clear hs N1 R1 B1
 cases h1:(fmn==1) with
 | false=>
  go_enter Tryz.func42,Tryz.ntmps42
  go_upto_region 1 with fail
  go_region
  all_goals go_wp2
  all_goals exact jH X9.out.drew rfl rfl rfl ⟨rfl,(bB BB.out P9.out lz9 (fun k e=>by omega)).drew⟩
 | true=>
  cases h2:(fmx==1) with
  | false=>
   go_enter Tryz.func42,Tryz.ntmps42
   go_upto_region 1 with fail
   go_region
   all_goals go_wp2
   all_goals exact jH X9.out.drew rfl rfl rfl ⟨rfl,(bB BB.out P9.out lz9 (fun k e=>by omega)).drew⟩
  | true=>
   go_enter Tryz.func42,Tryz.ntmps42
   go_upto_region 1 with fail
   go_region
   all_goals go_wp2
   all_goals exact jH X9.out.drew rfl rfl rfl ⟨rfl,(bB BB.out P9.out lz9 (fun k e=>by omega)).drew⟩
theorem lF{R:Ending->World->Prop}{a:Act}{W:World}{b:Nat}{f:Fl}{e:Bool}(h:Six W b 0 f)(ha:a.tmps[2]?.getD undef=.pointer (some ⟨b,0,none⟩))(he:a.tmps[3]?.getD undef=.bool e)(hd:a.defers=[])(hR:R (.returned (.tuple #[.agg #[.int .i64 f.k,.int .i64 f.n,.int .i64 f.mn,.int .i64 f.mx,.slice f.rq f.rs.length f.rc,.slice f.kq f.kl f.kc],.bool e])) W):bodyPost Tryz.prog Tryz.f45 R .ret a W:=by
 obtain⟨z0,z1,z2,z3,z4,z5⟩:=h
 simp only [m7] at z1 z2 z3 z4 z5
 refine bodyPost_ret (v:=.tuple #[.agg #[.int .i64 f.k,.int .i64 f.n,.int .i64 f.mn,.int .i64 f.mx,.slice f.rq f.rs.length f.rc,.slice f.kq f.kl f.kc],.bool e]) ?_ hd hR
 simp [results,Tryz.results45,go_sem,ha,he,z0,z1,z2,z3,z4,z5]
theorem nH{t u:Tr}{w:World}(hta:TB w t)(hk:t.ks=[u]):Calls Tryz.prog 45 #[.agg #[.int .i64 t.f.k,.int .i64 t.f.n,.int .i64 t.f.mn,.int .i64 t.f.mx,.slice t.f.rq t.f.rs.length t.f.rc,.slice t.f.kq t.f.kl t.f.kc]] w fun e w'=>e=.returned (.tuple #[.agg #[.int .i64 1,.int .i64 0,.int .i64 0,.int .i64 0,.slice none 0 0,.slice none 0 0],.bool (u.f.k==1)])/\Below w.heap.size w w':=by
 obtain⟨g,off,cap,q1,q2,q3,hl,hs⟩:=sY hta hk
 obtain⟨uf,hu⟩:∃ x,u.f=x:=⟨_,rfl⟩
 rw [hu] at hs ⊢
 clear hu hta hk
 obtain⟨tf,tks⟩:=t
 obtain⟨fk,fn,fmn,fmx,frs,frq,frc,fkq,fkl,fkc⟩:=tf
 dsimp only [Tr.f] at *
 subst q1 q2 q3
 obtain⟨W,hW,B1,N1,R1⟩:=iK w ⟨fk,fn,fmn,fmx,frs,frq,frc,some ⟨g,off,none⟩,1,fkc⟩
 have s1:=hs.ck (CK.of_below B1) hl
 obtain⟨c0,c1,c2,c3,c4,c5⟩:=N1.six
 simp only [m7] at c1 c2 c3 c4 c5
 obtain⟨d0,d1,d2,d3,d4,d5⟩:=s1
 have r0:=aB R1 (i:=0) rfl
 have r1:=aB R1 (i:=1) rfl
 have r2:=aB R1 (i:=2) rfl
 have r3:=aB R1 (i:=3) rfl
 have r4:=aB R1 (i:=4) rfl
 have r5:=aB R1 (i:=5) rfl
 have fz:=fun z=>aK R1 z
 have P9:=aA (dP W (w.heap.size+1) 0 (gB 1))
 have X9:=aA (dT (b:=w.heap.size+1) (o:=0) (f:=⟨0,0,0,0,[],none,0,none,0,0⟩) (g:=gB 1) ⟨r0,r1,r2,r3,r4,r5⟩)
 unfold cD at P9 X9
 have BB:=aA B1
 clear hs N1 R1 B1
 obtain⟨b,hb⟩:∃ b,(uf.k==1)=b:=⟨_,rfl⟩
 rw [hb]
 go_enter Tryz.func45,Tryz.ntmps45
 go_upto_region 1 with fail
 go_region
 all_goals go_wp2
 all_goals exact lF X9.out.drew rfl rfl rfl ⟨rfl,(bB BB.out P9.out lz9 (fun k e=>by omega)).drew⟩
theorem pS{R:Ending->World->Prop}{a:Act}{W:World}{b:Nat}{f:Fl}{e:Bool}(h:Six W b 0 f)(ha:a.tmps[2]?.getD undef=.pointer (some ⟨b,0,none⟩))(he:a.tmps[3]?.getD undef=.bool e)(hd:a.defers=[])(hR:R (.returned (.tuple #[.agg #[.int .i64 f.k,.int .i64 f.n,.int .i64 f.mn,.int .i64 f.mx,.slice f.rq f.rs.length f.rc,.slice f.kq f.kl f.kc],.bool e])) W):bodyPost Tryz.prog Tryz.f44 R .ret a W:=by
 obtain⟨z0,z1,z2,z3,z4,z5⟩:=h
 simp only [m7] at z1 z2 z3 z4 z5
 refine bodyPost_ret (v:=.tuple #[.agg #[.int .i64 f.k,.int .i64 f.n,.int .i64 f.mn,.int .i64 f.mx,.slice f.rq f.rs.length f.rc,.slice f.kq f.kl f.kc],.bool e]) ?_ hd hR
 simp [results,Tryz.results44,go_sem,ha,he,z0,z1,z2,z3,z4,z5]
theorem aO2{t:Tr}{w:World}(hta:TB w t):Calls Tryz.prog 44 #[.agg #[.int .i64 t.f.k,.int .i64 t.f.n,.int .i64 t.f.mn,.int .i64 t.f.mx,.slice t.f.rq t.f.rs.length t.f.rc,.slice t.f.kq t.f.kl t.f.kc]] w fun e w'=>e=.returned (.tuple #[.agg #[.int .i64 1,.int .i64 0,.int .i64 0,.int .i64 0,.slice none 0 0,.slice none 0 0],.bool (t.f.mx==0&&(((if 2000<(pp [] t).length then 0 else aN (pp [] t):Nat):Int)==0))])/\Below w.heap.size w w':=by
 obtain⟨W,hW,B1,N1,R1⟩:=iK w t.f
 obtain⟨c0,c1,c2,c3,c4,c5⟩:=N1.six
 simp only [m7] at c1 c2 c3 c4 c5
 have GC:=aA (aR0 (hta.kept B1))
 obtain⟨G,hG⟩:∃ G:Int,((if 2000<(pp [] t).length then 0 else aN (pp [] t):Nat):Int)=G:=⟨_,rfl⟩
 rw [hG] at GC ⊢
 have BB:=aA B1
 have RR1:=aA R1
 clear hG hta N1 R1 B1
 obtain⟨tf,tks⟩:=t
 obtain⟨fk,fn,fmn,fmx,frs,frq,frc,fkq,fkl,fkc⟩:=tf
 dsimp only [Tr.f] at *
 have hend:∀ W':World,Below W.heap.size W W'->Hid (Six ((((((W'.setCell ⟨w.heap.size+1,0,none⟩ (.int .i64 1)).setCell ⟨w.heap.size+1,1,none⟩ (.int .i64 0)).setCell ⟨w.heap.size+1,2,none⟩ (.int .i64 0)).setCell ⟨w.heap.size+1,3,none⟩ (.int .i64 0)).setCell ⟨w.heap.size+1,4,none⟩ (.slice none 0 0)).setCell ⟨w.heap.size+1,5,none⟩ (.slice none 0 0)) (w.heap.size+1) 0 (gB 1)/\Below w.heap.size w ((((((W'.setCell ⟨w.heap.size+1,0,none⟩ (.int .i64 1)).setCell ⟨w.heap.size+1,1,none⟩ (.int .i64 0)).setCell ⟨w.heap.size+1,2,none⟩ (.int .i64 0)).setCell ⟨w.heap.size+1,3,none⟩ (.int .i64 0)).setCell ⟨w.heap.size+1,4,none⟩ (.slice none 0 0)).setCell ⟨w.heap.size+1,5,none⟩ (.slice none 0 0))):=fun W' hW'=>by
  have R2:=(hW'.block _ (aC RR1.out)).trans RR1.out
  have P9:=dP W' (w.heap.size+1) 0 (gB 1)
  have X9:=dT (b:=w.heap.size+1) (o:=0) (f:=⟨0,0,0,0,[],none,0,none,0,0⟩) (g:=gB 1) ⟨aB R2 (i:=0) rfl,aB R2 (i:=1) rfl,aB R2 (i:=2) rfl,aB R2 (i:=3) rfl,aB R2 (i:=4) rfl,aB R2 (i:=5) rfl⟩
  exact⟨X9,bB (aG BB.out hW' lz9) P9 lz9 (fun k e=>by omega)⟩
 cases h1:(fmx==0) with
 | false=>
  have E0:=hend W (Below.refl _ _)
  have r0:=aB RR1.out (i:=0) rfl
  have r1:=aB RR1.out (i:=1) rfl
  have r2:=aB RR1.out (i:=2) rfl
  have r3:=aB RR1.out (i:=3) rfl
  have r4:=aB RR1.out (i:=4) rfl
  have r5:=aB RR1.out (i:=5) rfl
  have fz:=fun z=>aK RR1.out z
  clear hend GC
  go_enter Tryz.func44,Tryz.ntmps44
  go_wp2
  exact pS E0.out.1 rfl rfl rfl ⟨rfl,E0.out.2⟩
 | true=>
  obtain⟨b,hb⟩:∃ b,(G==0)=b:=⟨_,rfl⟩
  rw [hb]
  go_enter Tryz.func44,Tryz.ntmps44
  go_wp2_with (go_at_call 68;(with_reducible refine GC.out.mono ?_);rintro e w5 ⟨rfl,h5⟩;have E0:=hend w5 h5;have R5:=(h5.block _ (aC RR1.out)).trans RR1.out;have r0:=aB R5 (i:=0) rfl;have r1:=aB R5 (i:=1) rfl;have r2:=aB R5 (i:=2) rfl;have r3:=aB R5 (i:=3) rfl;have r4:=aB R5 (i:=4) rfl;have r5:=aB R5 (i:=5) rfl;have fz:=fun z=>aK R5 z;clear h5 hend R5)
  exact pS E0.out.1 rfl rfl rfl ⟨rfl,E0.out.2⟩
end
section
attribute [local go_sem] Oper.semAt_some
theorem aG4(f:Fl)(w:World):Calls Tryz.prog 70 #[.agg #[.int .i64 f.k,.int .i64 f.n,.int .i64 f.mn,.int .i64 f.mx,.slice f.rq f.rs.length f.rc,.slice f.kq f.kl f.kc]] w fun e w'=>e=.returned (.bool (f.k==1))/\Below w.heap.size w w':=by
 have B1:Hid (Below w.heap.size w (w.alloc (.cells #[.int .i64 f.k,.int .i64 f.n,.int .i64 f.mn,.int .i64 f.mx,.slice f.rq f.rs.length f.rc,.slice f.kq f.kl f.kc] 25))):=bz9
 have N1:Hid (BoxN (w.alloc (.cells #[.int .i64 f.k,.int .i64 f.n,.int .i64 f.mn,.int .i64 f.mx,.slice f.rq f.rs.length f.rc,.slice f.kq f.kl f.kc] 25)) w.heap.size f):=aD w _
 obtain⟨c0,-⟩:=N1.out.six
 go_enter Tryz.func70,Tryz.ntmps70
 go_wp2
 go_ret
 exact⟨rfl,B1.out⟩
theorem aI7{a u:Tr}{b:Nat}{w:World}(hb:BoxN w b a.f)(ha:TB w a)(hu:TB w u)(la:(pp [] a).length<=2000)(lu:(pp [] u).length<=2000):Calls Tryz.prog 74 #[.agg #[.int .i64 u.f.k,.int .i64 u.f.n,.int .i64 u.f.mn,.int .i64 u.f.mx,.slice u.f.rq u.f.rs.length u.f.rc,.slice u.f.kq u.f.kl u.f.kc],.pointer (some ⟨b,0,none⟩)] w fun e w'=>e=.returned (.bool (eQ (er a) (er u)))/\Below w.heap.size w w':=by
 have B1:Hid (Below w.heap.size w (w.alloc (.cells #[.int .i64 u.f.k,.int .i64 u.f.n,.int .i64 u.f.mn,.int .i64 u.f.mx,.slice u.f.rq u.f.rs.length u.f.rc,.slice u.f.kq u.f.kl u.f.kc] 25))):=bz9
 have N1:Hid (BoxN (w.alloc (.cells #[.int .i64 u.f.k,.int .i64 u.f.n,.int .i64 u.f.mn,.int .i64 u.f.mx,.slice u.f.rq u.f.rs.length u.f.rc,.slice u.f.kq u.f.kl u.f.kc] 25)) w.heap.size u.f):=aD w _
 have M1:Hid (BoxN (w.alloc (.cells #[.int .i64 u.f.k,.int .i64 u.f.n,.int .i64 u.f.mn,.int .i64 u.f.mx,.slice u.f.rq u.f.rs.length u.f.rc,.slice u.f.kq u.f.kl u.f.kc] 25)) b a.f):=(B1.out.block _ (aC hb)).trans hb
 obtain⟨c0,c1,c2,c3,c4,c5⟩:=N1.out.six
 obtain⟨d0,d1,d2,d3,d4,d5⟩:=M1.out.six
 simp only [m7] at c1 c2 c3 c4 c5 d1 d2 d3 d4 d5
 have SC:Hid (Calls Tryz.prog 75 #[.agg #[.int .i64 a.f.k,.int .i64 a.f.n,.int .i64 a.f.mn,.int .i64 a.f.mx,.slice a.f.rq a.f.rs.length a.f.rc,.slice a.f.kq a.f.kl a.f.kc],.agg #[.int .i64 u.f.k,.int .i64 u.f.n,.int .i64 u.f.mn,.int .i64 u.f.mx,.slice u.f.rq u.f.rs.length u.f.rc,.slice u.f.kq u.f.kl u.f.kc]] (w.alloc (.cells #[.int .i64 u.f.k,.int .i64 u.f.n,.int .i64 u.f.mn,.int .i64 u.f.mx,.slice u.f.rq u.f.rs.length u.f.rc,.slice u.f.kq u.f.kl u.f.kc] 25)) fun e w'=>e=.returned (.bool (eQ (er a) (er u)))/\Below (w.alloc (.cells #[.int .i64 u.f.k,.int .i64 u.f.n,.int .i64 u.f.mn,.int .i64 u.f.mx,.slice u.f.rq u.f.rs.length u.f.rc,.slice u.f.kq u.f.kl u.f.kc] 25)).heap.size (w.alloc (.cells #[.int .i64 u.f.k,.int .i64 u.f.n,.int .i64 u.f.mn,.int .i64 u.f.mx,.slice u.f.rq u.f.rs.length u.f.rc,.slice u.f.kq u.f.kl u.f.kc] 25)) w'):=aA ((aX7 (ha.kept B1.out) (hu.kept B1.out)).mono fun e w' ⟨h1,h2⟩=>⟨by rw [h1,r9 (by omega),r9 (by omega)];rfl,h2⟩)
 obtain⟨r,hr⟩:∃ r,eQ (er a) (er u)=r:=⟨_,rfl⟩
 rw [hr] at SC ⊢
 clear hr ha hu hb la lu
 go_enter Tryz.func74,Tryz.ntmps74
 go_wp2_with (go_at_call 75;(with_reducible refine SC.out.mono ?_);rintro e w5 ⟨rfl,h5⟩;have B5:=aA (aG B1.out h5 lz9);clear h5)
 go_ret
 exact⟨rfl,B5.out⟩
structure IxP(i:Int)(b:Bool):Prop where
 h:0<=i↔b=true
def vA(u:Tr):Bool:=u.f.k==1
noncomputable def twB (a u:Tr):Bool:=eQ (er a) (er u)
theorem aQ5{w:World}{xs:List Tr}{q:Option Addr}{l c:Nat}(hx:ArgK w (.slice q l c) xs){P:Tr->Bool}(cc:∀ u∈xs,∀ W,Below w.heap.size w W->Calls Tryz.prog 70 #[.agg #[.int .i64 u.f.k,.int .i64 u.f.n,.int .i64 u.f.mn,.int .i64 u.f.mx,.slice u.f.rq u.f.rs.length u.f.rc,.slice u.f.kq u.f.kl u.f.kc]] W fun e w'=>e=.returned (.bool (P u))/\Below W.heap.size W w') :
  Calls Tryz.prog 87 #[.slice q l c,.func (.func 70) #[] #[]] w fun e w'=>∃ i:Int,e=.returned (.int .i64 i)/\IxP i (xs.any P)/\Below w.heap.size w w':=by
 obtain⟨q',cap',e2,hm2,hcp2,hx2⟩:=hx.slice
 injection e2 with e21 e22 e23
 subst e21 e22 e23
 have H1:=aA hx2
 have CC:=aA cc
 have hm:xs.length<=9223372036854775807:=hm2
 clear hx2 hx hm2 cc
 go_enter Tryz.func87,Tryz.ntmps87
 go_wp2
 go_loopw [8] (fun i wr=>∃ j:Nat,j<=xs.length/\i=.int .i64 (j:Int)/\(xs.take j).any P=false/\Below w.heap.size w wr) (fun i _=>xs.length-(intOf i).toNat)
 case atStart=>exact⟨0,o9 _,rfl,rfl,Below.refl _ _⟩
 case round=>
  obtain⟨j,hj,rfl,hpre,hbel⟩:=hrel
  have HP:=aA hpre
  have HB:=aA hbel
  clear hpre hbel
  by_cases hjl:j<xs.length
  ·have i0:(j:Int)<(xs.length:Int):=by omega
   obtain⟨a9,hga⟩:∃ a,xs[j]?=some a:=⟨_,g9 hjl⟩
   obtain⟨g1,o1,hq1,hl1,six1⟩:=H1.out j a9 hga
   have GA:=aA hga
   obtain⟨c0,c1,c2,c3,c4,c5⟩:=six1.ck (CK.of_below HB.out) hl1
   have HC:=aA (CC.out a9 (n8 hga) wr HB.out)
   obtain⟨sb,hsb⟩:∃ sb,P a9=sb:=⟨_,rfl⟩
   have HSB:=aA hsb
   rw [hsb] at HC
   rw [hq1]
   clear six1 hga hsb
   cases sb with
   | true=>
    have HN:Hid (IxP (j:Int) (xs.any P)):=⟨⟨fun _=>aAX.2 ⟨a9,n8 GA.out,HSB.out⟩,fun _=>by omega⟩⟩
    go_wp2_with (go_at_call 70;(with_reducible refine(HC.out).mono ?_);rintro e w5 ⟨rfl,h5⟩;have B5:Hid (Below w.heap.size w w5):=aG HB.out h5 lz9;clear h5)
    go_ret
    exact⟨_,rfl,HN.out,B5.out⟩
   | false=>
    have HN:=aA (show (xs.take (j+1)).any P=false by rw [s7,GA.out,List.any_append,HP.out];simpa using HSB.out)
    go_wp2_with (go_at_call 70;(with_reducible refine(HC.out).mono ?_);rintro e w5 ⟨rfl,h5⟩;have B5:Hid (Below w.heap.size w w5):=aG HB.out h5 lz9;clear h5)
    go_roundw
    case rel=>exact⟨j+1,by omega,by go_num,HN.out,B5.out⟩
    case measure=>simp only [intOf];omega
  ·have i0:¬ (j:Int)<(xs.length:Int):=by omega
   have HN:Hid (IxP (-1) (xs.any P)):=by
    have:=HP.out
    rw [o4 (by omega)] at this
    refine⟨⟨fun h=>by omega,fun h=>?_⟩⟩
    rw [this] at h
    cases h
   go_wp2
   go_ret
   exact⟨_,rfl,HN.out,HB.out⟩
theorem vO{w:World}{xs:List Tr}{q:Option Addr}{l c:Nat}(hx:ArgK w (.slice q l c) xs) :
  Calls Tryz.prog 69 #[.slice q l c,.func (.func 70) #[] #[]] w fun e w'=>e=.returned (.bool (xs.any vA))/\Below w.heap.size w w':=by
 have HI:=aA (aQ5 hx (P:=vA) (fun u _ W _=>aG4 u.f W))
 obtain⟨r,hr⟩:∃ r,xs.any vA=r:=⟨_,rfl⟩
 rw [hr] at HI ⊢
 clear hr
 go_enter Tryz.func69,Tryz.ntmps69
 go_wp2_with (go_at_call 87;(with_reducible refine HI.out.mono ?_);rintro e w5 ⟨i,rfl,h4,h5⟩;have I5:=aA h4;have B5:=aA h5;clear h5 h4)
 go_ret
 refine⟨?_,B5.out⟩
 have:=I5.out.h
 cases r with
 | true=>have h:=this.2 rfl;simp [h]
 | false=>
  have h:¬ 0<=i:=fun q=>by have:=this.1 q;cases this
  simp only [h,decide_false];rfl
theorem aQ4{w:World}{xs:List Tr}{q:Option Addr}{l c:Nat}(hx:ArgK w (.slice q l c) xs){b:Nat}{P:Tr->Bool}(cc:∀ u∈xs,∀ W,Below w.heap.size w W->Calls Tryz.prog 74 #[.agg #[.int .i64 u.f.k,.int .i64 u.f.n,.int .i64 u.f.mn,.int .i64 u.f.mx,.slice u.f.rq u.f.rs.length u.f.rc,.slice u.f.kq u.f.kl u.f.kc],.pointer (some ⟨b,0,none⟩)] W fun e w'=>e=.returned (.bool (P u))/\Below W.heap.size W w') :
  Calls Tryz.prog 87 #[.slice q l c,.func (.func 74) #[] #[.pointer (some ⟨b,0,none⟩)]] w fun e w'=>∃ i:Int,e=.returned (.int .i64 i)/\IxP i (xs.any P)/\Below w.heap.size w w':=by
 obtain⟨q',cap',e2,hm2,hcp2,hx2⟩:=hx.slice
 injection e2 with e21 e22 e23
 subst e21 e22 e23
 have H1:=aA hx2
 have CC:=aA cc
 have hm:xs.length<=9223372036854775807:=hm2
 clear hx2 hx hm2 cc
 go_enter Tryz.func87,Tryz.ntmps87
 go_wp2
 go_loopw [8] (fun i wr=>∃ j:Nat,j<=xs.length/\i=.int .i64 (j:Int)/\(xs.take j).any P=false/\Below w.heap.size w wr) (fun i _=>xs.length-(intOf i).toNat)
 case atStart=>exact⟨0,o9 _,rfl,rfl,Below.refl _ _⟩
 case round=>
  obtain⟨j,hj,rfl,hpre,hbel⟩:=hrel
  have HP:=aA hpre
  have HB:=aA hbel
  clear hpre hbel
  by_cases hjl:j<xs.length
  ·have i0:(j:Int)<(xs.length:Int):=by omega
   obtain⟨a9,hga⟩:∃ a,xs[j]?=some a:=⟨_,g9 hjl⟩
   obtain⟨g1,o1,hq1,hl1,six1⟩:=H1.out j a9 hga
   have GA:=aA hga
   obtain⟨c0,c1,c2,c3,c4,c5⟩:=six1.ck (CK.of_below HB.out) hl1
   have HC:=aA (CC.out a9 (n8 hga) wr HB.out)
   obtain⟨sb,hsb⟩:∃ sb,P a9=sb:=⟨_,rfl⟩
   have HSB:=aA hsb
   rw [hsb] at HC
   rw [hq1]
   clear six1 hga hsb
   cases sb with
   | true=>
    have HN:Hid (IxP (j:Int) (xs.any P)):=⟨⟨fun _=>aAX.2 ⟨a9,n8 GA.out,HSB.out⟩,fun _=>by omega⟩⟩
    go_wp2_with (go_at_call 74;(with_reducible refine(HC.out).mono ?_);rintro e w5 ⟨rfl,h5⟩;have B5:Hid (Below w.heap.size w w5):=aG HB.out h5 lz9;clear h5)
    go_ret
    exact⟨_,rfl,HN.out,B5.out⟩
   | false=>
    have HN:=aA (show (xs.take (j+1)).any P=false by rw [s7,GA.out,List.any_append,HP.out];simpa using HSB.out)
    go_wp2_with (go_at_call 74;(with_reducible refine(HC.out).mono ?_);rintro e w5 ⟨rfl,h5⟩;have B5:Hid (Below w.heap.size w w5):=aG HB.out h5 lz9;clear h5)
    go_roundw
    case rel=>exact⟨j+1,by omega,by go_num,HN.out,B5.out⟩
    case measure=>simp only [intOf];omega
  ·have i0:¬ (j:Int)<(xs.length:Int):=by omega
   have HN:Hid (IxP (-1) (xs.any P)):=by
    have:=HP.out
    rw [o4 (by omega)] at this
    refine⟨⟨fun h=>by omega,fun h=>?_⟩⟩
    rw [this] at h
    cases h
   go_wp2
   go_ret
   exact⟨_,rfl,HN.out,HB.out⟩
theorem vM{w:World}{xs:List Tr}{q:Option Addr}{l c:Nat}(hx:ArgK w (.slice q l c) xs){a:Tr}{b:Nat}(hb:BoxN w b a.f)(ha:TB w a)(hu:∀ u∈xs,TB w u)(la:(pp [] a).length<=2000)(lu:∀ u∈xs,(pp [] u).length<=2000) :
  Calls Tryz.prog 69 #[.slice q l c,.func (.func 74) #[] #[.pointer (some ⟨b,0,none⟩)]] w fun e w'=>e=.returned (.bool (xs.any (twB a)))/\Below w.heap.size w w':=by
 have HI:=aA (aQ4 hx (P:=(twB a)) (fun u hu1 W hW=>aI7 ((hW.block _ (aC hb)).trans hb) (ha.kept hW) ((hu u hu1).kept hW) la (lu u hu1)))
 obtain⟨r,hr⟩:∃ r,xs.any (twB a)=r:=⟨_,rfl⟩
 rw [hr] at HI ⊢
 clear hr
 go_enter Tryz.func69,Tryz.ntmps69
 go_wp2_with (go_at_call 87;(with_reducible refine HI.out.mono ?_);rintro e w5 ⟨i,rfl,h4,h5⟩;have I5:=aA h4;have B5:=aA h5;clear h5 h4)
 go_ret
 refine⟨?_,B5.out⟩
 have:=I5.out.h
 cases r with
 | true=>have h:=this.2 rfl;simp [h]
 | false=>
  have h:¬ 0<=i:=fun q=>by have:=this.1 q;cases this
  simp only [h,decide_false];rfl
end
section
attribute [local go_sem] Oper.semAt_some
def RSays(base:Nat)(w:World)(o:Option Er)(e:Ending)(w':World):Prop:=∃ f':Fl,e=.returned (.tuple #[.agg #[.int .i64 f'.k,.int .i64 f'.n,.int .i64 f'.mn,.int .i64 f'.mx,.slice f'.rq f'.rs.length f'.rc,.slice f'.kq f'.kl f'.kc],.bool o.isSome])/\Below w.heap.size w w'/\∀ x,o=some x->∃ t':Tr,t'.f=f'/\TA w' t'/\Foot (fun k=>base<=k) t'/\er t'=x
theorem oP{w W:World}{b:Nat}(t:Tr)(hb:Below w.heap.size w W)(hr:W.heap[b]?=some (.cells #[.int .i64 0,.int .i64 0,.int .i64 0,.int .i64 0,.slice none 0 0,.slice none 0 0] 25 (0,0)))(h0:w.heap.size<=b)(ht:TA W t)(hf:Foot (fun k=>b<k) t) :
  Six (cD W b 0 t.f) b 0 t.f/\Below w.heap.size w (cD W b 0 t.f)/\TA (cD W b 0 t.f) t:=by
 have P9:=dP W b 0 t.f
 have X9:=dT (b:=b) (o:=0) (f:=⟨0,0,0,0,[],none,0,none,0,0⟩) (g:=t.f) ⟨aB hr (i:=0) rfl,aB hr (i:=1) rfl,aB hr (i:=2) rfl,aB hr (i:=3) rfl,aB hr (i:=4) rfl,aB hr (i:=5) rfl⟩
 exact⟨X9,bB hb P9 lz9 (fun k e=>by omega),ht.ckN hf (P9.ckeep (fun k e z=>by omega))⟩
theorem mF{w W:World}{b:Nat}(hb:Below w.heap.size w W)(hr:W.heap[b]?=some (.cells #[.int .i64 0,.int .i64 0,.int .i64 0,.int .i64 0,.slice none 0 0,.slice none 0 0] 25 (0,0)))(h0:w.heap.size<=b) :
  Six (cD W b 0 (gB 0)) b 0 (gB 0)/\Below w.heap.size w (cD W b 0 (gB 0)):=by
 have P9:=dP W b 0 (gB 0)
 have X9:=dT (b:=b) (o:=0) (f:=⟨0,0,0,0,[],none,0,none,0,0⟩) (g:=gB 0) ⟨aB hr (i:=0) rfl,aB hr (i:=1) rfl,aB hr (i:=2) rfl,aB hr (i:=3) rfl,aB hr (i:=4) rfl,aB hr (i:=5) rfl⟩
 exact⟨X9,bB hb P9 lz9 (fun k e=>by omega)⟩
theorem gE{R:Ending->World->Prop}{a:Act}{W:World}{b:Nat}{f:Fl}{e:Bool}(h:Six W b 0 f)(ha:a.tmps[2]?.getD undef=.pointer (some ⟨b,0,none⟩))(he:a.tmps[3]?.getD undef=.bool e)(hd:a.defers=[])(hR:R (.returned (.tuple #[.agg #[.int .i64 f.k,.int .i64 f.n,.int .i64 f.mn,.int .i64 f.mx,.slice f.rq f.rs.length f.rc,.slice f.kq f.kl f.kc],.bool e])) W):bodyPost Tryz.prog Tryz.f46 R .ret a W:=by
 obtain⟨z0,z1,z2,z3,z4,z5⟩:=h
 simp only [m7] at z1 z2 z3 z4 z5
 refine bodyPost_ret (v:=.tuple #[.agg #[.int .i64 f.k,.int .i64 f.n,.int .i64 f.mn,.int .i64 f.mx,.slice f.rq f.rs.length f.rc,.slice f.kq f.kl f.kc],.bool e]) ?_ hd hR
 simp [results,Tryz.results46,go_sem,ha,he,z0,z1,z2,z3,z4,z5]
theorem oI{t:Tr}{w:World}(hta:TA w t)(hs:t.sz<=2000):Calls Tryz.prog 46 #[.agg #[.int .i64 t.f.k,.int .i64 t.f.n,.int .i64 t.f.mn,.int .i64 t.f.mx,.slice t.f.rq t.f.rs.length t.f.rc,.slice t.f.kq t.f.kl t.f.kc]] w (RSays w.heap.size w (if t.ks.any vA then some (gI 5 ((t.ks.flatMap dX).map er) (.mk 1 0 0 0 [] [])) else none)):=by
 obtain⟨W,hW,B1,N1,R1⟩:=iK w t.f
 have T1:=hta.kept B1
 have hk1:=T1.node.k
 have hkl:=T1.node.kl
 have hsz:szs t.ks<1000000:=by have:=dA t;omega
 have EC:=aA (vO (w:=W) (xs:=t.ks) hk1)
 have K1:=aA T1
 obtain⟨c0,c1,c2,c3,c4,c5⟩:=N1.six
 simp only [m7] at c1 c2 c3 c4 c5
 have BB:=aA B1
 have RR1:=aA R1
 have NN1:=aA N1
 have HS:=aA hsz
 have HKL:=aA hkl
 clear hta hs N1 R1 B1 T1 hk1 hsz hkl
 cases he:t.ks.any vA with
 | false=>
  rw [he] at EC
  rw [if_neg (by decide)]
  go_enter Tryz.func46,Tryz.ntmps46
  go_wp2_with (go_at_call 69;(with_reducible refine EC.out.mono ?_);rintro e w5 ⟨rfl,h5⟩;have R5:=(h5.block _ (aC RR1.out)).trans RR1.out;have E0:=aA (mF (aG BB.out h5 lz9) R5 (aCA _));have r0:=aB R5 (i:=0) rfl;have r1:=aB R5 (i:=1) rfl;have r2:=aB R5 (i:=2) rfl;have r3:=aB R5 (i:=3) rfl;have r4:=aB R5 (i:=4) rfl;have r5:=aB R5 (i:=5) rfl;have fz:=fun z=>aK R5 z;clear h5 R5)
  exact gE E0.out.1 rfl rfl rfl ⟨gB 0,rfl,E0.out.2,fun x hx=>by cases hx⟩
 | true=>
  rw [he] at EC
  rw [if_pos rfl]
  obtain⟨X,hX⟩:∃ X,gI 5 ((t.ks.flatMap dX).map er) (.mk 1 0 0 0 [] [])=X:=⟨_,rfl⟩
  have CAT:Hid (∀ V,Below W.heap.size W V->Calls Tryz.prog 71 #[.slice t.f.kq t.f.kl t.f.kc] V (jZ V X)):=aA fun V hV=>by
   have TV:=K1.out.kept hV
   have hk:=TV.node.k
   rw [HKL.out] at hk ⊢
   rw [<- hX]
   exact bP6 hk (fun u hu=>TV.kid hu) HS.out
  rw [hX]
  clear hX
  go_enter Tryz.func46,Tryz.ntmps46
  go_upto_region 3 with (go_at_call 69;(with_reducible refine EC.out.mono ?_);rintro e w5 ⟨rfl,h5⟩;have B5:=aA h5;clear h5)
  have C5:=aA (CAT.out w5 B5.out)
  have R5:=aA ((B5.out.block _ (aC RR1.out)).trans RR1.out)
  have k5:w5.cell? ⟨w.heap.size,5,none⟩=some (.slice t.f.kq t.f.kl t.f.kc):=(B5.out.cell (p:=⟨w.heap.size,5,none⟩) (aC NN1.out)).trans c5
  have BC:=aA (aG BB.out B5.out lz9)
  clear CAT EC B5
  go_wp2_with (go_at_call 71;(with_reducible refine C5.out.mono ?_);rintro e w6 ⟨t6,rfl,h61,h62,h63,h64⟩;have R6:=(h64.block _ (aC R5.out)).trans R5.out;have E0:=aA (oP t6 (aG BC.out h64 lz9) R6 (aCA _) h61 (h62.mono fun k hk=>o8 (aC R5.out) hk));have F0:=aA (h62.mono fun k (hk:w5.heap.size<=k)=>o0 BC.out.size hk);have r0:=aB R6 (i:=0) rfl;have r1:=aB R6 (i:=1) rfl;have r2:=aB R6 (i:=2) rfl;have r3:=aB R6 (i:=3) rfl;have r4:=aB R6 (i:=4) rfl;have r5:=aB R6 (i:=5) rfl;have fz:=fun z=>aK R6 z;have HX:=aA h63;clear h61 h62 h63 h64 R6)
  exact gE E0.out.1 rfl rfl rfl ⟨t6.f,rfl,E0.out.2.1,fun x hx=>⟨t6,rfl,E0.out.2.2,F0.out,by cases hx;exact HX.out⟩⟩
end
end Go.Proofs.YtlamifbjklpdbaaGreat
