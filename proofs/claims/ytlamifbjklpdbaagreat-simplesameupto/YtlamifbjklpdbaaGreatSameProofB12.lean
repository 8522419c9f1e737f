/-
  Parts of the proof.
-/
import Derived.Test.YtlamifbjklpdbaaGreatSameProofA0
import Derived.Test.YtlamifbjklpdbaaGreatSameProofB11
import Derived.Test.YtlamifbjklpdbaaGreatSameProofB9
import Derived.Test.YtlamifbjklpdbaaGreatSameProofB8
import Derived.Deep.MidRow
set_option linter.unusedSimpArgs false
set_option maxRecDepth 100000
set_option maxHeartbeats 8000000
namespace Go.Proofs.YtlamifbjklpdbaaGreat
open Go Go.RowKit
section
attribute [local go_sem] Oper.semAt_some aU
variable {H:Gh} {rs rs' rs'':List (Option Nat)} {wk:Int} {mu:Bool}
structure AI12(H:Gh)(w:World)(rs:List (Option Nat))(wk:Int)(mu:Bool)(kq:Option Addr)(kc i:Nat)(ks:List Tr)(g N:Nat)(P:Nat->Prop)(rs':List (Option Nat))(is:List Bool)(V:World):Prop where
 ps:PS H w rs wk mu V rs'
 kl:Ls12 w.heap.size V kq kc (fM i ks)
 br:BR w.heap.size V g N is
 ln:is.length=N
 m:∀ j,is[j]?=some true↔P j
theorem mM{base g c:Nat}{V:World}{is:List Bool}(h:BR base V g c is):∀ k,k=g->∃ cs ty,V.heap[k]?=some (.cells cs ty (0,0))/\ty≠3:=fun k e=>by
 subst e
 obtain⟨cs,hc⟩:=h.ty
 exact⟨cs,_,hc,by decide⟩
theorem mG{L:Ln}{t:Tr}(h:PlT L t):∀ v∈t.ks,PlT L v:=fun _ hv=>cB h hv
theorem xM{n:Nat}(hp:PlC H n)(hk:Gk H){w:World}(hw:WM H w rs wk mu){i a:Nat}{z:Zl}(hz:H.Z[i]?=some z)(hn:z.1.2.sz<=n+1)(hpl:PlT H.L z.1.2)(ha:a<=H.L.s.size)(hkd:z.1.2.f.k=6) :
  Calls Tryz.prog 78 #[.pointer (some ⟨H.b,0,none⟩),.int .i64 (i:Int),.int .i64 (a:Int)] w (iZ H w rs wk mu z.1.2 a):=by
 have HKD:=aA hkd
 clear hkd
 have HK:=aA hk
 have HZ:=aA hz
 have HSZ:=aA hn
 have hil:=(m8.1 hz).1
 have iil:(i:Int)<(H.Z.length:Int):=by omega
 have hlen:=hk.len
 have hsm:=hk.sm
 have HBS:Hid (H.base<=w.heap.size):=aA (o0 hw.bb (aBC hw.b_lt))
 have HPB:=aA hw.pb_lt
 have HPL:=aA hpl
 have HP:=aA hp
 have HNP:=aA (((aI z.1.2).1 (hk.npz hz)).1)
 have c0:=hw.cell (i:=0) rfl
 have c1:=hw.cell (i:=1) rfl
 have y0:=hw.z.cells hz (j:=0) (v:=.int .i64 z.1.2.f.k) rfl
 have y1:=hw.z.cells hz (j:=1) (v:=.int .i64 z.1.2.f.n) rfl
 have y2:=hw.z.cells hz (j:=2) (v:=.int .i64 z.1.2.f.mn) rfl
 have y3:=hw.z.cells hz (j:=3) (v:=.int .i64 z.1.2.f.mx) rfl
 have y4:=hw.z.cells hz (j:=4) (v:=.slice z.1.2.f.rq z.1.2.f.rs.length z.1.2.f.rc) rfl
 have y5:=hw.z.cells hz (j:=5) (v:=.slice z.1.2.f.kq z.1.2.f.kl z.1.2.f.kc) rfl
 rw [aAJ] at y0
 obtain⟨N,hN⟩:∃ N,H.L.s.size+1=N:=⟨_,rfl⟩
 have hwN:IntKind.wrap .i64 ((H.L.s.size:Int)+1)=(N:Int):=by rw [wrap_small _ (by omega) (by omega)];omega
 have MB:=eA N (by omega)
 have HN:=aA hN
 have hN1:N<=1001:=by omega
 have haN:(a:Int)<(N:Int):=by omega
 clear hN
 have B0:Hid (Below w.heap.size w (w.alloc (.cells #[.int .i64 z.1.2.f.k,.int .i64 z.1.2.f.n,.int .i64 z.1.2.f.mn,.int .i64 z.1.2.f.mx,.slice z.1.2.f.rq z.1.2.f.rs.length z.1.2.f.rc,.slice z.1.2.f.kq z.1.2.f.kl z.1.2.f.kc] 25))):=bz9
 have N0:Hid (BoxN (w.alloc (.cells #[.int .i64 z.1.2.f.k,.int .i64 z.1.2.f.n,.int .i64 z.1.2.f.mn,.int .i64 z.1.2.f.mx,.slice z.1.2.f.rq z.1.2.f.rs.length z.1.2.f.rc,.slice z.1.2.f.kq z.1.2.f.kl z.1.2.f.kc] 25)) w.heap.size z.1.2.f):=aD w _
 have P0:Hid (PS H w rs wk mu (w.alloc (.cells #[.int .i64 z.1.2.f.k,.int .i64 z.1.2.f.n,.int .i64 z.1.2.f.mn,.int .i64 z.1.2.f.mx,.slice z.1.2.f.rq z.1.2.f.rs.length z.1.2.f.rc,.slice z.1.2.f.kq z.1.2.f.kl z.1.2.f.kc] 25)) rs):=(PS.refl hw).below B0.out
 clear hw hk hz hn hpl hp
 go_enter Tryz.func78,Tryz.ntmps78
 go_upto_region 2 with fail
 generalize (w.alloc (.cells #[.int .i64 z.1.2.f.k,.int .i64 z.1.2.f.n,.int .i64 z.1.2.f.mn,.int .i64 z.1.2.f.mx,.slice z.1.2.f.rq z.1.2.f.rs.length z.1.2.f.rc,.slice z.1.2.f.kq z.1.2.f.kl z.1.2.f.kc] 25))=w1 at B0 N0 P0 ⊢
 have d1:=P0.out.wm.cell (i:=1) rfl
 clear c0 c1 y0 y1 y2 y3 y4 y5
 go_upto_region 3 with fail
 have B2:Hid (Below w1.heap.size w1 (w1.alloc (.cells (noC N) 4))):=bz9
 have R2:Hid (BR w.heap.size (w1.alloc (.cells (noC N) 4)) w1.heap.size N (cJ N)):=iW B0.out.size (by omega)
 have P2:=aA (P0.out.below B2.out)
 have N2:Hid (BoxN (w1.alloc (.cells (noC N) 4)) w.heap.size z.1.2.f):=(B2.out.block _ (aC N0.out)).trans N0.out
 generalize (w1.alloc (.cells (noC N) 4))=w2 at R2 P2 N2 ⊢
 generalize w1.heap.size=g2 at R2 ⊢
 clear d1 B0 N0 P0 B2
 have HNL:Hid ((cJ N).length=N):=aA (cZ N)
 obtain⟨n0,n1,n2,n3,n4,n5⟩:=N2.out.six
 simp only [m7] at n1 n2 n3 n4 n5
 have e5:(z.1.2.f.k==5)=false:=by rw [HKD.out];rfl
 have e6:(z.1.2.f.k==6)=true:=by rw [HKD.out];rfl
 have HPS:Hid (∀ x,Pz H.L z.1.2 a x↔MtA H.L z.1.2.ks ⟨a,[]⟩ ⟨x,[]⟩):=fun x=>bJ8 HKD.out a x
 have KC:=aA (jP HK.out P2.out.wm HZ.out)
 go_upto_region 24 with (go_at_call 52;(with_reducible refine(KC.out).mono ?_);rintro e w3 ⟨kq,kc,rfl,h31,h32⟩;have K3:=aA h31;have B3:=aA h32;clear h31 h32)
 have A3:Hid (AI12 H w rs wk mu kq kc i z.1.2.ks g2 N (fun x=>MtA H.L (z.1.2.ks.take 0) ⟨a,[]⟩ ⟨x,[]⟩) rs (cJ N) w3):=
  ⟨P2.out.below B3.out,K3.out.mono P2.out.f.size,R2.out.kept B3.out,HNL.out,fun j=>⟨fun h=>absurd h dW,fun h=>by rw [aAL,cF] at h;obtain⟨u,hu,-⟩:=h;cases hu⟩⟩
 have hkl:(fM i z.1.2.ks).length=z.1.2.ks.length:=dI i z.1.2.ks
 have hk2:z.1.2.ks.length<=2000:=by
  have h1:=eY z.1.2.ks
  have h2:=dA z.1.2
  have h3:=HK.out.te i z HZ.out
  obtain⟨r,hr⟩:=seg H.t [] i z.1 (HK.out.at HZ.out)
  have h5:=congrArg List.length hr
  rw [o5,bL,aAR] at h5
  have h4:=congrArg List.length HK.out.mp
  rw [aAC] at h4
  omega
 rw [hkl]
 clear n0 n1 n2 n3 n4 n5 N2 R2 P2 K3 B3 hkl
 go_loopw [15] (fun jv wr=>∃ (j:Nat) (rs':List (Option Nat)) (is:List Bool),j<=z.1.2.ks.length/\jv=.int .i64 (j:Int)/\AI12 H w rs wk mu kq kc i z.1.2.ks g2 N (fun x=>MtA H.L (z.1.2.ks.take j) ⟨a,[]⟩ ⟨x,[]⟩) rs' is wr) (fun jv _=>z.1.2.ks.length-(intOf jv).toNat)
 case atStart=>exact⟨0,rs,cJ N,o9 _,rfl,A3.out⟩
 case round=>
  obtain⟨j,rs4,is,hj,rfl,ha4⟩:=hrel
  have A4:=aA ha4
  clear ha4
  by_cases hjl:j<z.1.2.ks.length
  ·have i0:(j:Int)<(z.1.2.ks.length:Int):=by omega
   have hw2:IntKind.wrap .i64 ((j:Int)+1)=(j:Int)+1:=wrap_small _ (by omega) (by omega)
   obtain⟨u,hu⟩:∃ u,z.1.2.ks[j]?=some u:=⟨_,g9 hjl⟩
   obtain⟨y,q1,q2,q3⟩:=HK.out.kid HZ.out hu
   have HSN:Hid (∀ x,MtA H.L (z.1.2.ks.take (j+1)) ⟨a,[]⟩ ⟨x,[]⟩↔MtA H.L (z.1.2.ks.take j) ⟨a,[]⟩ ⟨x,[]⟩\/Pz H.L y.1.2 a x):=fun x=>by rw [q2];exact uG hu a x
   obtain⟨gk,rfl,gk1,gk2,gk3⟩:=A4.out.kl.at (by rw [dI];omega)
   have x0:=A4.out.kl.cell (iA (i:=i) hjl)
   have MK:Hid (Calls Tryz.prog 92 #[.pointer (some ⟨H.b,0,none⟩),.slice (some ⟨g2,0,none⟩) N N,.int .i64 ((i+1+szs (z.1.2.ks.take j):Nat):Int),.int .i64 (a:Int),.bool false] wr (MkP H wr rs4 wk mu w.heap.size g2 N is (fun x=>Pz H.L y.1.2 a x/\fuP false a x))):=by
    have:=jL HP.out HK.out A4.out.ps.wm q1 (by rw [q2];have:=bW (n8 hu);have:=HSZ.out;omega) (by rw [q2];exact mG HPL.out u (n8 hu)) ha A4.out.br (A4.out.ln.trans HN.out.symm) (o0 HBS.out A4.out.br.lo) (by have h1:=A4.out.br.lo;have h2:=HPB.out;omega) false
    rw [A4.out.ln] at this
    exact this
   generalize i+1+szs (z.1.2.ks.take j)=kp at x0 MK
   clear q1 q2 q3 hu
   go_upto_region 25 with (go_at_call 92;(with_reducible refine(MK.out).mono ?_);intro e w5 hm;obtain⟨he,rs5,is5,h51,h52,h53,h54,h55⟩:=A4.out.ps.mark hm A4.out.br.lo;subst he;have A5:Hid (AI12 H w rs wk mu (some ⟨gk,0,none⟩) kc i z.1.2.ks g2 N (fun x=>MtA H.L (z.1.2.ks.take (j+1)) ⟨a,[]⟩ ⟨x,[]⟩) rs5 is5 w5):=⟨h51,A4.out.kl.wmf A4.out.ps.wm h52 (mM A4.out.br),h53,h54.trans A4.out.ln,fun x=>by rw [h55,A4.out.m,HSN.out];exact or_congr Iff.rfl ⟨fun h=>h.1,fun h=>⟨h,fun e=>by cases e⟩⟩⟩;clear hm h51 h52 h53 h54 h55)
   go_wp2
   go_roundw
   case rel=>exact⟨j+1,rs5,is5,by omega,by go_num,A5.out⟩
   case measure=>simp only [intOf];omega
  ·have i0:¬ (j:Int)<(z.1.2.ks.length:Int):=by omega
   have HT:Hid (z.1.2.ks.take j=z.1.2.ks):=aA (o4 (by omega))
   have RC:=aA (dD A4.out.br (by rw [A4.out.ln];omega))
   have HE:Hid (fK H.L z.1.2 a (eG is is.length)):=kK fun x=>by rw [A4.out.m,HT.out,HPS.out]
   have HLN:=aA A4.out.ln
   rw [HLN.out] at RC HE
   go_wp2_with (go_at_call 29;(with_reducible refine(RC.out).mono ?_);rintro e w7 ⟨q6,c6,rfl,h61,h62⟩;have L6:=aA h61;have B6:=aA h62;clear h61 h62)
   go_ret
   exact nP A4.out.ps L6.out B6.out HE.out HBS.out
theorem xK{n:Nat}(hp:PlC H n)(hk:Gk H){w:World}(hw:WM H w rs wk mu){i a:Nat}{z:Zl}(hz:H.Z[i]?=some z)(hn:z.1.2.sz<=n+1)(hpl:PlT H.L z.1.2)(ha:a<=H.L.s.size)(hkd:z.1.2.f.k=7) :
  Calls Tryz.prog 78 #[.pointer (some ⟨H.b,0,none⟩),.int .i64 (i:Int),.int .i64 (a:Int)] w (iZ H w rs wk mu z.1.2 a):=by
 have HKD:=aA hkd
 clear hkd
 have HK:=aA hk
 have HZ:=aA hz
 have HSZ:=aA hn
 have hil:=(m8.1 hz).1
 have iil:(i:Int)<(H.Z.length:Int):=by omega
 have hlen:=hk.len
 have hsm:=hk.sm
 have HBS:Hid (H.base<=w.heap.size):=aA (o0 hw.bb (aBC hw.b_lt))
 have HPB:=aA hw.pb_lt
 have HPL:=aA hpl
 have HP:=aA hp
 have HNP:=aA (((aI z.1.2).1 (hk.npz hz)).1)
 have c0:=hw.cell (i:=0) rfl
 have c1:=hw.cell (i:=1) rfl
 have y0:=hw.z.cells hz (j:=0) (v:=.int .i64 z.1.2.f.k) rfl
 have y1:=hw.z.cells hz (j:=1) (v:=.int .i64 z.1.2.f.n) rfl
 have y2:=hw.z.cells hz (j:=2) (v:=.int .i64 z.1.2.f.mn) rfl
 have y3:=hw.z.cells hz (j:=3) (v:=.int .i64 z.1.2.f.mx) rfl
 have y4:=hw.z.cells hz (j:=4) (v:=.slice z.1.2.f.rq z.1.2.f.rs.length z.1.2.f.rc) rfl
 have y5:=hw.z.cells hz (j:=5) (v:=.slice z.1.2.f.kq z.1.2.f.kl z.1.2.f.kc) rfl
 rw [aAJ] at y0
 obtain⟨N,hN⟩:∃ N,H.L.s.size+1=N:=⟨_,rfl⟩
 have hwN:IntKind.wrap .i64 ((H.L.s.size:Int)+1)=(N:Int):=by rw [wrap_small _ (by omega) (by omega)];omega
 have MB:=eA N (by omega)
 have HN:=aA hN
 have hN1:N<=1001:=by omega
 have haN:(a:Int)<(N:Int):=by omega
 clear hN
 have B0:Hid (Below w.heap.size w (w.alloc (.cells #[.int .i64 z.1.2.f.k,.int .i64 z.1.2.f.n,.int .i64 z.1.2.f.mn,.int .i64 z.1.2.f.mx,.slice z.1.2.f.rq z.1.2.f.rs.length z.1.2.f.rc,.slice z.1.2.f.kq z.1.2.f.kl z.1.2.f.kc] 25))):=bz9
 have N0:Hid (BoxN (w.alloc (.cells #[.int .i64 z.1.2.f.k,.int .i64 z.1.2.f.n,.int .i64 z.1.2.f.mn,.int .i64 z.1.2.f.mx,.slice z.1.2.f.rq z.1.2.f.rs.length z.1.2.f.rc,.slice z.1.2.f.kq z.1.2.f.kl z.1.2.f.kc] 25)) w.heap.size z.1.2.f):=aD w _
 have P0:Hid (PS H w rs wk mu (w.alloc (.cells #[.int .i64 z.1.2.f.k,.int .i64 z.1.2.f.n,.int .i64 z.1.2.f.mn,.int .i64 z.1.2.f.mx,.slice z.1.2.f.rq z.1.2.f.rs.length z.1.2.f.rc,.slice z.1.2.f.kq z.1.2.f.kl z.1.2.f.kc] 25)) rs):=(PS.refl hw).below B0.out
 clear hw hk hz hn hpl hp
 go_enter Tryz.func78,Tryz.ntmps78
 go_upto_region 2 with fail
 generalize (w.alloc (.cells #[.int .i64 z.1.2.f.k,.int .i64 z.1.2.f.n,.int .i64 z.1.2.f.mn,.int .i64 z.1.2.f.mx,.slice z.1.2.f.rq z.1.2.f.rs.length z.1.2.f.rc,.slice z.1.2.f.kq z.1.2.f.kl z.1.2.f.kc] 25))=w1 at B0 N0 P0 ⊢
 have d1:=P0.out.wm.cell (i:=1) rfl
 clear c0 c1 y0 y1 y2 y3 y4 y5
 go_upto_region 3 with fail
 have B2:Hid (Below w1.heap.size w1 (w1.alloc (.cells (noC N) 4))):=bz9
 have R2:Hid (BR w.heap.size (w1.alloc (.cells (noC N) 4)) w1.heap.size N (cJ N)):=iW B0.out.size (by omega)
 have P2:=aA (P0.out.below B2.out)
 have N2:Hid (BoxN (w1.alloc (.cells (noC N) 4)) w.heap.size z.1.2.f):=(B2.out.block _ (aC N0.out)).trans N0.out
 generalize (w1.alloc (.cells (noC N) 4))=w2 at R2 P2 N2 ⊢
 generalize w1.heap.size=g2 at R2 ⊢
 clear d1 B0 N0 P0 B2
 have HNL:Hid ((cJ N).length=N):=aA (cZ N)
 obtain⟨n0,n1,n2,n3,n4,n5⟩:=N2.out.six
 simp only [m7] at n1 n2 n3 n4 n5
 have e5:(z.1.2.f.k==5)=false:=by rw [HKD.out];rfl
 have e6:(z.1.2.f.k==6)=false:=by rw [HKD.out];rfl
 have e7:(z.1.2.f.k==7)=true:=by rw [HKD.out];rfl
 have HPS:Hid (∀ x,Pz H.L z.1.2 a x↔MtA H.L z.1.2.ks ⟨a,[]⟩ ⟨x,[]⟩):=fun x=>bJ6 HPL.out HKD.out a x
 have KC:=aA (jP HK.out P2.out.wm HZ.out)
 go_upto_region 24 with (go_at_call 52;(with_reducible refine(KC.out).mono ?_);rintro e w3 ⟨kq,kc,rfl,h31,h32⟩;have K3:=aA h31;have B3:=aA h32;clear h31 h32)
 have A3:Hid (AI12 H w rs wk mu kq kc i z.1.2.ks g2 N (fun x=>MtA H.L (z.1.2.ks.take 0) ⟨a,[]⟩ ⟨x,[]⟩) rs (cJ N) w3):=
  ⟨P2.out.below B3.out,K3.out.mono P2.out.f.size,R2.out.kept B3.out,HNL.out,fun j=>⟨fun h=>absurd h dW,fun h=>by rw [aAL,cF] at h;obtain⟨u,hu,-⟩:=h;cases hu⟩⟩
 have hkl:(fM i z.1.2.ks).length=z.1.2.ks.length:=dI i z.1.2.ks
 have hk2:z.1.2.ks.length<=2000:=by
  have h1:=eY z.1.2.ks
  have h2:=dA z.1.2
  have h3:=HK.out.te i z HZ.out
  obtain⟨r,hr⟩:=seg H.t [] i z.1 (HK.out.at HZ.out)
  have h5:=congrArg List.length hr
  rw [o5,bL,aAR] at h5
  have h4:=congrArg List.length HK.out.mp
  rw [aAC] at h4
  omega
 rw [hkl]
 clear n0 n1 n2 n3 n4 n5 N2 R2 P2 K3 B3 hkl
 go_loopw [15] (fun jv wr=>∃ (j:Nat) (rs':List (Option Nat)) (is:List Bool),j<=z.1.2.ks.length/\jv=.int .i64 (j:Int)/\AI12 H w rs wk mu kq kc i z.1.2.ks g2 N (fun x=>MtA H.L (z.1.2.ks.take j) ⟨a,[]⟩ ⟨x,[]⟩) rs' is wr) (fun jv _=>z.1.2.ks.length-(intOf jv).toNat)
 case atStart=>exact⟨0,rs,cJ N,o9 _,rfl,A3.out⟩
 case round=>
  obtain⟨j,rs4,is,hj,rfl,ha4⟩:=hrel
  have A4:=aA ha4
  clear ha4
  by_cases hjl:j<z.1.2.ks.length
  ·have i0:(j:Int)<(z.1.2.ks.length:Int):=by omega
   have hw2:IntKind.wrap .i64 ((j:Int)+1)=(j:Int)+1:=wrap_small _ (by omega) (by omega)
   obtain⟨u,hu⟩:∃ u,z.1.2.ks[j]?=some u:=⟨_,g9 hjl⟩
   obtain⟨y,q1,q2,q3⟩:=HK.out.kid HZ.out hu
   have HSN:Hid (∀ x,MtA H.L (z.1.2.ks.take (j+1)) ⟨a,[]⟩ ⟨x,[]⟩↔MtA H.L (z.1.2.ks.take j) ⟨a,[]⟩ ⟨x,[]⟩\/Pz H.L y.1.2 a x):=fun x=>by rw [q2];exact uG hu a x
   obtain⟨gk,rfl,gk1,gk2,gk3⟩:=A4.out.kl.at (by rw [dI];omega)
   have x0:=A4.out.kl.cell (iA (i:=i) hjl)
   have MK:Hid (Calls Tryz.prog 92 #[.pointer (some ⟨H.b,0,none⟩),.slice (some ⟨g2,0,none⟩) N N,.int .i64 ((i+1+szs (z.1.2.ks.take j):Nat):Int),.int .i64 (a:Int),.bool false] wr (MkP H wr rs4 wk mu w.heap.size g2 N is (fun x=>Pz H.L y.1.2 a x/\fuP false a x))):=by
    have:=jL HP.out HK.out A4.out.ps.wm q1 (by rw [q2];have:=bW (n8 hu);have:=HSZ.out;omega) (by rw [q2];exact mG HPL.out u (n8 hu)) ha A4.out.br (A4.out.ln.trans HN.out.symm) (o0 HBS.out A4.out.br.lo) (by have h1:=A4.out.br.lo;have h2:=HPB.out;omega) false
    rw [A4.out.ln] at this
    exact this
   generalize i+1+szs (z.1.2.ks.take j)=kp at x0 MK
   clear q1 q2 q3 hu
   go_upto_region 25 with (go_at_call 92;(with_reducible refine(MK.out).mono ?_);intro e w5 hm;obtain⟨he,rs5,is5,h51,h52,h53,h54,h55⟩:=A4.out.ps.mark hm A4.out.br.lo;subst he;have A5:Hid (AI12 H w rs wk mu (some ⟨gk,0,none⟩) kc i z.1.2.ks g2 N (fun x=>MtA H.L (z.1.2.ks.take (j+1)) ⟨a,[]⟩ ⟨x,[]⟩) rs5 is5 w5):=⟨h51,A4.out.kl.wmf A4.out.ps.wm h52 (mM A4.out.br),h53,h54.trans A4.out.ln,fun x=>by rw [h55,A4.out.m,HSN.out];exact or_congr Iff.rfl ⟨fun h=>h.1,fun h=>⟨h,fun e=>by cases e⟩⟩⟩;clear hm h51 h52 h53 h54 h55)
   go_wp2
   go_roundw
   case rel=>exact⟨j+1,rs5,is5,by omega,by go_num,A5.out⟩
   case measure=>simp only [intOf];omega
  ·have i0:¬ (j:Int)<(z.1.2.ks.length:Int):=by omega
   have HT:Hid (z.1.2.ks.take j=z.1.2.ks):=aA (o4 (by omega))
   have RC:=aA (dD A4.out.br (by rw [A4.out.ln];omega))
   have HE:Hid (fK H.L z.1.2 a (eG is is.length)):=kK fun x=>by rw [A4.out.m,HT.out,HPS.out]
   have HLN:=aA A4.out.ln
   rw [HLN.out] at RC HE
   go_wp2_with (go_at_call 29;(with_reducible refine(RC.out).mono ?_);rintro e w7 ⟨q6,c6,rfl,h61,h62⟩;have L6:=aA h61;have B6:=aA h62;clear h61 h62)
   go_ret
   exact nP A4.out.ps L6.out B6.out HE.out HBS.out
end
section
attribute [local go_sem] Oper.semAt_some aU
variable {H:Gh} {rs rs' rs'':List (Option Nat)} {wk:Int} {mu:Bool}
structure BI12(H:Gh)(w:World)(rs:List (Option Nat))(wk:Int)(mu:Bool)(kq:Option Addr)(kc i:Nat)(ks:List Tr)(lq:Option Addr)(lc:Nat)(l:List Nat)(g N:Nat)(P:Nat->Prop)(rs':List (Option Nat))(is:List Bool)(V:World):Prop where
 a:AI12 H w rs wk mu kq kc i ks g N P rs' is V
 ll:Ls12 w.heap.size V lq lc l
theorem AI12.below{w V V':World}{kq:Option Addr}{kc i:Nat}{ks:List Tr}{g N:Nat}{P:Nat->Prop}{is:List Bool}(h:AI12 H w rs wk mu kq kc i ks g N P rs' is V)(hb:Below V.heap.size V V'):AI12 H w rs wk mu kq kc i ks g N P rs' is V':=
 ⟨h.ps.below hb,h.kl.kept hb,h.br.kept hb,h.ln,h.m⟩
theorem BI12.below{w V V':World}{kq lq:Option Addr}{kc i lc:Nat}{ks:List Tr}{l:List Nat}{g N:Nat}{P:Nat->Prop}{is:List Bool}(h:BI12 H w rs wk mu kq kc i ks lq lc l g N P rs' is V)(hb:Below V.heap.size V V'):BI12 H w rs wk mu kq kc i ks lq lc l g N P rs' is V':=
 ⟨h.a.below hb,h.ll.kept hb⟩
theorem BI12.mark{w V V':World}{kq lq:Option Addr}{kc i lc:Nat}{ks:List Tr}{l:List Nat}{g N k v:Nat}{t:Tr}{is:List Bool}{e:Ending}(h:BI12 H w rs wk mu kq kc i ks lq lc l g N (fun x=>∃ v∈l.take k,Pz H.L t v x) rs' is V)
  (hm:MkP H V rs' wk mu w.heap.size g N is (fun x=>Pz H.L t v x/\fuP false v x) e V') (hv:l[k]?=some v):e=.returned (.tuple #[])/\∃ rs'' is',BI12 H w rs wk mu kq kc i ks lq lc l g N (fun x=>∃ v∈l.take (k+1),Pz H.L t v x) rs'' is' V':=by
 obtain⟨he,rs9,is9,h51,h52,h53,h54,h55⟩:=h.a.ps.mark hm h.a.br.lo
 have ht:l.take (k+1)=l.take k++[v]:=by rw [s7,hv];rfl
 refine⟨he,rs9,is9,⟨h51,h.a.kl.wmf h.a.ps.wm h52 (mM h.a.br),h53,h54.trans h.a.ln,fun x=>?_⟩,h.ll.wmf h.a.ps.wm h52 (mM h.a.br)⟩
 rw [h55,h.a.m,ht]
 constructor
 ·rintro (⟨q,hq,h⟩ | h)
  ·exact⟨q,o3.2 (.inl hq),h⟩
  ·exact⟨v,by simp,h.1⟩
 ·rintro ⟨q,hq,h⟩
  rcases o3.1 hq with r | r
  ·exact .inl ⟨q,r,h⟩
  ·rw [s9.1 r] at h
   exact .inr ⟨h,fun e=>by cases e⟩
theorem xL{n:Nat}(hp:PlC H n)(hk:Gk H){w:World}(hw:WM H w rs wk mu){i a:Nat}{z:Zl}(hz:H.Z[i]?=some z)(hn:z.1.2.sz<=n+1)(hpl:PlT H.L z.1.2)(ha:a<=H.L.s.size)(hkd:z.1.2.f.k=5) :
  Calls Tryz.prog 78 #[.pointer (some ⟨H.b,0,none⟩),.int .i64 (i:Int),.int .i64 (a:Int)] w (iZ H w rs wk mu z.1.2 a):=by
 have HKD:=aA hkd
 clear hkd
 have HK:=aA hk
 have HZ:=aA hz
 have HSZ:=aA hn
 have hil:=(m8.1 hz).1
 have iil:(i:Int)<(H.Z.length:Int):=by omega
 have hlen:=hk.len
 have hsm:=hk.sm
 have HBS:Hid (H.base<=w.heap.size):=aA (o0 hw.bb (aBC hw.b_lt))
 have HPB:=aA hw.pb_lt
 have HPL:=aA hpl
 have HP:=aA hp
 have HNP:=aA (((aI z.1.2).1 (hk.npz hz)).1)
 have c0:=hw.cell (i:=0) rfl
 have c1:=hw.cell (i:=1) rfl
 have y0:=hw.z.cells hz (j:=0) (v:=.int .i64 z.1.2.f.k) rfl
 have y1:=hw.z.cells hz (j:=1) (v:=.int .i64 z.1.2.f.n) rfl
 have y2:=hw.z.cells hz (j:=2) (v:=.int .i64 z.1.2.f.mn) rfl
 have y3:=hw.z.cells hz (j:=3) (v:=.int .i64 z.1.2.f.mx) rfl
 have y4:=hw.z.cells hz (j:=4) (v:=.slice z.1.2.f.rq z.1.2.f.rs.length z.1.2.f.rc) rfl
 have y5:=hw.z.cells hz (j:=5) (v:=.slice z.1.2.f.kq z.1.2.f.kl z.1.2.f.kc) rfl
 rw [aAJ] at y0
 obtain⟨N,hN⟩:∃ N,H.L.s.size+1=N:=⟨_,rfl⟩
 have hwN:IntKind.wrap .i64 ((H.L.s.size:Int)+1)=(N:Int):=by rw [wrap_small _ (by omega) (by omega)];omega
 have MB:=eA N (by omega)
 have HN:=aA hN
 have hN1:N<=1001:=by omega
 have haN:(a:Int)<(N:Int):=by omega
 clear hN
 have B0:Hid (Below w.heap.size w (w.alloc (.cells #[.int .i64 z.1.2.f.k,.int .i64 z.1.2.f.n,.int .i64 z.1.2.f.mn,.int .i64 z.1.2.f.mx,.slice z.1.2.f.rq z.1.2.f.rs.length z.1.2.f.rc,.slice z.1.2.f.kq z.1.2.f.kl z.1.2.f.kc] 25))):=bz9
 have N0:Hid (BoxN (w.alloc (.cells #[.int .i64 z.1.2.f.k,.int .i64 z.1.2.f.n,.int .i64 z.1.2.f.mn,.int .i64 z.1.2.f.mx,.slice z.1.2.f.rq z.1.2.f.rs.length z.1.2.f.rc,.slice z.1.2.f.kq z.1.2.f.kl z.1.2.f.kc] 25)) w.heap.size z.1.2.f):=aD w _
 have P0:Hid (PS H w rs wk mu (w.alloc (.cells #[.int .i64 z.1.2.f.k,.int .i64 z.1.2.f.n,.int .i64 z.1.2.f.mn,.int .i64 z.1.2.f.mx,.slice z.1.2.f.rq z.1.2.f.rs.length z.1.2.f.rc,.slice z.1.2.f.kq z.1.2.f.kl z.1.2.f.kc] 25)) rs):=(PS.refl hw).below B0.out
 clear hw hk hz hn hpl hp
 go_enter Tryz.func78,Tryz.ntmps78
 go_upto_region 2 with fail
 generalize (w.alloc (.cells #[.int .i64 z.1.2.f.k,.int .i64 z.1.2.f.n,.int .i64 z.1.2.f.mn,.int .i64 z.1.2.f.mx,.slice z.1.2.f.rq z.1.2.f.rs.length z.1.2.f.rc,.slice z.1.2.f.kq z.1.2.f.kl z.1.2.f.kc] 25))=w1 at B0 N0 P0 ⊢
 have d1:=P0.out.wm.cell (i:=1) rfl
 clear c0 c1 y0 y1 y2 y3 y4 y5
 go_upto_region 3 with fail
 have B2:Hid (Below w1.heap.size w1 (w1.alloc (.cells (noC N) 4))):=bz9
 have R2:Hid (BR w.heap.size (w1.alloc (.cells (noC N) 4)) w1.heap.size N (cJ N)):=iW B0.out.size (by omega)
 have P2:=aA (P0.out.below B2.out)
 have N2:Hid (BoxN (w1.alloc (.cells (noC N) 4)) w.heap.size z.1.2.f):=(B2.out.block _ (aC N0.out)).trans N0.out
 generalize (w1.alloc (.cells (noC N) 4))=w2 at R2 P2 N2 ⊢
 generalize w1.heap.size=g2 at R2 ⊢
 clear d1 B0 N0 P0 B2
 have HNL:Hid ((cJ N).length=N):=aA (cZ N)
 obtain⟨n0,n1,n2,n3,n4,n5⟩:=N2.out.six
 simp only [m7] at n1 n2 n3 n4 n5
 have e5:(z.1.2.f.k==5)=true:=by rw [HKD.out];rfl
 have HPS:Hid (∀ x,Pz H.L z.1.2 a x↔MtC H.L z.1.2.ks ⟨a,[]⟩ ⟨x,[]⟩):=fun x=>bJ7 HKD.out a x
 have hfz:=R2.out.frz a
 obtain⟨b0,hb0⟩:∃ b,w2.cell? ⟨g2,a,none⟩=some (.bool b):=⟨_,R2.out.cell (g9 (by rw [HNL.out];have:=HN.out;omega))⟩
 go_upto_region 9 with fail
 have R3:=aA (R2.out.put a true)
 have P3:=aA (P2.out.put R2.out ((Fr.refl (fun k=>k=g2) w2).setCell (p:=⟨g2,a,none⟩) rfl (.bool true)) R2.out.lo HBS.out HPB.out)
 generalize (w2.setCell ⟨g2,a,none⟩ (.bool true))=w3 at R3 P3 ⊢
 have KC:=aA (jP HK.out P3.out.wm HZ.out)
 clear hfz hb0 n0 n1 n2 n3 n4 n5 N2 R2 P2
 go_upto_region 11 with (go_at_call 52;(with_reducible refine(KC.out).mono ?_);rintro e w4 ⟨kq,kc,rfl,h31,h32⟩;have K3:=aA h31;have B3:=aA h32;clear h31 h32)
 have A3:Hid (AI12 H w rs wk mu kq kc i z.1.2.ks g2 N (fun x=>MtC H.L (z.1.2.ks.take 0) ⟨a,[]⟩ ⟨x,[]⟩) rs ((cJ N).set a true) w4):=
  ⟨P3.out.below B3.out,K3.out.mono P3.out.f.size,R3.out.kept B3.out,by rw [aAQ,cZ],fun x=>by
   rw [nA (by rw [cZ];have:=HN.out;omega),aAL,cE]
   constructor
   ·rintro (h | h)
    ·exact absurd h dW
    ·rw [h]
   ·intro h
    injection h with h
    exact .inr h⟩
 have hkl:(fM i z.1.2.ks).length=z.1.2.ks.length:=dI i z.1.2.ks
 have hk2:z.1.2.ks.length<=2000:=by
  have h1:=eY z.1.2.ks
  have h2:=dA z.1.2
  have h3:=HK.out.te i z HZ.out
  obtain⟨r,hr⟩:=seg H.t [] i z.1 (HK.out.at HZ.out)
  have h5:=congrArg List.length hr
  rw [o5,bL,aAR] at h5
  have h4:=congrArg List.length HK.out.mp
  rw [aAC] at h4
  omega
 rw [hkl]
 clear R3 P3 K3 B3 hkl
 go_loopw [8,10] (fun ov jv wr=>∃ (j g:Nat) (rs':List (Option Nat)) (is:List Bool),j<=z.1.2.ks.length/\ov=.slice (some ⟨g,0,none⟩) N N/\jv=.int .i64 (j:Int)/\AI12 H w rs wk mu kq kc i z.1.2.ks g N (fun x=>MtC H.L (z.1.2.ks.take j) ⟨a,[]⟩ ⟨x,[]⟩) rs' is wr) (fun _ jv _=>z.1.2.ks.length-(intOf jv).toNat)
 case atStart=>exact⟨0,g2,rs,_,o9 _,rfl,rfl,A3.out⟩
 case round=>
  obtain⟨j,g,rs4,is,hj,rfl,rfl,ha4⟩:=hrel
  have A4:=aA ha4
  clear ha4 A3
  by_cases hjl:j<z.1.2.ks.length
  ·have i0:(j:Int)<(z.1.2.ks.length:Int):=by omega
   have hw2:IntKind.wrap .i64 ((j:Int)+1)=(j:Int)+1:=wrap_small _ (by omega) (by omega)
   obtain⟨u,hu⟩:∃ u,z.1.2.ks[j]?=some u:=⟨_,g9 hjl⟩
   obtain⟨y,q1,q2,q3⟩:=HK.out.kid HZ.out hu
   have HSN:Hid (∀ x,MtC H.L (z.1.2.ks.take (j+1)) ⟨a,[]⟩ ⟨x,[]⟩ ↔ ∃ v,MtC H.L (z.1.2.ks.take j) ⟨a,[]⟩ ⟨v,[]⟩/\Pz H.L y.1.2 v x):=fun x=>by rw [q2];exact aM9 (mG HPL.out) hu a x
   have HZY:=aA q1
   have HYN:Hid (y.1.2.sz<=n):=aA (by rw [q2];have:=bW (n8 hu);have:=HSZ.out;omega)
   have HYP:Hid (PlT H.L y.1.2):=aA (by rw [q2];exact mG HPL.out u (n8 hu))
   obtain⟨gk,rfl,gk1,gk2,gk3⟩:=A4.out.kl.at (by rw [dI];omega)
   have HKP:=aA (iA (i:=i) hjl)
   have hkpl:i+1+szs (z.1.2.ks.take j)<2000:=by have:=(m8.1 q1).1;omega
   have d1:=A4.out.ps.wm.cell (i:=1) rfl
   clear q1 q2 q3 hu
   go_upto_region 14 with fail
   have B5:Hid (Below wr.heap.size wr (wr.alloc (.cells (noC N) 4))):=bz9
   have R5:Hid (BR w.heap.size (wr.alloc (.cells (noC N) 4)) wr.heap.size N (cJ N)):=iW A4.out.ps.f.size (by omega)
   have A5:=aA (A4.out.below B5.out)
   generalize (wr.alloc (.cells (noC N) 4))=w5 at R5 A5 B5 ⊢
   generalize wr.heap.size=g5 at R5 ⊢
   clear d1 B5
   have RC:=aA (dD A5.out.br (by rw [A5.out.ln];omega))
   have HLN:=aA A5.out.ln
   have HLM:Hid (∀ v,v∈eG is is.length↔MtC H.L (z.1.2.ks.take j) ⟨a,[]⟩ ⟨v,[]⟩):=fun v=>hQ.trans (A5.out.m v)
   have HLB:Hid (∀ v,v∈eG is is.length->v<=H.L.s.size):=fun v h=>by have:=lJ (hQ.1 h);have h1:=HLN.out;have h2:=HN.out;omega
   have hll:=pX is is.length
   rw [HLN.out] at RC HLM HLB hll
   generalize eG is N=l at RC HLM HLB hll
   go_upto_region 16 with (go_at_call 29;(with_reducible refine(RC.out).mono ?_);rintro e w6 ⟨lq,lc,rfl,h61,h62⟩;have L6:=aA h61;have B6:=aA h62;clear h61 h62)
   have I6:Hid (BI12 H w rs wk mu (some ⟨gk,0,none⟩) kc i z.1.2.ks lq lc l g5 N (fun x=>∃ v∈l.take 0,Pz H.L y.1.2 v x) rs4 (cJ N) w6):=
    ⟨⟨A5.out.ps.below B6.out,A5.out.kl.kept B6.out,R5.out.kept B6.out,cZ N,fun x=>⟨fun h=>absurd h dW,fun⟨v,hv,_⟩=>by rw [aAL] at hv;cases hv⟩⟩,L6.out.mono A5.out.ps.f.size⟩
   clear R5 A5 L6 B6 A4
   go_loopw [13] (fun av wr=>∃ (k:Nat) (rs':List (Option Nat)) (is2:List Bool),k<=l.length/\av=.int .i64 (k:Int)/\BI12 H w rs wk mu (some ⟨gk,0,none⟩) kc i z.1.2.ks lq lc l g5 N (fun x=>∃ v∈l.take k,Pz H.L y.1.2 v x) rs' is2 wr) (fun av _=>l.length-(intOf av).toNat)
   case atStart=>exact⟨0,rs4,cJ N,o9 _,rfl,I6.out⟩
   case round=>
    obtain⟨k,rs7,is7,hkk,rfl,hb7⟩:=hrel
    have I7:=aA hb7
    clear hb7 I6
    by_cases hkl:k<l.length
    ·have i1:(k:Int)<(l.length:Int):=by omega
     have hw3:IntKind.wrap .i64 ((k:Int)+1)=(k:Int)+1:=wrap_small _ (by omega) (by omega)
     obtain⟨v,hv⟩:∃ v,l[k]?=some v:=⟨_,g9 hkl⟩
     obtain⟨gl,rfl,gl1,gl2,gl3⟩:=I7.out.ll.at (by omega)
     have D7:Hid (Below _ _ _):=aA ((Below.refl wr.heap.size wr).drew)
     have I8:=aA (I7.out.below D7.out)
     have HVB:=aA (HLB.out v (n8 hv))
     have HV:=aA hv
     have x0:=I7.out.a.kl.cell HKP.out
     have x1:=I7.out.ll.cell hv
     have MK:Hid (Calls Tryz.prog 92 #[.pointer (some ⟨H.b,0,none⟩),.slice (some ⟨g5,0,none⟩) N N,.int .i64 ((i+1+szs (z.1.2.ks.take j):Nat):Int),.int .i64 (v:Int),.bool false] wr.drew (MkP H wr.drew rs7 wk mu w.heap.size g5 N is7 (fun x=>Pz H.L y.1.2 v x/\fuP false v x))):=by
      have:=jL HP.out HK.out I8.out.a.ps.wm HZY.out HYN.out HYP.out HVB.out I8.out.a.br (I8.out.a.ln.trans HN.out.symm) (o0 HBS.out I8.out.a.br.lo) (by have h1:=I8.out.a.br.lo;have h2:=HPB.out;omega) false
      rw [I8.out.a.ln] at this
      exact this
     generalize hkp:i+1+szs (z.1.2.ks.take j)=kp at x0 MK hkpl
     have HKP2:Hid ((fM i z.1.2.ks)[j]?=some kp):=aA (by rw [<- hkp];exact HKP.out)
     clear hv hkp
     go_upto_region 18 with fail
     go_region_held (fun w'=>w'.cell? ⟨gk,j,none⟩=some (.int .i64 (kp:Int))/\w'.cell? ⟨gl,k,none⟩=some (.int .i64 (v:Int))) (go_keep) (first |(go_at_call 92;(with_reducible refine(MK.out).mono ?_);intro e w9 hm;obtain⟨he,rs9,is9,h9⟩:=I8.out.mark hm HV.out;subst he;have I9:=aA h9;clear hm h9;have s1:=I9.out.a.kl.cell HKP2.out;have s2:=I9.out.ll.cell HV.out))
     go_wp2
     go_roundw
     case rel=>exact⟨k+1,rs9,is9,by omega,by go_num,I9.out⟩
     case measure=>simp only [intOf];omega
    ·have i1:¬ (k:Int)<(l.length:Int):=by omega
     have HT:Hid (l.take k=l):=aA (o4 (by omega))
     have A9:Hid (AI12 H w rs wk mu (some ⟨gk,0,none⟩) kc i z.1.2.ks g5 N (fun x=>MtC H.L (z.1.2.ks.take (j+1)) ⟨a,[]⟩ ⟨x,[]⟩) rs7 is7 wr):=
      ⟨I7.out.a.ps,I7.out.a.kl,I7.out.a.br,I7.out.a.ln,fun x=>by
       rw [I7.out.a.m,HT.out,HSN.out]
       exact exists_congr fun v=>and_congr (HLM.out v) Iff.rfl⟩
     go_wp2
     go_roundw
     case rel=>exact⟨j+1,g5,rs7,is7,by omega,rfl,by go_num,A9.out⟩
     case measure=>simp only [intOf];omega
  ·have i0:¬ (j:Int)<(z.1.2.ks.length:Int):=by omega
   have HT:Hid (z.1.2.ks.take j=z.1.2.ks):=aA (o4 (by omega))
   have RC:=aA (dD A4.out.br (by rw [A4.out.ln];omega))
   have HE:Hid (fK H.L z.1.2 a (eG is is.length)):=kK fun x=>by rw [A4.out.m,HT.out,HPS.out]
   have HLN:=aA A4.out.ln
   rw [HLN.out] at RC HE
   go_wp2_with (go_at_call 29;(with_reducible refine(RC.out).mono ?_);rintro e w7 ⟨q6,c6,rfl,h61,h62⟩;have L6:=aA h61;have B6:=aA h62;clear h61 h62)
   go_ret
   exact nP A4.out.ps L6.out B6.out HE.out HBS.out
end
section
variable {L:Ln} {v:Tr}
def Pq(P:Nat->Prop)(y:Cf):Prop:=y.g=[]/\P y.p
theorem bO2{P:Nat->Prop}{j:Nat}:Pq P ⟨j,[]⟩↔P j:=⟨fun h=>h.2,fun h=>⟨rfl,h⟩⟩
theorem bL5(hp:PlT L v){j:Nat}{z:Cf}(h:Mt L v ⟨j,[]⟩ z):z.g=[]/\Pz L v j z.p:=by
 have:=(uO hp _ _).1 h
 exact this
variable {mn t:Nat} {mx:Int} {x:Cf} {O N O' N':Nat->Prop}
theorem aV9(hp:PlT L v)(hs:TS (fun x y=>Mt L v x y) mn mx x t (Pq O) (Pq N))(hc:TC (fun x y=>Mt L v x y) mn mx x t (Pq O) (Pq N))
  (hO:∀ j,O' j↔O j\/(mn<=t/\N j)) (hN:∀ j,N' j↔((t:Int)≠mx/\∃ y,N y/\Pz L v y j/\(mn<=t->y<j))/\((mx=-1/\mn<=t)->¬ O' j)) :
  TS (fun x y=>Mt L v x y) mn mx x (t+1) (Pq O') (Pq N')/\TC (fun x y=>Mt L v x y) mn mx x (t+1) (Pq O') (Pq N'):=by
 refine⟨oJ hs (fun y hy=>?_) (fun z hz=>?_),oM hs hc (fun y hy=>⟨hy.1,(hO _).2 (.inl hy.2)⟩) (fun ht y hy=>⟨hy.1,(hO _).2 (.inr ⟨ht,hy.2⟩)⟩) (fun y hy=>?_) (fun y z hy hr hlt htm=>?_)⟩
 ·rcases (hO _).1 hy.2 with q | ⟨q,r⟩
  ·exact .inl ⟨hy.1,q⟩
  ·exact .inr ⟨q,hy.1,r⟩
 ·obtain⟨⟨h1,y,h2,h3,h4⟩,-⟩:=(hN _).1 hz.2
  refine⟨h1,⟨y,[]⟩,⟨rfl,h2⟩,?_,h4⟩
  obtain⟨zp,zg⟩:=z
  have e:zg=[]:=hz.1
  subst e
  exact h3
 ·rcases (hO _).1 hy.2 with q | ⟨q,r⟩
  ·exact .inl ⟨hy.1,q⟩
  ·exact .inr ⟨q,hy.1,r⟩
 ·obtain⟨yp,yg⟩:=y
  have e:yg=[]:=hy.1
  subst e
  obtain⟨h1,h2⟩:=bL5 hp hr
  by_cases q:mx=-1/\mn<=t
  ·by_cases r:O' z.p
   ·exact .inr ⟨q.1,q.2,.inl ⟨h1,r⟩⟩
   ·exact .inl ⟨h1,(hN _).2 ⟨⟨htm,yp,hy.2,h2,hlt⟩,fun _=>r⟩⟩
  ·exact .inl ⟨h1,(hN _).2 ⟨⟨htm,yp,hy.2,h2,hlt⟩,fun w=>absurd w q⟩⟩
theorem aV8{a:Nat}(hm:mx=-1\/(mn:Int)<=mx)(hO:∀ j,¬ O j)(hN:∀ j,N j↔j=a) :
  TS (fun x y=>Mt L v x y) mn mx ⟨a,[]⟩ 0 (Pq O) (Pq N)/\TC (fun x y=>Mt L v x y) mn mx ⟨a,[]⟩ 0 (Pq O) (Pq N):=by
 have e1:Pq O=fun _=>False:=by funext y;exact propext ⟨fun h=>hO _ h.2,fun h=>h.elim⟩
 have e2:Pq N=fun y=>y=⟨a,[]⟩:=by
  funext y
  obtain⟨p,g⟩:=y
  refine propext ⟨fun h=>?_,fun h=>?_⟩
  ·have h1:g=[]:=h.1
   have h2:p=a:=(hN _).1 h.2
   rw [h1,h2]
  ·injection h with h1 h2
   subst h1 h2
   exact⟨rfl,(hN _).2 rfl⟩
 rw [e1,e2]
 exact⟨yP hm,yV⟩
theorem bG4(hs:TS (fun x y=>Mt L v x y) mn mx x t (Pq O) (Pq N))(hc:TC (fun x y=>Mt L v x y) mn mx x t (Pq O) (Pq N))(hN:∀ j,¬ N j)(j:Nat):O j↔Rp (fun x y=>Mt L v x y) (mn:Int) mx x ⟨j,[]⟩:=
 bO2.symm.trans (aJ6 hs hc (fun _ h=>hN _ h.2) ⟨j,[]⟩)
theorem bG3(hs:TS (fun x y=>Mt L v x y) mn mx x t (Pq O) (Pq N)){j:Nat}(h:N j):t<=mn+j:=by
 have:=aI9 (hs.n ⟨j,[]⟩ ⟨rfl,h⟩).1
 simp only at this
 omega
end
section
variable {L:Ln} {T:Type} {ρ:wE T} {G:Int->T} {Gd:T->Prop} {Q:T->Nat->Nat->Prop}
theorem bK0{l:List Tr}(h:l.length=1):∃ v,l=[v]:=by
 match l,h with
 | [v],_=>exact⟨v,rfl⟩
theorem zH{c o:Bool}{t:Tr}(h:NP c o t):t.f.k=1\/t.f.k=2\/t.f.k=3\/t.f.k=4\/t.f.k=5\/t.f.k=6\/t.f.k=7\/t.f.k=8\/t.f.k=9:=by
 have h1:=h.1
 unfold dN at h1
 apply Classical.byContradiction
 intro hn
 simp only [not_or] at hn
 obtain⟨a1,a2,a3,a4,a5,a6,a7,a8,a9⟩:=hn
 simp [a1,a2,a3,a4,a5,a6,a7,a8,a9] at h1
theorem oT{c o:Bool}{t:Tr}(h:NP c o t)(hk:t.f.k=1\/t.f.k=2\/t.f.k=3\/t.f.k=4\/t.f.k=8):t.ks=[]:=by
 have h1:=h.1
 unfold dN at h1
 refine aAD ?_
 rcases hk with e | e | e | e | e <;> simp [e] at h1 <;> simp [h1]
theorem xT{c o:Bool}{t:Tr}(h:NP c o t)(hk:t.f.k=7\/t.f.k=9):∃ v,t.ks=[v]:=by
 have h1:=h.1
 unfold dN at h1
 refine bK0 ?_
 rcases hk with e | e <;> simp [e] at h1 <;> simp [h1]
theorem sL{c o:Bool}{t:Tr}(h:NP c o t)(hk:t.f.k=8):1<=t.f.n/\t.f.n<=9:=by
 have h1:=h.1
 unfold dN at h1
 simp [hk] at h1
 exact h1.1
theorem aN8{c o:Bool}{t:Tr}(h:NP c o t)(hk:t.f.k=9):0<=t.f.mn/\t.f.mn<=255/\(t.f.mx=-1\/(t.f.mn<=t.f.mx/\t.f.mx<=255)):=by
 have h1:=h.1
 unfold dN at h1
 simp [hk] at h1
 have h2:=h1.1
 unfold eX at h2
 simp at h2
 omega
end
section
attribute [local go_sem] Oper.semAt_some aU
variable {H:Gh} {rs rs' rs'':List (Option Nat)} {wk:Int} {mu:Bool}
structure RI9(H:Gh)(w:World)(rs:List (Option Nat))(wk:Int)(mu:Bool)(f:Fl)(g N:Nat)(is:List Bool)(nq:Option Addr)(nc:Nat)(now:List Nat)(rs':List (Option Nat))(V:World):Prop where
 ps:PS H w rs wk mu V rs'
 nb:BoxN V w.heap.size f
 br:BR w.heap.size V g N is
 ln:is.length=N
 ll:Ls12 w.heap.size V nq nc now
structure SI9(H:Gh)(w:World)(rs:List (Option Nat))(wk:Int)(mu:Bool)(f:Fl)(g N:Nat)(is:List Bool)(nq:Option Addr)(nc:Nat)(now:List Nat)(rs':List (Option Nat))(g5:Nat)(is2:List Bool)(V:World):Prop where
 r:RI9 H w rs wk mu f g N is nq nc now rs' V
 br:BR w.heap.size V g5 N is2
 ln:is2.length=N
 ne:g5≠g
variable {w V V':World} {f:Fl} {g N:Nat} {is is2:List Bool} {nq:Option Addr} {nc:Nat} {now:List Nat} {g5:Nat}
theorem RI9.below(h:RI9 H w rs wk mu f g N is nq nc now rs' V)(hb:Below V.heap.size V V'):RI9 H w rs wk mu f g N is nq nc now rs' V':=
 ⟨h.ps.below hb,(hb.block _ (aC h.nb)).trans h.nb,h.br.kept hb,h.ln,h.ll.kept hb⟩
theorem SI9.below(h:SI9 H w rs wk mu f g N is nq nc now rs' g5 is2 V)(hb:Below V.heap.size V V'):SI9 H w rs wk mu f g N is nq nc now rs' g5 is2 V':=
 ⟨h.r.below hb,h.br.kept hb,h.ln,h.ne⟩
theorem bE7{base g c:Nat}{V V':World}{is:List Bool}{q:Option Addr}{k:Nat}{l:List Nat}(h:Ls12 base V q k l)(hb:BR base V g c is)(hf:Fr (fun k=>k=g) V V'):Ls12 base V' q k l:=
 aH h hf (fun k hk e=>by
  subst e
  obtain⟨cs,hc⟩:=hb.ty
  obtain⟨-,-,cur,h3⟩:=aF h hk
  exact bD hc h3 (by decide) rfl)
theorem aO3{base g c b:Nat}{V:World}{is:List Bool}(h:BoxN V b f)(hb:BR base V g c is):b≠g:=by
 obtain⟨cs,hc⟩:=hb.ty
 exact bD h hc (by decide)
theorem SI9.put(h:SI9 H w rs wk mu f g N is nq nc now rs' g5 is2 V)(hbs:H.base<=w.heap.size)(hp:H.pb<w.heap.size)(x:Nat)(b:Bool):SI9 H w rs wk mu f g N (is.set x b) nq nc now rs' g5 is2 (V.setCell ⟨g,x,none⟩ (.bool b)):=by
 have hf:Fr (fun k=>k=g) V (V.setCell ⟨g,x,none⟩ (.bool b)):=(Fr.refl (fun k=>k=g) V).setCell (p:=⟨g,x,none⟩) rfl (.bool b)
 exact⟨⟨h.r.ps.put h.r.br hf h.r.br.lo hbs hp,(hf.block _ (aC h.r.nb) (aO3 h.r.nb h.r.br)).trans h.r.nb,h.r.br.put x b,by rw [aAQ];exact h.r.ln,bE7 h.r.ll h.r.br hf⟩,
  aH h.br hf (fun k hk e=>by cases hk;exact h.ne e),h.ln,h.ne⟩
theorem SI9.put2(h:SI9 H w rs wk mu f g N is nq nc now rs' g5 is2 V)(hbs:H.base<=w.heap.size)(hp:H.pb<w.heap.size)(x:Nat)(b:Bool):SI9 H w rs wk mu f g N is nq nc now rs' g5 (is2.set x b) (V.setCell ⟨g5,x,none⟩ (.bool b)):=by
 have hf:Fr (fun k=>k=g5) V (V.setCell ⟨g5,x,none⟩ (.bool b)):=(Fr.refl (fun k=>k=g5) V).setCell (p:=⟨g5,x,none⟩) rfl (.bool b)
 exact⟨⟨h.r.ps.put h.br hf h.br.lo hbs hp,(hf.block _ (aC h.r.nb) (aO3 h.r.nb h.br)).trans h.r.nb,aH h.r.br hf (fun k hk e=>by cases hk;exact h.ne e.symm),h.r.ln,bE7 h.r.ll h.br hf⟩,
  h.br.put x b,by rw [aAQ];exact h.ln,h.ne⟩
theorem SI9.mark{P:Nat->Prop}{e:Ending}(h:SI9 H w rs wk mu f g N is nq nc now rs' g5 is2 V)(hm:MkP H V rs' wk mu w.heap.size g5 N is2 P e V') :
  e=.returned (.tuple #[])/\∃ rs'' is3,SI9 H w rs wk mu f g N is nq nc now rs'' g5 is3 V'/\∀ j,is3[j]?=some true↔is2[j]?=some true\/P j:=by
 obtain⟨he,rs9,is9,h51,h52,h53,h54,h55⟩:=h.r.ps.mark hm h.br.lo
 refine⟨he,rs9,is9,⟨⟨h51,?_,h.r.br.wmf h.r.ps.wm h52 (fun e=>h.ne e.symm),h.r.ln,h.r.ll.wmf h.r.ps.wm h52 (mM h.br)⟩,h53,h54.trans h.ln,h.ne⟩,h55⟩
 exact fR h.r.ps.wm h52 h.r.nb ⟨by decide,by decide,by decide⟩ (aO3 h.r.nb h.br)
def OutK(is is5:List Bool)(now:List Nat)(M t k:Nat):Prop:=∀ j,is5[j]?=some true↔is[j]?=some true\/(M<=t/\j∈now.take k)
def NxtK(L:Ln)(u:Tr)(is6:List Bool)(now:List Nat)(M t:Nat)(mx:Int)(k:Nat):Prop:=∀ j,is6[j]?=some true↔(t:Int)≠mx/\∃ y∈now.take k,Pz L u y j/\(M<=t->y<j)
def CutK(is5 is6 is7:List Bool)(M t:Nat)(mx:Int)(k:Nat):Prop:=∀ j,is7[j]?=some true↔is6[j]?=some true/\((mx=-1/\M<=t)->j<k->¬ is5[j]?=some true)
theorem OutK.skip{is5:List Bool}{M t k:Nat}(h:OutK is is5 now M t k)(hm:¬ M<=t):OutK is is5 now M t (k+1):=fun j=>by
 rw [h j]
 exact or_congr Iff.rfl ⟨fun q=>absurd q.1 hm,fun q=>absurd q.1 hm⟩
theorem OutK.put{is5:List Bool}{M t k x:Nat}(h:OutK is is5 now M t k)(hx:now[k]?=some x)(hm:M<=t)(hl:x<is5.length):OutK is (is5.set x true) now M t (k+1):=fun j=>by
 rw [nA hl,h j,s7,hx,aBH,o3,s9]
 constructor
 ·rintro ((q | q) | q)
  ·exact .inl q
  ·exact .inr ⟨hm,.inl q.2⟩
  ·exact .inr ⟨hm,.inr q⟩
 ·rintro (q | ⟨-,q | q⟩)
  ·exact .inl (.inl q)
  ·exact .inl (.inr ⟨hm,q⟩)
  ·exact .inr q
theorem NxtK.skip{L:Ln}{u:Tr}{is6:List Bool}{M t k:Nat}{mx:Int}(h:NxtK L u is6 now M t mx k)(hm:(t:Int)=mx):NxtK L u is6 now M t mx (k+1):=fun j=>by
 rw [h j]
 exact⟨fun q=>absurd hm q.1,fun q=>absurd hm q.1⟩
theorem NxtK.put{L:Ln}{u:Tr}{is6 is7:List Bool}{M t k x:Nat}{mx:Int}{b:Bool}(h:NxtK L u is6 now M t mx k)(hx:now[k]?=some x)(hm:(t:Int)≠mx)(hb:b=true↔M<=t)(h7:∀ j,is7[j]?=some true↔is6[j]?=some true\/(Pz L u x j/\fuP b x j)):NxtK L u is7 now M t mx (k+1):=fun j=>by
 rw [h7 j,h j,s7,hx,aBH]
 unfold fuP
 rw [hb]
 constructor
 ·rintro (⟨-,y,hy,q⟩ | q)
  ·exact⟨hm,y,o3.2 (.inl hy),q⟩
  ·exact⟨hm,x,by simp,q⟩
 ·rintro ⟨-,y,hy,q⟩
  rcases o3.1 hy with r | r
  ·exact .inl ⟨hm,y,r,q⟩
  ·rw [s9.1 r] at q
   exact .inr q
theorem CutK.zero{is5 is6:List Bool}{M t:Nat}{mx:Int}:CutK is5 is6 is6 M t mx 0:=fun j=>⟨fun h=>⟨h,fun _ q=>by omega⟩,fun h=>h.1⟩
theorem CutK.put{is5 is6 is7:List Bool}{M t k:Nat}{mx:Int}{b o:Bool}(h:CutK is5 is6 is7 M t mx k)(hm:mx=-1/\M<=t)(hb:is7[k]?=some b)(ho:is5[k]?=some o):CutK is5 is6 (is7.set k (b && !o)) M t mx (k+1):=fun j=>by
 have hl:=(m8.1 hb).1
 rw [aAZ]
 by_cases e:k=j
 ·subst e
  rw [if_pos rfl,if_pos hl,ho]
  have h1:=h k
  rw [hb] at h1
  constructor
  ·intro q
   have q:(b && !o)=true:=by simpa using q
   rw [aBY] at q
   refine⟨(h1.1 (by rw [q.1])).1,fun _ _ r=>?_⟩
   have r:o=true:=by simpa using r
   rw [r] at q
   simp at q
  ·rintro ⟨q1,q2⟩
   have r1:=h1.2 ⟨q1,fun _ r=>by omega⟩
   have r2:=q2 hm (by omega)
   have r1:b=true:=by simpa using r1
   have r2:o=false:=by simpa using r2
   rw [r1,r2]
   rfl
 ·rw [if_neg e,h j]
  constructor
  ·rintro ⟨q1,q2⟩
   exact⟨q1,fun a b=>q2 a (by omega)⟩
  ·rintro ⟨q1,q2⟩
   exact⟨q1,fun a b=>q2 a (by omega)⟩
theorem xJ{n:Nat}(hp:PlC H n)(hk:Gk H){w:World}(hw:WM H w rs wk mu){i a:Nat}{z:Zl}(hz:H.Z[i]?=some z)(hn:z.1.2.sz<=n+1)(hpl:PlT H.L z.1.2)(ha:a<=H.L.s.size)(hkd:z.1.2.f.k=9) :
  Calls Tryz.prog 78 #[.pointer (some ⟨H.b,0,none⟩),.int .i64 (i:Int),.int .i64 (a:Int)] w (iZ H w rs wk mu z.1.2 a):=by
 have HKD:=aA hkd
 clear hkd
 have HK:=aA hk
 have HZ:=aA hz
 have HSZ:=aA hn
 have hil:=(m8.1 hz).1
 have iil:(i:Int)<(H.Z.length:Int):=by omega
 have hlen:=hk.len
 have hsm:=hk.sm
 have HBS:Hid (H.base<=w.heap.size):=aA (o0 hw.bb (aBC hw.b_lt))
 have HPB:=aA hw.pb_lt
 have HPL:=aA hpl
 have HP:=aA hp
 have HNP:=aA (((aI z.1.2).1 (hk.npz hz)).1)
 have c0:=hw.cell (i:=0) rfl
 have c1:=hw.cell (i:=1) rfl
 have y0:=hw.z.cells hz (j:=0) (v:=.int .i64 z.1.2.f.k) rfl
 have y1:=hw.z.cells hz (j:=1) (v:=.int .i64 z.1.2.f.n) rfl
 have y2:=hw.z.cells hz (j:=2) (v:=.int .i64 z.1.2.f.mn) rfl
 have y3:=hw.z.cells hz (j:=3) (v:=.int .i64 z.1.2.f.mx) rfl
 have y4:=hw.z.cells hz (j:=4) (v:=.slice z.1.2.f.rq z.1.2.f.rs.length z.1.2.f.rc) rfl
 have y5:=hw.z.cells hz (j:=5) (v:=.slice z.1.2.f.kq z.1.2.f.kl z.1.2.f.kc) rfl
 rw [aAJ] at y0
 obtain⟨N,hN⟩:∃ N,H.L.s.size+1=N:=⟨_,rfl⟩
 have hwN:IntKind.wrap .i64 ((H.L.s.size:Int)+1)=(N:Int):=by rw [wrap_small _ (by omega) (by omega)];omega
 have MB:=eA N (by omega)
 have HN:=aA hN
 have hN1:N<=1001:=by omega
 have haN:(a:Int)<(N:Int):=by omega
 clear hN
 have B0:Hid (Below w.heap.size w (w.alloc (.cells #[.int .i64 z.1.2.f.k,.int .i64 z.1.2.f.n,.int .i64 z.1.2.f.mn,.int .i64 z.1.2.f.mx,.slice z.1.2.f.rq z.1.2.f.rs.length z.1.2.f.rc,.slice z.1.2.f.kq z.1.2.f.kl z.1.2.f.kc] 25))):=bz9
 have N0:Hid (BoxN (w.alloc (.cells #[.int .i64 z.1.2.f.k,.int .i64 z.1.2.f.n,.int .i64 z.1.2.f.mn,.int .i64 z.1.2.f.mx,.slice z.1.2.f.rq z.1.2.f.rs.length z.1.2.f.rc,.slice z.1.2.f.kq z.1.2.f.kl z.1.2.f.kc] 25)) w.heap.size z.1.2.f):=aD w _
 have P0:Hid (PS H w rs wk mu (w.alloc (.cells #[.int .i64 z.1.2.f.k,.int .i64 z.1.2.f.n,.int .i64 z.1.2.f.mn,.int .i64 z.1.2.f.mx,.slice z.1.2.f.rq z.1.2.f.rs.length z.1.2.f.rc,.slice z.1.2.f.kq z.1.2.f.kl z.1.2.f.kc] 25)) rs):=(PS.refl hw).below B0.out
 clear hw hk hz hn hpl hp
 go_enter Tryz.func78,Tryz.ntmps78
 go_upto_region 2 with fail
 generalize (w.alloc (.cells #[.int .i64 z.1.2.f.k,.int .i64 z.1.2.f.n,.int .i64 z.1.2.f.mn,.int .i64 z.1.2.f.mx,.slice z.1.2.f.rq z.1.2.f.rs.length z.1.2.f.rc,.slice z.1.2.f.kq z.1.2.f.kl z.1.2.f.kc] 25))=w1 at B0 N0 P0 ⊢
 have d1:=P0.out.wm.cell (i:=1) rfl
 clear c0 c1 y0 y1 y2 y3 y4 y5
 go_upto_region 3 with fail
 have B2:Hid (Below w1.heap.size w1 (w1.alloc (.cells (noC N) 4))):=bz9
 have R2:Hid (BR w.heap.size (w1.alloc (.cells (noC N) 4)) w1.heap.size N (cJ N)):=iW B0.out.size (by omega)
 have P2:=aA (P0.out.below B2.out)
 have N2:Hid (BoxN (w1.alloc (.cells (noC N) 4)) w.heap.size z.1.2.f):=(B2.out.block _ (aC N0.out)).trans N0.out
 generalize (w1.alloc (.cells (noC N) 4))=w2 at R2 P2 N2 ⊢
 generalize w1.heap.size=g2 at R2 ⊢
 clear d1 B0 N0 P0 B2
 have HNL:Hid ((cJ N).length=N):=aA (cZ N)
 obtain⟨n0,n1,n2,n3,n4,n5⟩:=N2.out.six
 simp only [m7] at n1 n2 n3 n4 n5
 have e5:(z.1.2.f.k==5)=false:=by rw [HKD.out];rfl
 have e6:(z.1.2.f.k==6)=false:=by rw [HKD.out];rfl
 have e7:(z.1.2.f.k==7)=false:=by rw [HKD.out];rfl
 have e9:(z.1.2.f.k==9)=true:=by rw [HKD.out];rfl
 obtain⟨u,hu⟩:=xT HNP.out (.inr HKD.out)
 obtain⟨b1,b2,b3⟩:=aN8 HNP.out HKD.out
 obtain⟨M,hM⟩:∃ M:Nat,z.1.2.f.mn=(M:Int):=⟨z.1.2.f.mn.toNat,by omega⟩
 obtain⟨mx,hmx⟩:∃ mx,z.1.2.f.mx=mx:=⟨_,rfl⟩
 have HPS:Hid (∀ x,Pz H.L z.1.2 a x↔Rp (fun x y=>Mt H.L u x y) (M:Int) mx ⟨a,[]⟩ ⟨x,[]⟩):=fun x=>by rw [<- hM,<- hmx];exact bJ5 HKD.out hu a x
 have HM:=aA hM
 have HMX:=aA hmx
 have hM2:M<=255:=by omega
 have hmx2:mx=-1\/((M:Int)<=mx/\mx<=255):=by omega
 have hkid:z.1.2.ks[0]?=some u:=by rw [hu];rfl
 obtain⟨y,q1,q2,q3⟩:=HK.out.kid HZ.out hkid
 rw [aAL,cM,aAJ] at q1
 have HZY:=aA q1
 have HU:=aA q2
 have HYN:Hid (y.1.2.sz<=n):=aA (by rw [q2];have:=bW (n8 hkid);have:=HSZ.out;omega)
 have HYP:Hid (PlT H.L y.1.2):=aA (by rw [q2];exact mG HPL.out u (n8 hkid))
 have HUP:Hid (PlT H.L u):=aA (by rw [<- q2];exact HYP.out)
 have hi1:i+1<2000:=by have:=(m8.1 q1).1;omega
 obtain⟨ip,hip⟩:∃ ip,i+1=ip:=⟨_,rfl⟩
 have hwi:IntKind.wrap .i64 ((i:Int)+1)=(ip:Int):=by rw [wrap_small _ (by omega) (by omega)];omega
 rw [hip] at HZY hi1
 clear hip
 clear q1 q2 q3 hkid hu hM hmx b1 b2 b3
 go_upto_region 30 with fail
 have R3:Hid (RI9 H w rs wk mu z.1.2.f g2 N (cJ N) (some ⟨w2.heap.size,0,none⟩) 1 [a] rs (w2.alloc (.cells #[.int .i64 (a:Int)] 3))):=by
  have hb:Below w2.heap.size w2 (w2.alloc (.cells #[.int .i64 (a:Int)] 3)):=bz9
  exact⟨P2.out.below hb,(hb.block _ (aC N2.out)).trans N2.out,R2.out.kept hb,cZ N,⟨rfl,.inr ⟨w2.heap.size,1,_,rfl,P2.out.f.size,aD w2 _,by simp,by unfold maxLen;omega,by simp,by simp⟩⟩⟩
 generalize (w2.alloc (.cells #[.int .i64 (a:Int)] 3))=w3 at R3 ⊢
 generalize w2.heap.size=g3 at R3 ⊢
 have T3:Hid (TS (fun x y=>Mt H.L u x y) M mx ⟨a,[]⟩ 0 (Pq (fun j=>(cJ N)[j]?=some true)) (Pq (fun j=>j∈[a]))/\TC (fun x y=>Mt H.L u x y) M mx ⟨a,[]⟩ 0 (Pq (fun j=>(cJ N)[j]?=some true)) (Pq (fun j=>j∈[a]))):=aV8 (by omega) (fun j h=>dW h) (fun j=>s9)
 clear n0 n1 n2 n3 n4 n5 N2 R2 P2
 go_loopw [16,17] (fun nv tv wr=>∃ (t:Nat) (nq:Option Addr) (nc:Nat) (now:List Nat) (is:List Bool) (rs':List (Option Nat)),nv=.slice nq now.length nc/\tv=.int .i64 (t:Int)/\t<=M+H.L.s.size+1/\now.length<=N/\(∀ v∈now,v<=H.L.s.size)/\RI9 H w rs wk mu z.1.2.f g2 N is nq nc now rs' wr /\
  TS (fun x y=>Mt H.L u x y) M mx ⟨a,[]⟩ t (Pq (fun j=>is[j]?=some true)) (Pq (fun j=>j∈now))/\TC (fun x y=>Mt H.L u x y) M mx ⟨a,[]⟩ t (Pq (fun j=>is[j]?=some true)) (Pq (fun j=>j∈now))) (fun _ tv _=>M+H.L.s.size+2-(intOf tv).toNat)
 case atStart=>exact⟨0,some ⟨g3,0,none⟩,1,[a],cJ N,rs,rfl,rfl,by omega,by simp;omega,fun v hv=>by rw [s9.1 hv];exact ha,R3.out,T3.out.1,T3.out.2⟩
 case round=>
  obtain⟨t,nq,nc,now,is,rs4,rfl,rfl,ht,hnl,hnb,hr4,hts,htc⟩:=hrel
  have HNB:=aA hnb
  have R4:=aA hr4
  have S4:=aA hts
  have C4:=aA htc
  clear hnb hr4 hts htc R3 T3
  by_cases hz0:0<now.length
  ·have i0:(0:Int)<(now.length:Int):=by omega
   have htl:t<=M+H.L.s.size:=by
    have hm:now[0]∈now:=List.getElem_mem hz0
    have h1:=bG3 S4.out hm
    have h2:=HNB.out _ hm
    omega
   have hwt:IntKind.wrap .i64 ((t:Int)+1)=((t:Int)+1):=wrap_small _ (by omega) (by omega)
   have d1:=R4.out.ps.wm.cell (i:=1) rfl
   obtain⟨gn,rfl,gn1,gn2,gn3⟩:=R4.out.ll.at hz0
   go_upto_region 33 with fail
   have B5:Hid (Below wr.heap.size wr (wr.alloc (.cells (noC N) 4))):=bz9
   have I5:Hid (SI9 H w rs wk mu z.1.2.f g2 N is (some ⟨gn,0,none⟩) nc now rs4 wr.heap.size (cJ N) (wr.alloc (.cells (noC N) 4))):=⟨R4.out.below B5.out,iW R4.out.ps.f.size (by omega),cZ N,by have:=R4.out.br.lt;omega⟩
   generalize (wr.alloc (.cells (noC N) 4))=w5 at I5 B5 ⊢
   generalize wr.heap.size=g5 at I5 ⊢
   clear d1 B5 R4
   have O5:Hid (OutK is is now M t 0):=fun j=>by rw [aAL];simp
   have X5:Hid (NxtK H.L u (cJ N) now M t mx 0):=fun j=>⟨fun h=>absurd h dW,fun h=>by obtain⟨-,v,hv,-⟩:=h;rw [aAL] at hv;cases hv⟩
   go_upto_region 34 with fail
   go_loopw [19] (fun kv wr=>∃ (k:Nat) (rs':List (Option Nat)) (is5 is6:List Bool),k<=now.length/\kv=.int .i64 (k:Int)/\SI9 H w rs wk mu z.1.2.f g2 N is5 (some ⟨gn,0,none⟩) nc now rs' g5 is6 wr/\OutK is is5 now M t k/\NxtK H.L u is6 now M t mx k) (fun kv _=>now.length-(intOf kv).toNat)
   case atStart=>exact⟨0,rs4,is,cJ N,o9 _,rfl,I5.out,O5.out,X5.out⟩
   case round=>
    obtain⟨k,rs6,is5,is6,hk,rfl,hi6,ho6,hx6⟩:=hrel
    have I6:=aA hi6
    have O6:=aA ho6
    have X6:=aA hx6
    clear hi6 ho6 hx6 I5 O5 X5
    by_cases hkl:k<now.length
    ·have i1:(k:Int)<(now.length:Int):=by omega
     have hw3:IntKind.wrap .i64 ((k:Int)+1)=(k:Int)+1:=wrap_small _ (by omega) (by omega)
     obtain⟨v,hv⟩:∃ v,now[k]?=some v:=⟨_,g9 hkl⟩
     have HV:=aA hv
     have HVB:=aA (HNB.out v (n8 hv))
     have vN:(v:Int)<(N:Int):=by have h1:=HVB.out;have h2:=HN.out;omega
     have vN2:v<N:=by omega
     clear hv
     by_cases hmt:M<=t
     ·have j0:(M:Int)<=(t:Int):=by omega
      have n2:wr.cell? ⟨w.heap.size,2,none⟩=some (.int .i64 (M:Int)):=by have:=aB I6.out.r.nb (i:=2) rfl;rw [this,<- HM.out];rfl
      have n3:wr.cell? ⟨w.heap.size,3,none⟩=some (.int .i64 mx):=by have:=aB I6.out.r.nb (i:=3) rfl;rw [this,<- HMX.out];rfl
      have x0:=I6.out.r.ll.cell HV.out
      have hfz:=I6.out.r.br.frz v
      obtain⟨b0,hb0⟩:∃ b,wr.cell? ⟨g2,v,none⟩=some (.bool b):=⟨_,I6.out.r.br.cell (g9 (by rw [I6.out.r.ln];exact vN2))⟩
      have I7:=aA (I6.out.put HBS.out HPB.out v true)
      have O7:=aA (O6.out.put HV.out hmt (by rw [I6.out.r.ln];exact vN2))
      have HMT:=aA hmt
      clear hmt
      go_upto_region 38 with fail
      generalize (wr.setCell ⟨g2,v,none⟩ (.bool true))=w7 at I7 ⊢
      have m2:w7.cell? ⟨w.heap.size,2,none⟩=some (.int .i64 (M:Int)):=by have:=aB I7.out.r.nb (i:=2) rfl;rw [this,<- HM.out];rfl
      have m3:w7.cell? ⟨w.heap.size,3,none⟩=some (.int .i64 mx):=by have:=aB I7.out.r.nb (i:=3) rfl;rw [this,<- HMX.out];rfl
      clear n2 n3 x0 hfz hb0
      by_cases htm:(t:Int)=mx
      ·have p0:((t:Int)==mx)=true:=by rw [htm];simp
       have p1:((t:Int) != mx)=false:=by rw [htm];simp
       have X7:=aA (X6.out.skip htm)
       clear htm
       go_wp2
       go_roundw
       case rel=>exact⟨k+1,rs6,_,is6,by omega,by go_num,I7.out,O7.out,X7.out⟩
       case measure=>simp only [intOf];omega
      ·have p0:((t:Int)==mx)=false:=by simpa using htm
       have p1:((t:Int) != mx)=true:=by simpa using htm
       have HTM:=aA htm
       clear htm
       have D7:Hid (Below _ _ _):=aA ((Below.refl w7.heap.size w7).drew)
       have I8:=aA (I7.out.below D7.out)
       have MK:Hid (Calls Tryz.prog 92 #[.pointer (some ⟨H.b,0,none⟩),.slice (some ⟨g5,0,none⟩) N N,.int .i64 (ip:Int),.int .i64 (v:Int),.bool true] w7.drew (MkP H w7.drew rs6 wk mu w.heap.size g5 N is6 (fun x=>Pz H.L u v x/\fuP true v x))):=by
        have:=jL HP.out HK.out I8.out.r.ps.wm HZY.out HYN.out HYP.out HVB.out I8.out.br (I8.out.ln.trans HN.out.symm) (o0 HBS.out I8.out.br.lo) (by have h1:=I8.out.br.lo;have h2:=HPB.out;omega) true
        rw [I8.out.ln,HU.out] at this
        exact this
       have x1:=I7.out.r.ll.cell HV.out
       go_upto_region 39 with fail
       go_region_held (fun w'=>w'.cell? ⟨gn,k,none⟩=some (.int .i64 (v:Int))/\w'.cell? ⟨w.heap.size,2,none⟩=some (.int .i64 (M:Int))) (go_keep) (first |(go_at_call 92;(with_reducible refine(MK.out).mono ?_);intro e w9 hm;obtain⟨he,rs9,is9,h9,h10⟩:=I8.out.mark hm;subst he;have I9:=aA h9;have X9:=aA (X6.out.put HV.out HTM.out (b:=true) ⟨fun _=>HMT.out,fun _=>rfl⟩ h10);clear hm h9 h10;have s1:=I9.out.r.ll.cell HV.out;have s2:w9.cell? ⟨w.heap.size,2,none⟩=some (.int .i64 (M:Int)):=(by have:=aB I9.out.r.nb (i:=2) rfl;rw [this,<- HM.out];rfl)))
       go_wp2
       go_roundw
       case rel=>exact⟨k+1,rs9,_,is9,by omega,by go_num,I9.out,O7.out,X9.out⟩
       case measure=>simp only [intOf];omega
     ·have j0:¬ (M:Int)<=(t:Int):=by omega
      have n2:wr.cell? ⟨w.heap.size,2,none⟩=some (.int .i64 (M:Int)):=by have:=aB I6.out.r.nb (i:=2) rfl;rw [this,<- HM.out];rfl
      have n3:wr.cell? ⟨w.heap.size,3,none⟩=some (.int .i64 mx):=by have:=aB I6.out.r.nb (i:=3) rfl;rw [this,<- HMX.out];rfl
      have O7:=aA (O6.out.skip hmt)
      have HMT:=aA hmt
      clear hmt
      have htm:(t:Int)≠mx:=by omega
      have p0:((t:Int)==mx)=false:=by simpa using htm
      have p1:((t:Int) != mx)=true:=by simpa using htm
      have HTM:=aA htm
      clear htm
      have D7:Hid (Below _ _ _):=aA ((Below.refl wr.heap.size wr).drew)
      have I8:=aA (I6.out.below D7.out)
      have MK:Hid (Calls Tryz.prog 92 #[.pointer (some ⟨H.b,0,none⟩),.slice (some ⟨g5,0,none⟩) N N,.int .i64 (ip:Int),.int .i64 (v:Int),.bool false] wr.drew (MkP H wr.drew rs6 wk mu w.heap.size g5 N is6 (fun x=>Pz H.L u v x/\fuP false v x))):=by
       have:=jL HP.out HK.out I8.out.r.ps.wm HZY.out HYN.out HYP.out HVB.out I8.out.br (I8.out.ln.trans HN.out.symm) (o0 HBS.out I8.out.br.lo) (by have h1:=I8.out.br.lo;have h2:=HPB.out;omega) false
       rw [I8.out.ln,HU.out] at this
       exact this
      have x1:=I6.out.r.ll.cell HV.out
      go_upto_region 39 with fail
      go_region_held (fun w'=>w'.cell? ⟨gn,k,none⟩=some (.int .i64 (v:Int))/\w'.cell? ⟨w.heap.size,2,none⟩=some (.int .i64 (M:Int))) (go_keep) (first |(go_at_call 92;(with_reducible refine(MK.out).mono ?_);intro e w9 hm;obtain⟨he,rs9,is9,h9,h10⟩:=I8.out.mark hm;subst he;have I9:=aA h9;have X9:=aA (X6.out.put HV.out HTM.out (b:=false) ⟨fun e=>(by cases e),fun q=>absurd q HMT.out⟩ h10);clear hm h9 h10;have s1:=I9.out.r.ll.cell HV.out;have s2:w9.cell? ⟨w.heap.size,2,none⟩=some (.int .i64 (M:Int)):=(by have:=aB I9.out.r.nb (i:=2) rfl;rw [this,<- HM.out];rfl)))
      go_wp2
      go_roundw
      case rel=>exact⟨k+1,rs9,is5,is9,by omega,by go_num,I9.out,O7.out,X9.out⟩
      case measure=>simp only [intOf];omega
    ·have i1:¬ (k:Int)<(now.length:Int):=by omega
     have HT:Hid (now.take k=now):=aA (o4 (by omega))
     have O8:Hid (∀ j,is5[j]?=some true↔is[j]?=some true\/(M<=t/\j∈now)):=fun j=>by rw [O6.out j,HT.out]
     have X8:Hid (∀ j,is6[j]?=some true↔(t:Int)≠mx/\∃ y∈now,Pz H.L u y j/\(M<=t->y<j)):=fun j=>by rw [X6.out j,HT.out]
     clear O6 X6 HT
     go_upto_region 41 with fail
     go_loopw [20] (fun kv wr=>∃ (k:Nat) (is7:List Bool),k<=N/\kv=.int .i64 (k:Int)/\SI9 H w rs wk mu z.1.2.f g2 N is5 (some ⟨gn,0,none⟩) nc now rs6 g5 is7 wr/\CutK is5 is6 is7 M t mx k) (fun kv _=>N-(intOf kv).toNat)
     case atStart=>exact⟨0,is6,o9 _,rfl,I6.out,CutK.zero⟩
     case round=>
      obtain⟨k2,is7,hk2,rfl,hi7,hc7⟩:=hrel
      have I7:=aA hi7
      have Q7:=aA hc7
      clear hi7 hc7 I6
      have d1:=I7.out.r.ps.wm.cell (i:=1) rfl
      have n2:wr.cell? ⟨w.heap.size,2,none⟩=some (.int .i64 (M:Int)):=by have:=aB I7.out.r.nb (i:=2) rfl;rw [this,<- HM.out];rfl
      have n3:wr.cell? ⟨w.heap.size,3,none⟩=some (.int .i64 mx):=by have:=aB I7.out.r.nb (i:=3) rfl;rw [this,<- HMX.out];rfl
      have RC:=aA (dD I7.out.br (by rw [I7.out.ln];omega))
      have HLN:=aA I7.out.ln
      have DONE:Hid ((∀ j,is7[j]?=some true↔is6[j]?=some true/\((mx=-1/\M<=t)->¬ is5[j]?=some true))->(TS (fun x y=>Mt H.L u x y) M mx ⟨a,[]⟩ (t+1) (Pq (fun j=>is5[j]?=some true)) (Pq (fun j=>j∈eG is7 is7.length))/\TC (fun x y=>Mt H.L u x y) M mx ⟨a,[]⟩ (t+1) (Pq (fun j=>is5[j]?=some true)) (Pq (fun j=>j∈eG is7 is7.length)))):=fun h=>by
       refine aV9 HUP.out S4.out C4.out O8.out (fun j=>?_)
       rw [hQ,h j,X8.out j]
      have HPB2:Hid (∀ v∈eG is7 is7.length,v<=H.L.s.size):=fun v h=>by have h1:=lJ (hQ.1 h);have h2:=HLN.out;have h3:=HN.out;omega
      have hpl7:=pX is7 is7.length
      rw [HLN.out] at RC DONE HPB2 hpl7
      by_cases hinf:mx=-1/\M<=t
      ·by_cases hks:k2<N
       ·have i2:(k2:Int)<=(H.L.s.size:Int):=by have:=HN.out;omega
        have i3:(M:Int)<=(t:Int):=by omega
        have i4:(mx==-1)=true:=by rw [hinf.1];rfl
        have i5:(k2:Int)<(N:Int):=by omega
        have hw4:IntKind.wrap .i64 ((k2:Int)+1)=(k2:Int)+1:=wrap_small _ (by omega) (by omega)
        obtain⟨b,hb⟩:∃ b,is7[k2]?=some b:=⟨_,g9 (by rw [I7.out.ln];exact hks)⟩
        obtain⟨o,ho⟩:∃ o,is5[k2]?=some o:=⟨_,g9 (by rw [I7.out.r.ln];exact hks)⟩
        have x0:=I7.out.br.cell hb
        have x1:=I7.out.r.br.cell ho
        have hfz:=I7.out.br.frz k2
        have I8:=aA (I7.out.put2 HBS.out HPB.out k2 (b && !o))
        have Q8:=aA (Q7.out.put hinf hb ho)
        clear hinf hb ho RC DONE
        cases b with
        | true=>
         cases o with
         | true=>
          go_wp2
          go_roundw
          case rel=>exact⟨k2+1,_,by omega,by go_num,I8.out,Q8.out⟩
          case measure=>simp only [intOf];omega
         | false=>
          go_wp2
          go_roundw
          case rel=>exact⟨k2+1,_,by omega,by go_num,I8.out,Q8.out⟩
          case measure=>simp only [intOf];omega
        | false=>
         go_wp2
         go_roundw
         case rel=>exact⟨k2+1,_,by omega,by go_num,I8.out,Q8.out⟩
         case measure=>simp only [intOf];omega
       ·have i2:¬ (k2:Int)<=(H.L.s.size:Int):=by have:=HN.out;omega
        have T9:=aA (DONE.out fun j=>by
         rw [Q7.out j]
         refine and_congr Iff.rfl ⟨fun h q r=>h q ?_ r,fun h q _=>h q⟩
         have h1:=lJ r
         have h2:=I7.out.r.ln
         omega)
        clear hinf DONE
        generalize eG is7 N=now2 at RC T9 HPB2 hpl7
        go_wp2_with (go_at_call 29;(with_reducible refine(RC.out).mono ?_);rintro e w8 ⟨q8,c8,rfl,h81,h82⟩;have L8:=aA h81;have R8:=aA (I7.out.r.below h82);clear h81 h82)
        go_roundw
        case rel=>exact⟨t+1,q8,c8,now2,is5,rs6,rfl,by go_num,by omega,hpl7,HPB2.out,⟨R8.out.ps,R8.out.nb,R8.out.br,R8.out.ln,L8.out.mono I7.out.r.ps.f.size⟩,T9.out.1,T9.out.2⟩
        case measure=>simp only [intOf];omega
      ·have T9:=aA (DONE.out fun j=>by
        rw [Q7.out j]
        exact and_congr Iff.rfl ⟨fun _ q=>absurd q hinf,fun _ q=>absurd q hinf⟩)
       have i4:mx≠-1\/¬ (M:Int)<=(t:Int):=by omega
       clear hinf DONE
       generalize eG is7 N=now2 at RC T9 HPB2 hpl7
       have FIN:Hid (∀ (q8:Option Addr) (c8:Nat) (w8:World),Ls12 wr.heap.size w8 q8 c8 now2->Below wr.heap.size wr w8->RI9 H w rs wk mu z.1.2.f g2 N is5 q8 c8 now2 rs6 w8):=fun q8 c8 w8 h1 h2=>by
        have R8:=I7.out.r.below h2
        exact⟨R8.ps,R8.nb,R8.br,R8.ln,h1.mono I7.out.r.ps.f.size⟩
       by_cases hks:k2<N
       ·have i2:(k2:Int)<=(H.L.s.size:Int):=by have:=HN.out;omega
        by_cases hm1:mx=-1
        ·have i5:(mx==-1)=true:=by rw [hm1];rfl
         have i6:¬ (M:Int)<=(t:Int):=by omega
         clear i4 hm1
         go_wp2_with (go_at_call 29;(with_reducible refine(RC.out).mono ?_);rintro e w8 ⟨q8,c8,rfl,h81,h82⟩;have R8:=aA (FIN.out q8 c8 w8 h81 h82);clear h81 h82)
         go_roundw
         case rel=>exact⟨t+1,q8,c8,now2,is5,rs6,rfl,by go_num,by omega,hpl7,HPB2.out,R8.out,T9.out.1,T9.out.2⟩
         case measure=>simp only [intOf];omega
        ·have i5:(mx==-1)=false:=by simpa using hm1
         clear i4 hm1
         go_wp2_with (go_at_call 29;(with_reducible refine(RC.out).mono ?_);rintro e w8 ⟨q8,c8,rfl,h81,h82⟩;have R8:=aA (FIN.out q8 c8 w8 h81 h82);clear h81 h82)
         go_roundw
         case rel=>exact⟨t+1,q8,c8,now2,is5,rs6,rfl,by go_num,by omega,hpl7,HPB2.out,R8.out,T9.out.1,T9.out.2⟩
         case measure=>simp only [intOf];omega
       ·have i2:¬ (k2:Int)<=(H.L.s.size:Int):=by have:=HN.out;omega
        clear i4
        go_wp2_with (go_at_call 29;(with_reducible refine(RC.out).mono ?_);rintro e w8 ⟨q8,c8,rfl,h81,h82⟩;have R8:=aA (FIN.out q8 c8 w8 h81 h82);clear h81 h82)
        go_roundw
        case rel=>exact⟨t+1,q8,c8,now2,is5,rs6,rfl,by go_num,by omega,hpl7,HPB2.out,R8.out,T9.out.1,T9.out.2⟩
        case measure=>simp only [intOf];omega
  ·have i0:¬ (0:Int)<(now.length:Int):=by omega
   have RC:=aA (dD R4.out.br (by rw [R4.out.ln];omega))
   have HE:Hid (fK H.L z.1.2 a (eG is is.length)):=kK fun x=>by
    rw [HPS.out]
    exact bG4 S4.out C4.out (fun j hj=>by have:=List.length_pos_of_mem hj;omega) x
   have HLN:=aA R4.out.ln
   rw [HLN.out] at RC HE
   go_wp2_with (go_at_call 29;(with_reducible refine(RC.out).mono ?_);rintro e w7 ⟨q6,c6,rfl,h61,h62⟩;have L6:=aA h61;have B6:=aA h62;clear h61 h62)
   go_ret
   exact nP R4.out.ps L6.out B6.out HE.out HBS.out
end
section
attribute [local go_sem] Oper.semAt_some aU
variable {H:Gh} {rs rs' rs'':List (Option Nat)} {wk:Int} {mu:Bool}
theorem uH{n:Nat}(hp:PlC H n)(hk:Gk H){w:World}(hw:WM H w rs wk mu){i a:Nat}{z:Zl}(hz:H.Z[i]?=some z)(hn:z.1.2.sz<=n+1)(hpl:PlT H.L z.1.2)(ha:a<=H.L.s.size)(hkd:z.1.2.f.k=1\/z.1.2.f.k=2\/z.1.2.f.k=3\/z.1.2.f.k=4) :
  Calls Tryz.prog 78 #[.pointer (some ⟨H.b,0,none⟩),.int .i64 (i:Int),.int .i64 (a:Int)] w (iZ H w rs wk mu z.1.2 a):=by
 have HK:=aA hk
 have HZ:=aA hz
 have HSZ:=aA hn
 have hil:=(m8.1 hz).1
 have iil:(i:Int)<(H.Z.length:Int):=by omega
 have hlen:=hk.len
 have hsm:=hk.sm
 have HBS:Hid (H.base<=w.heap.size):=aA (o0 hw.bb (aBC hw.b_lt))
 have HPB:=aA hw.pb_lt
 have HPL:=aA hpl
 have HP:=aA hp
 have HNP:=aA (((aI z.1.2).1 (hk.npz hz)).1)
 have c0:=hw.cell (i:=0) rfl
 have c1:=hw.cell (i:=1) rfl
 have y0:=hw.z.cells hz (j:=0) (v:=.int .i64 z.1.2.f.k) rfl
 have y1:=hw.z.cells hz (j:=1) (v:=.int .i64 z.1.2.f.n) rfl
 have y2:=hw.z.cells hz (j:=2) (v:=.int .i64 z.1.2.f.mn) rfl
 have y3:=hw.z.cells hz (j:=3) (v:=.int .i64 z.1.2.f.mx) rfl
 have y4:=hw.z.cells hz (j:=4) (v:=.slice z.1.2.f.rq z.1.2.f.rs.length z.1.2.f.rc) rfl
 have y5:=hw.z.cells hz (j:=5) (v:=.slice z.1.2.f.kq z.1.2.f.kl z.1.2.f.kc) rfl
 rw [aAJ] at y0
 obtain⟨N,hN⟩:∃ N,H.L.s.size+1=N:=⟨_,rfl⟩
 have hwN:IntKind.wrap .i64 ((H.L.s.size:Int)+1)=(N:Int):=by rw [wrap_small _ (by omega) (by omega)];omega
 have MB:=eA N (by omega)
 have HN:=aA hN
 have hN1:N<=1001:=by omega
 have haN:(a:Int)<(N:Int):=by omega
 clear hN
 have B0:Hid (Below w.heap.size w (w.alloc (.cells #[.int .i64 z.1.2.f.k,.int .i64 z.1.2.f.n,.int .i64 z.1.2.f.mn,.int .i64 z.1.2.f.mx,.slice z.1.2.f.rq z.1.2.f.rs.length z.1.2.f.rc,.slice z.1.2.f.kq z.1.2.f.kl z.1.2.f.kc] 25))):=bz9
 have N0:Hid (BoxN (w.alloc (.cells #[.int .i64 z.1.2.f.k,.int .i64 z.1.2.f.n,.int .i64 z.1.2.f.mn,.int .i64 z.1.2.f.mx,.slice z.1.2.f.rq z.1.2.f.rs.length z.1.2.f.rc,.slice z.1.2.f.kq z.1.2.f.kl z.1.2.f.kc] 25)) w.heap.size z.1.2.f):=aD w _
 have P0:Hid (PS H w rs wk mu (w.alloc (.cells #[.int .i64 z.1.2.f.k,.int .i64 z.1.2.f.n,.int .i64 z.1.2.f.mn,.int .i64 z.1.2.f.mx,.slice z.1.2.f.rq z.1.2.f.rs.length z.1.2.f.rc,.slice z.1.2.f.kq z.1.2.f.kl z.1.2.f.kc] 25)) rs):=(PS.refl hw).below B0.out
 clear hw hk hz hn hpl hp
 go_enter Tryz.func78,Tryz.ntmps78
 go_upto_region 2 with fail
 generalize (w.alloc (.cells #[.int .i64 z.1.2.f.k,.int .i64 z.1.2.f.n,.int .i64 z.1.2.f.mn,.int .i64 z.1.2.f.mx,.slice z.1.2.f.rq z.1.2.f.rs.length z.1.2.f.rc,.slice z.1.2.f.kq z.1.2.f.kl z.1.2.f.kc] 25))=w1 at B0 N0 P0 ⊢
 have d1:=P0.out.wm.cell (i:=1) rfl
 clear c0 c1 y0 y1 y2 y3 y4 y5
 go_upto_region 3 with fail
 have B2:Hid (Below w1.heap.size w1 (w1.alloc (.cells (noC N) 4))):=bz9
 have R2:Hid (BR w.heap.size (w1.alloc (.cells (noC N) 4)) w1.heap.size N (cJ N)):=iW B0.out.size (by omega)
 have P2:=aA (P0.out.below B2.out)
 have N2:Hid (BoxN (w1.alloc (.cells (noC N) 4)) w.heap.size z.1.2.f):=(B2.out.block _ (aC N0.out)).trans N0.out
 generalize (w1.alloc (.cells (noC N) 4))=w2 at R2 P2 N2 ⊢
 generalize w1.heap.size=g2 at R2 ⊢
 clear d1 B0 N0 P0 B2
 have HNL:Hid ((cJ N).length=N):=aA (cZ N)
 obtain⟨n0,n1,n2,n3,n4,n5⟩:=N2.out.six
 simp only [m7] at n1 n2 n3 n4 n5
 have e5:(z.1.2.f.k==5)=false:=by simp;omega
 have e6:(z.1.2.f.k==6)=false:=by simp;omega
 have e7:(z.1.2.f.k==7)=false:=by simp;omega
 have e9:(z.1.2.f.k==9)=false:=by simp;omega
 have HPS:Hid (∀ x,Pz H.L z.1.2 a x↔cW H.L z.1.2.f a=some x):=fun x=>aY9 hkd a x
 have HAR:Hid (ArgR w2 (.slice z.1.2.f.rq z.1.2.f.rs.length z.1.2.f.rc) z.1.2.f.rs):=by
  have:=fD H.t [] P2.out.wm.ta z.1 (n8 (HK.out.at HZ.out))
  exact((aI _).1 this).1.r
 have LC:=aA (aP7 P2.out.wm z.1.2.f a ha (by omega) HAR.out)
 have hle:Hid (∀ j,cW H.L z.1.2.f a=some j->j<=H.L.s.size):=fun j h=>(uU h ha).2
 obtain⟨o,ho⟩:∃ o,cW H.L z.1.2.f a=o:=⟨_,rfl⟩
 rw [ho] at HPS LC hle
 clear hkd ho
 cases o with
 | none=>
  have LC':Hid (Calls Tryz.prog 93 #[.pointer (some ⟨H.b,0,none⟩),.agg #[.int .i64 z.1.2.f.k,.int .i64 z.1.2.f.n,.int .i64 z.1.2.f.mn,.int .i64 z.1.2.f.mx,.slice z.1.2.f.rq z.1.2.f.rs.length z.1.2.f.rc,.slice z.1.2.f.kq z.1.2.f.kl z.1.2.f.kc],.int .i64 (a:Int)] w2 fun e w'=>e=.returned (.int .i64 (-1))/\Below w2.heap.size w2 w'):=LC
  clear LC
  go_upto_region 45 with (go_at_call 93;(with_reducible refine(LC'.out).mono ?_);rintro e w5 ⟨rfl,h5⟩;have B5:=aA h5;clear h5)
  have R5:=aA (R2.out.kept B5.out)
  have P5:=aA (P2.out.below B5.out)
  have RC:=aA (dD R5.out (by rw [HNL.out];omega))
  have HE:Hid (fK H.L z.1.2 a (eG (cJ N) (cJ N).length)):=kK fun j=>⟨fun h=>absurd h dW,fun h=>by have:=(HPS.out j).1 h;cases this⟩
  rw [HNL.out] at RC HE
  clear n0 n1 n2 n3 n4 n5
  go_wp2_with (go_at_call 29;(with_reducible refine(RC.out).mono ?_);rintro e w6 ⟨q6,c6,rfl,h61,h62⟩;have L6:=aA h61;have B6:=aA h62;clear h61 h62)
  go_ret
  exact nP P5.out L6.out B6.out HE.out HBS.out
 | some x=>
  have LC':Hid (Calls Tryz.prog 93 #[.pointer (some ⟨H.b,0,none⟩),.agg #[.int .i64 z.1.2.f.k,.int .i64 z.1.2.f.n,.int .i64 z.1.2.f.mn,.int .i64 z.1.2.f.mx,.slice z.1.2.f.rq z.1.2.f.rs.length z.1.2.f.rc,.slice z.1.2.f.kq z.1.2.f.kl z.1.2.f.kc],.int .i64 (a:Int)] w2 fun e w'=>e=.returned (.int .i64 (x:Int))/\Below w2.heap.size w2 w'):=LC
  clear LC
  have hx:=hle.out x rfl
  have i0:(0:Int)<=(x:Int):=by omega
  have i1:(x:Int)<(N:Int):=by have:=HN.out;omega
  go_upto_region 5 with (go_at_call 93;(with_reducible refine(LC'.out).mono ?_);rintro e w5 ⟨rfl,h5⟩;have B5:=aA h5;clear h5)
  have R5:=aA (R2.out.kept B5.out)
  have P5:=aA (P2.out.below B5.out)
  have hfz:=R5.out.frz x
  obtain⟨b0,hb0⟩:∃ b,w5.cell? ⟨g2,x,none⟩=some (.bool b):=⟨_,R5.out.cell (g9 (by rw [HNL.out];have:=HN.out;omega))⟩
  clear n0 n1 n2 n3 n4 n5
  go_upto_region 45 with fail
  have R6:=aA (R5.out.put x true)
  have P6:=aA (P5.out.put R5.out ((Fr.refl (fun k=>k=g2) w5).setCell (p:=⟨g2,x,none⟩) rfl (.bool true)) R5.out.lo HBS.out HPB.out)
  generalize (w5.setCell ⟨g2,x,none⟩ (.bool true))=w6 at R6 P6 ⊢
  have HL6:Hid (((cJ N).set x true).length=N):=aA (by rw [aAQ,cZ])
  have RC:=aA (dD R6.out (by rw [HL6.out];omega))
  have HE:Hid (fK H.L z.1.2 a (eG ((cJ N).set x true) ((cJ N).set x true).length)):=kK fun j=>by
   rw [nA (by rw [HNL.out];have:=HN.out;omega),HPS.out]
   constructor
   ·rintro (h | h)
    ·exact absurd h dW
    ·rw [h]
   ·intro h
    exact .inr (aAE h).symm
  rw [HL6.out] at RC HE
  go_wp2_with (go_at_call 29;(with_reducible refine(RC.out).mono ?_);rintro e w7 ⟨q6,c6,rfl,h61,h62⟩;have L6:=aA h61;have B6:=aA h62;clear h61 h62)
  go_ret
  exact nP P6.out L6.out B6.out HE.out HBS.out
end
section
attribute [local go_sem] Oper.semAt_some aU
variable {H:Gh} {V V':World} {rs rs' rs'':List (Option Nat)} {wk:Int} {mu:Bool}
theorem RowK.of{k:Nat}{t:Tr}(h:RowK H V k t)(he:∀ (g:Nat) (cs:Array Value) (ty:TypeId),V.heap[g]?=some (.cells cs ty (0,0))->(ty=3\/g=k)->V'.heap[g]?=V.heap[g]?):RowK H V' k t:=by
 obtain⟨cs,h1,h2,h3⟩:=h
 refine⟨cs,(he k _ _ h1 (.inr rfl)).trans h1,h2,fun a ha=>?_⟩
 obtain⟨b,q,n,c,p1,p2,p3⟩:=h3 a ha
 refine⟨b,q,n,c,p1,p2,fun e=>?_⟩
 obtain⟨l,l1,l2,l3⟩:=p3 e
 refine⟨l,l1,?_,l3⟩
 obtain⟨h1,h2 | ⟨g,cap,cur,q1,q2,q3,q4⟩⟩:=l2
 ·exact⟨h1,.inl h2⟩
 ·exact⟨h1,.inr ⟨g,cap,cur,q1,q2,(he g _ _ q3 (.inl rfl)).trans q3,q4⟩⟩
def kP(n:Nat):Array Value:=((List.range n).flatMap fun _=>[Value.bool false,Value.slice none 0 0]).toArray
theorem mD:∀ (n s a j:Nat),a<n->j<2->((List.range' s n).flatMap fun _=>[Value.bool false,Value.slice none 0 0])[a*2+j]?=[Value.bool false,Value.slice none 0 0][j]?
 | n+1,s,0,j,_,hj=>by
  rw [List.range'_succ,aAN,Nat.zero_mul,m7,aAH (by simpa using hj)]
 | n+1,s,a+1,j,h,hj=>by
  rw [List.range'_succ,aAN,aAA (by simp;omega)]
  have:=mD n (s+1) a j (by omega) hj
  rw [<- this]
  congr 1
  simp
  omega
theorem uA(n:Nat):(kP n).toList.length=n*2:=by
 unfold kP
 simp
 induction n with
 | zero=>rfl
 | succ n ih=>rw [List.range_succ];simp [ih];omega
theorem aY1{t:Tr}{k:Nat}(h:V.heap[k]?=some (.cells (kP (H.n+1)) 112 (0,0))):RowK H V k t:=by
 refine⟨(kP (H.n+1)).toList,by simpa using h,uA _,fun a ha=>⟨false,none,0,0,?_,?_,fun e=>by cases e⟩⟩
 ·have:=mD (H.n+1) 0 a 0 (by omega) (by omega)
  unfold kP
  rw [List.range_eq_range']
  simpa using this
 ·have:=mD (H.n+1) 0 a 1 (by omega) (by omega)
  unfold kP
  rw [List.range_eq_range']
  simpa using this
theorem aK7:(Tryz.prog.info? 112).map (fun i=>(i.zero,i.size,i.bytes))=some (some (.agg #[.bool false,.slice none 0 0]),2,32):=by kernel_rfl
theorem aI5:Tryz.prog.underlying 110=some (.slice 112):=by kernel_rfl
theorem aE4(n:Nat)(h:n<=1000000)(w:World) :
  (Instr.makeSlice 110 (.int .i64 (n:Int)) (.int .i64 (n:Int))).run Tryz.prog w=.ok (.slice (some ⟨w.heap.size,0,none⟩) n n) (w.alloc (.cells (kP n) 112)):=by
 obtain⟨i0,hi,hz0,hz1,hz2⟩:=aR aK7
 have:=run_make (P:=Tryz.prog) w 110 112 i0 (.agg #[.bool false,.slice none 0 0]) aI5 hi hz0 .i64 .i64 (n:Int) (n:Int) (by omega) (by omega) (by rw [hz2];omega) (by omega)
 rw [hz1] at this
 have e:madeCells #[.bool false,.slice none 0 0] (n*2)=kP n:=by
  apply Array.ext
  ·rw [size_madeCells,<- Array.length_toList,uA]
  intro i h1 h2
  have hi:i<n*2:=by rw [size_madeCells] at h1;exact h1
  have g:=mD n 0 (i/2) (i%2) (by omega) (by omega)
  rw [show i/2*2+i%2=i by omega,<- List.range_eq_range'] at g
  have h3:(kP n)[i]?=[Value.bool false,Value.slice none 0 0][i%2]?:=by unfold kP;simpa using g
  rw [Array.getElem?_eq_getElem h2] at h3
  have h4:(madeCells #[Value.bool false,Value.slice none 0 0] (n*2))[i]=#[Value.bool false,Value.slice none 0 0][i%2]!:=by simp [madeCells]
  rw [h4]
  rcases Nat.mod_two_eq_zero_or_one i with q | q
  ·rw [q] at h3 ⊢
   have:=aAE h3
   rw [this]
   rfl
  ·rw [q] at h3 ⊢
   have:=aAE h3
   rw [this]
   rfl
 rw [<- e]
 simpa [Value.cells] using this
theorem WM.b_rb(h:WM H V rs wk mu):H.b≠H.rb:=by
 obtain⟨-,-,cur,hc⟩:=aF h.rw rfl
 exact bD h.hd hc (by decide)
theorem WM.rb_lt(h:WM H V rs wk mu):H.rb<V.heap.size:=(aF h.rw rfl).2.1
theorem WM.row_lt(h:WM H V rs wk mu){i k:Nat}(hk:rs[i]?=some (some k)):k<V.heap.size/\∃ cs,V.heap[k]?=some (.cells cs 112 (0,0)):=by
 have hl:=h.rl
 have hi:=(m8.1 hk).1
 obtain⟨cs,h1,-⟩:=(h.row i k (H.Z[i]'(by omega)) hk (g9 _)).2
 exact⟨aC h1,_,h1⟩
theorem WM.row_add(h:WM H V rs wk mu){i:Nat}(hi:rs[i]?=some none):WM H ((V.alloc (.cells (kP (H.n+1)) 112)).setCell ⟨H.rb,i,none⟩ (.slice (some ⟨V.heap.size,0,none⟩) (H.n+1) (H.n+1))) (rs.set i (some V.heap.size)) wk mu:=by
 have hil:=(m8.1 hi).1
 have hb:Below V.heap.size V (V.alloc (.cells (kP (H.n+1)) 112)):=bz9
 have h1:=h.below hb
 have hnew:=aD V (.cells (kP (H.n+1)) 112)
 have hlt:=h.rb_lt
 generalize (V.alloc (.cells (kP (H.n+1)) 112))=V1 at hb h1 hnew ⊢
 have hf:Fr (fun k=>k=H.rb) V1 (V1.setCell ⟨H.rb,i,none⟩ (.slice (some ⟨V.heap.size,0,none⟩) (H.n+1) (H.n+1))):=(Fr.refl (fun k=>k=H.rb) V1).setCell (p:=⟨H.rb,i,none⟩) rfl _
 obtain⟨-,-,curr,hrb⟩:=aF h1.rw rfl
 have hst:=(World.ownsRow.stored h1.rw i (.slice (some ⟨V.heap.size,0,none⟩) (H.n+1) (H.n+1))).1
 generalize (V1.setCell ⟨H.rb,i,none⟩ (.slice (some ⟨V.heap.size,0,none⟩) (H.n+1) (H.n+1)))=V2 at hf hst ⊢
 have other:∀ (g:Nat) (cs:Array Value) (ty:TypeId),V1.heap[g]?=some (.cells cs ty (0,0))->ty≠110->V2.heap[g]?=V1.heap[g]?:=fun g cs ty hg hty=>hf.block g (aC hg) (fun e=>bD hg hrb hty e)
 refine⟨(other _ _ _ h1.hd (by decide)).trans h1.hd,aH h1.z hf (fun k hk e=>?_),aH h1.pl hf (fun k hk e=>?_),?_,fun a b k p q=>?_,fun j k z p q=>?_,h.bb,?_,h.tf,h.wk⟩
 ·obtain⟨-,-,cur,hc⟩:=aF h1.z hk
  exact bD hc hrb (by decide) e
 ·obtain⟨-,-,cur,hc⟩:=aF h1.pl hk
  exact bD hc hrb (by decide) e
 ·rw [List.map_set];exact hst
 ·rw [aAZ] at p q
  split at p
  ·split at q
   ·omega
   ·have hk:V.heap.size=k:=aAE (aAE p)
    have:=(h.row_lt q).1
    omega
  ·split at q
   ·have hk:V.heap.size=k:=aAE (aAE q)
    have:=(h.row_lt p).1
    omega
   ·exact h.ap a b k p q
 ·rw [aAZ] at p
  split at p
  ·have hk:V.heap.size=k:=aAE (aAE p)
   subst hk
   have hlo:=aBC (aBA h.bb h.b_lt)
   exact⟨hlo,aY1 ((hf.block _ (aC hnew) (by omega)).trans hnew)⟩
  ·obtain⟨r1,r2⟩:=h1.row j k z p q
   refine⟨r1,r2.of fun g cs ty hg hty=>other g cs ty hg ?_⟩
   rcases hty with e | e
   ·rw [e];decide
   ·subst e
    obtain⟨cs',hcs⟩:=(h1.row_lt p).2
    rw [hcs] at hg
    injection hg with hg
    injection hg with _ hg _
    rw [<- hg];decide
 ·refine h1.ta.ckN h.tf ⟨hf.size,fun k cur t fr hk hc=>(hf.block k (aC hc) (fun e=>?_)).trans hc⟩
  have:H.base<=H.rb:=(aF h.rw rfl).1
  omega
theorem WM.row_set(h:WM H V rs wk mu){i k a:Nat}{z:Zl}(hk:rs[i]?=some (some k))(hz:H.Z[i]?=some z)(ha:a<=H.n){q:Option Addr}{c:Nat}{l:List Nat}(hl:Ls12 H.base V q c l)(hE:fK H.L z.1.2 a l) :
  WM H ((V.setCell ⟨k,a*2,none⟩ (.bool true)).setCell ⟨k,a*2+1,none⟩ (.slice q l.length c)) rs wk mu:=by
 have hf:Fr (fun g=>g=k) V ((V.setCell ⟨k,a*2,none⟩ (.bool true)).setCell ⟨k,a*2+1,none⟩ (.slice q l.length c)):=((Fr.refl (fun g=>g=k) V).setCell (p:=⟨k,a*2,none⟩) rfl _).setCell (p:=⟨k,a*2+1,none⟩) rfl _
 obtain⟨cs,h1,h2,h3⟩:=(h.row i k z hk hz).2
 have h4:=aJ (aJ h1 (a*2) (.bool true)) (a*2+1) (.slice q l.length c)
 rw [f8,f8] at h4
 have hlo:=(h.row i k z hk hz).1
 generalize ((V.setCell ⟨k,a*2,none⟩ (.bool true)).setCell ⟨k,a*2+1,none⟩ (.slice q l.length c))=V2 at hf h4 ⊢
 have other:∀ (g:Nat) (cs:Array Value) (ty:TypeId),V.heap[g]?=some (.cells cs ty (0,0))->ty≠112->V2.heap[g]?=V.heap[g]?:=fun g cs ty hg hty=>hf.block g (aC hg) (fun e=>bD hg h1 hty e)
 have lsk:∀ {q:Option Addr} {c:Nat} {l:List Nat},Ls12 H.base V q c l->Ls12 H.base V2 q c l:=fun {q c l} hh=>aH hh hf (fun g hg e=>by
  obtain⟨-,-,cur,hc⟩:=aF hh hg
  exact bD hc h1 (by decide) e)
 refine⟨(other _ _ _ h.hd (by decide)).trans h.hd,aH h.z hf (fun g hg e=>?_),aH h.pl hf (fun g hg e=>?_),aH h.rw hf (fun g hg e=>?_),h.ap,fun j m y p r=>?_,h.bb,?_,h.tf,h.wk⟩
 ·obtain⟨-,-,cur,hc⟩:=aF h.z hg
  exact bD hc h1 (by decide) e
 ·obtain⟨-,-,cur,hc⟩:=aF h.pl hg
  exact bD hc h1 (by decide) e
 ·obtain⟨-,-,cur,hc⟩:=aF h.rw hg
  exact bD hc h1 (by decide) e
 ·obtain⟨r1,r2⟩:=h.row j m y p r
  refine⟨r1,?_⟩
  by_cases e:m=k
  ·subst e
   have hij:=h.ap i j m hk p
   subst hij
   rw [hz] at r
   have e:=aAE r
   subst e
   refine⟨_,h4,by simp [h2],fun b hb=>?_⟩
   by_cases e:b=a
   ·subst e
    refine⟨true,q,l.length,c,?_,?_,fun _=>⟨l,rfl,lsk hl,hE⟩⟩
    ·rw [aBS (by omega),aBZ (by rw [h2];omega)]
    ·rw [aBZ (by rw [aAQ,h2];omega)]
   ·obtain⟨x,q',n',c',p1,p2,p3⟩:=h3 b hb
    refine⟨x,q',n',c',?_,?_,fun e=>?_⟩
    ·rw [aBS (by omega),aBS (by omega)];exact p1
    ·rw [aBS (by omega),aBS (by omega)];exact p2
    ·obtain⟨l',l1,l2,l3⟩:=p3 e
     exact⟨l',l1,lsk l2,l3⟩
  ·refine r2.of fun g cs' ty hg hty=>?_
   rcases hty with e2 | e2
   ·exact other g cs' ty hg (by rw [e2];decide)
   ·exact hf.block g (aC hg) (by rw [e2];exact e)
 ·refine h.ta.ckN h.tf ⟨hf.size,fun g cur t fr hg hc=>(hf.block g (aC hc) (fun e=>?_)).trans hc⟩
  have:=hlo
  omega
theorem xN{n:Nat}(hp:PlC H n)(hk:Gk H){w:World}(hw:WM H w rs wk mu){i a:Nat}{z:Zl}(hz:H.Z[i]?=some z)(hn:z.1.2.sz<=n+1)(hpl:PlT H.L z.1.2)(ha:a<=H.L.s.size) :
  Calls Tryz.prog 78 #[.pointer (some ⟨H.b,0,none⟩),.int .i64 (i:Int),.int .i64 (a:Int)] w (iZ H w rs wk mu z.1.2 a):=by
 have h1:=zH ((aI z.1.2).1 (hk.npz hz)).1
 have h8:=((aI z.1.2).1 hpl).1.1
 by_cases k5:z.1.2.f.k=5
 ·exact xL hp hk hw hz hn hpl ha k5
 by_cases k6:z.1.2.f.k=6
 ·exact xM hp hk hw hz hn hpl ha k6
 by_cases k7:z.1.2.f.k=7
 ·exact xK hp hk hw hz hn hpl ha k7
 by_cases k9:z.1.2.f.k=9
 ·exact xJ hp hk hw hz hn hpl ha k9
 exact uH hp hk hw hz hn hpl ha (by omega)
end
section
attribute [local go_sem] Oper.semAt_some aU
variable {H:Gh} {rs rs' rs'':List (Option Nat)} {wk:Int} {mu:Bool}
theorem aR8(k N:Nat)(W:World):Sem.run Tryz.prog (binOp BinOp.eql 110 (Value.slice (some ⟨k,0,none⟩) N N) (Value.slice none 0 0)) W=.ok (.bool false) W:=by kernel_rfl
theorem aR9(W:World):Sem.run Tryz.prog (binOp BinOp.eql 110 (Value.slice none 0 0) (Value.slice none 0 0)) W=.ok (.bool true) W:=by kernel_rfl
attribute [local go_sem] aR8 aR9
theorem aC0{w:World}{p:Addr}(u:Value)(o:Obj)(h:p.block<w.heap.size):(w.alloc o).setCell p u=(w.setCell p u).alloc o:=by
 unfold World.alloc World.setCell
 simp only [World.mk.injEq,and_true]
 apply Array.ext_getElem?
 intro i
 rw [Array.getElem?_modify,Array.getElem?_push,Array.getElem?_push,Array.getElem?_modify,Array.size_modify]
 by_cases e:i=w.heap.size
 ·subst e
  rw [if_neg (by omega)]
  simp
 ·simp [e]
theorem zG{W V:World}{z:Zl}{i k a:Nat}{q:Option Addr}{c:Nat}{l:List Nat}(hz:H.Z[i]?=some z)(ha:a<=H.n)(hk:rs'[i]?=some (some k))(hkw:wmf H rs k\/W.heap.size<=k)(hl:Ls12 H.base V q c l)(hE:fK H.L z.1.2 a l)(hw:WM H V rs' wk mu)(hg:Grw W.heap.size rs rs')(hf:Fr (fun k=>wmf H rs k\/False) W V) :
  iZ H W rs wk mu z.1.2 a (.returned (.slice q l.length c)) ((V.setCell ⟨k,a*2,none⟩ (.bool true)).setCell ⟨k,a*2+1,none⟩ (.slice q l.length c)):=by
 have hf2:Fr (fun g=>g=k) V ((V.setCell ⟨k,a*2,none⟩ (.bool true)).setCell ⟨k,a*2+1,none⟩ (.slice q l.length c)):=((Fr.refl (fun g=>g=k) V).setCell (p:=⟨k,a*2,none⟩) rfl _).setCell (p:=⟨k,a*2+1,none⟩) rfl _
 refine⟨q,c,l,rs',rfl,?_,hE,hw.row_set hk hz ha hl hE,hg,?_⟩
 ·obtain⟨cs,hc⟩:=(hw.row_lt hk).2
  exact aH hl hf2 (fun g hg e=>by
   obtain⟨-,-,cur,h3⟩:=aF hl hg
   exact bD h3 hc (by decide) e)
 ·exact⟨hf2.os.trans hf.os,hf2.tape.trans hf.tape,hf2.output.trans hf.output,o0 hf.size hf2.size,fun g hg1 hg2=>(hf2.block g (o8 hg1 hf.size) (fun e=>by
   subst e
   rcases hkw with r | r
   ·exact hg2 (.inl r)
   ·omega)).trans (hf.block g hg1 hg2)⟩
theorem xI{n:Nat}(hp:PlC H n)(hk:Gk H):PlC H (n+1):=by
 intro i a z W rs wk mu hz hn hpl ha hw
 have hil:=(m8.1 hz).1
 have hlen:=hk.len
 have hsm:=hk.sm
 have hrl:=hw.rl
 have iil:(i:Int)<(H.Z.length:Int):=by omega
 have PC:=aA (fun (V:World) (rs':List (Option Nat)) (h:WM H V rs' wk mu)=>xN hp hk h hz hn hpl ha)
 have HZ:=aA hz
 obtain⟨N,hN⟩:∃ N,H.L.s.size+1=N:=⟨_,rfl⟩
 have hwN:IntKind.wrap .i64 ((H.L.s.size:Int)+1)=(N:Int):=by rw [wrap_small _ (by omega) (by omega)];omega
 have MR:=aE4 N (by omega)
 have haN:(a:Int)<(N:Int):=by omega
 have HN:=aA hN
 have hN1:N<=1001:=by omega
 have c1:=hw.cell (i:=1) rfl
 have c15:=hw.cell (i:=15) rfl
 have HW:=aA hw
 have hrb:=hw.rb_lt
 have hbl:=hw.b_lt
 have hbrb:=hw.b_rb
 have ha':Hid (a<=H.n):=ha
 obtain⟨x,hx⟩:∃ x,rs[i]?=some x:=⟨_,g9 (by omega)⟩
 have y0:W.cell? ⟨H.rb,i,none⟩=some (rwV H.n x):=aP hw.rw (by simp [hx])
 clear hp hk hz hn hpl ha hw hN hrl
 cases x with
 | some k=>
  have y1:W.cell? ⟨H.rb,i,none⟩=some (.slice (some ⟨k,0,none⟩) N N):=by rw [y0,<- HN.out];rfl
  clear y0
  have HX:=aA hx
  obtain⟨hlo,cs,r1,r2,r3⟩:=HW.out.row i k z hx HZ.out
  obtain⟨kn,q,m,c,p1,p2,p3⟩:=r3 a ha'.out
  have z0:W.cell? ⟨k,a*2,none⟩=some (.bool kn):=aB r1 (by simpa using p1)
  have z1:W.cell? ⟨k,a*2+1,none⟩=some (.slice q m c):=aB r1 (by simpa using p2)
  have P3:=aA p3
  clear hx r1 r2 r3 p1 p2 p3
  go_enter Tryz.func50,Tryz.ntmps50
  cases kn with
  | true=>
   obtain⟨l,l1,l2,l3⟩:=P3.out rfl
   have HL2:=aA l2
   have HL3:=aA l3
   clear l2 l3 P3
   subst l1
   go_wp2
   go_ret
   exact⟨q,c,l,rs,rfl,HL2.out,HL3.out,HW.out,Grw.refl _ _,Fr.refl _ _⟩
  | false=>
   have PW:=aA (PC.out W rs HW.out)
   clear P3
   go_upto_region 6 with (go_at_call 78;(with_reducible refine(PW.out).mono ?_);rintro e w5 ⟨q5,c5,l5,rs5,rfl,h51,h52,h53,h54,h55⟩;have L5:=aA h51;have E5:=aA h52;have W5:=aA h53;have G5:=aA h54;have F5:=aA h55;clear h51 h52 h53 h54 h55)
   have HX5:=aA (G5.out.old i k HX.out)
   have d15:=W5.out.cell (i:=15) rfl
   have d0:w5.cell? ⟨H.rb,i,none⟩=some (.slice (some ⟨k,0,none⟩) N N):=by
    have:w5.cell? ⟨H.rb,i,none⟩=some (rwV H.n (some k)):=aP W5.out.rw (by simp [HX5.out])
    rw [this,<- HN.out]
    rfl
   obtain⟨cs5,r1,r2,r3⟩:=(W5.out.row i k z HX5.out HZ.out).2
   obtain⟨kn,q',m',c',p1,p2,-⟩:=r3 a ha'.out
   have z0:w5.cell? ⟨k,a*2,none⟩=some (.bool kn):=aB r1 (by simpa using p1)
   have z1:w5.cell? ⟨k,a*2+1,none⟩=some (.slice q' m' c'):=aB r1 (by simpa using p2)
   have hfz:=fun o=>aK r1 o
   have KP:=aA (zG HZ.out ha'.out HX5.out (.inl (.inr (.inr (n8 HX.out)))) L5.out E5.out W5.out G5.out F5.out)
   clear r1 r2 r3 p1 p2 y1
   go_wp2
   go_ret
   exact KP.out
 | none=>
  have y1:W.cell? ⟨H.rb,i,none⟩=some (.slice none 0 0):=y0
  clear y0
  have HX:=aA hx
  clear hx
  go_enter Tryz.func50,Tryz.ntmps50
  go_upto_region 2 with fail
  have hrf:W.frozen? ⟨H.rb,i,none⟩=false:=World.ownsRow.frozenAt HW.out.rw i
  have sA:∀ v:Value,(W.setCell ⟨H.rb,i,none⟩ v).cell? ⟨H.b,15,none⟩=some (.slice (some ⟨H.rb,0,none⟩) H.Z.length H.rc):=fun v=>by
   have:=((Fr.refl (fun k=>k=H.rb) W).setCell (p:=⟨H.rb,i,none⟩) rfl v).block H.b hbl hbrb
   unfold World.cell? at c15 ⊢
   rw [this]
   exact c15
  have sB:∀ v:Value,(W.setCell ⟨H.rb,i,none⟩ v).cell? ⟨H.b,1,none⟩=some (.string H.L.s):=fun v=>by
   have:=((Fr.refl (fun k=>k=H.rb) W).setCell (p:=⟨H.rb,i,none⟩) rfl v).block H.b hbl hbrb
   unfold World.cell? at c1 ⊢
   rw [this]
   exact c1
  have sC:∀ v:Value,H.b<(W.setCell ⟨H.rb,i,none⟩ v).heap.size:=fun v=>by simp [World.setCell];exact hbl
  go_region_held (fun w'=>w'.cell? ⟨H.b,15,none⟩=some (.slice (some ⟨H.rb,0,none⟩) H.Z.length H.rc)/\w'.cell? ⟨H.b,1,none⟩=some (.string H.L.s)) (first | go_keep |(refine⟨?_,?_⟩ <;> simp [sA,sB,sC,World.cell?_alloc_old])) (fail)
  have WD:Hid (WM H W.drew rs wk mu):=HW.out.below (Below.refl _ _).drew
  have WA:=aA (HW.out.row_add HX.out)
  rw [aC0 _ _ hrb] at WA
  have hN2:H.n+1=N:=HN.out
  rw [hN2] at WA
  clear hN2
  have W3:=aA (WA.out.below (Below.refl _ _).drew)
  have F3:Hid (Fr (fun k=>wmf H rs k\/False) W ((W.setCell ⟨H.rb,i,none⟩ (.slice (some ⟨W.heap.size,0,none⟩) N N)).alloc (.cells (kP N) 112)).drew):=(((Fr.refl (fun k=>wmf H rs k\/False) W).setCell (p:=⟨H.rb,i,none⟩) (.inl (.inr (.inl rfl))) _).alloc _).drew
  generalize ((W.setCell ⟨H.rb,i,none⟩ (.slice (some ⟨W.heap.size,0,none⟩) N N)).alloc (.cells (kP N) 112)).drew=w3 at W3 F3 ⊢
  have HX3:Hid ((rs.set i (some W.heap.size))[i]?=some (some W.heap.size)):=aA (aBZ (m8.1 HX.out).1)
  have G3:Hid (Grw W.heap.size rs (rs.set i (some W.heap.size))):=⟨fun j k hj=>by
   rw [aAZ]
   split
   ·rename_i e
    subst e
    rw [HX.out] at hj
    cases hj
   ·exact hj,fun k hk=>by
   rcases List.mem_or_eq_of_mem_set hk with r | r
   ·exact .inl r
   ·exact .inr (by rw [aAE r];exact t8 _)⟩
  have hkk:Hid (W.heap.size<=W.heap.size):=t8 _
  generalize hrs3:rs.set i (some W.heap.size)=rs3 at W3 HX3 G3
  have b15:=W3.out.cell (i:=15) rfl
  obtain⟨k,hk⟩:∃ k,W.heap.size=k:=⟨_,rfl⟩
  have HKW:Hid (W.heap.size<=k):=aA (Nat.le_of_eq hk)
  rw [hk] at HX3
  have b0:w3.cell? ⟨H.rb,i,none⟩=some (.slice (some ⟨k,0,none⟩) N N):=by
   have:w3.cell? ⟨H.rb,i,none⟩=some (rwV H.n (some k)):=aP W3.out.rw (by simp [HX3.out])
   rw [this,<- HN.out]
   rfl
  rw [hk]
  obtain⟨cs,r1,r2,r3⟩:=(W3.out.row i k z HX3.out HZ.out).2
  obtain⟨kn,q,m,c,p1,p2,p3⟩:=r3 a ha'.out
  have z0:w3.cell? ⟨k,a*2,none⟩=some (.bool kn):=aB r1 (by simpa using p1)
  have z1:w3.cell? ⟨k,a*2+1,none⟩=some (.slice q m c):=aB r1 (by simpa using p2)
  have P3:=aA p3
  clear hrs3 hk r1 r2 r3 p1 p2 p3 sA sB sC c1 c15 y1 hrf WA
  cases kn with
  | true=>
   obtain⟨l,l1,l2,l3⟩:=P3.out rfl
   have HL2:=aA l2
   have HL3:=aA l3
   clear l2 l3 P3
   subst l1
   go_wp2
   go_ret
   exact⟨q,c,l,rs3,rfl,HL2.out,HL3.out,W3.out,G3.out,F3.out⟩
  | false=>
   clear z1 P3
   have PW:=aA (PC.out w3 rs3 W3.out)
   go_upto_region 6 with (go_at_call 78;(with_reducible refine(PW.out).mono ?_);rintro e w5 ⟨q5,c5,l5,rs5,rfl,h51,h52,h53,h54,h55⟩;have L5:=aA h51;have E5:=aA h52;have W5:=aA h53;have G5:=aA h54;have F5:=aA h55;clear h51 h52 h53 h54 h55)
   have HX5:=aA (G5.out.old i k HX3.out)
   have d15:=W5.out.cell (i:=15) rfl
   have d0:w5.cell? ⟨H.rb,i,none⟩=some (.slice (some ⟨k,0,none⟩) N N):=by
    have:w5.cell? ⟨H.rb,i,none⟩=some (rwV H.n (some k)):=aP W5.out.rw (by simp [HX5.out])
    rw [this,<- HN.out]
    rfl
   obtain⟨cs5,r1,r2,r3⟩:=(W5.out.row i k z HX5.out HZ.out).2
   obtain⟨kn,q',m',c',p1,p2,-⟩:=r3 a ha'.out
   have z0:w5.cell? ⟨k,a*2,none⟩=some (.bool kn):=aB r1 (by simpa using p1)
   have z1:w5.cell? ⟨k,a*2+1,none⟩=some (.slice q' m' c'):=aB r1 (by simpa using p2)
   have hfz:=fun o=>aK r1 o
   have KP:=aA (zG HZ.out ha'.out HX5.out (.inr HKW.out) L5.out E5.out W5.out (G3.out.trans G5.out F3.out.size) (mS F3.out G3.out F5.out (fun _ e=>e.elim)))
   clear r1 r2 r3 p1 p2
   go_wp2
   go_ret
   exact KP.out
theorem rC(hk:Gk H):∀ n,PlC H n
 | 0=>fun i a z W rs wk mu _ hn=>absurd (dO z.1.2) (by omega)
 | n+1=>xI (rC hk n) hk
end
def ga(x:Cf)(i:Nat):Int:=(x.g.getD i (-1,-1)).1
def gb(x:Cf)(i:Nat):Int:=(x.g.getD i (-1,-1)).2
def cfC(x:Cf):List Value:=#[.int .i64 (x.p:Int),.int .i64 (ga x 0),.int .i64 (gb x 0),.int .i64 (ga x 1),.int .i64 (gb x 1),.int .i64 (ga x 2),.int .i64 (gb x 2),.int .i64 (ga x 3),.int .i64 (gb x 3),.int .i64 (ga x 4),.int .i64 (gb x 4),.int .i64 (ga x 5),.int .i64 (gb x 5),.int .i64 (ga x 6),.int .i64 (gb x 6),.int .i64 (ga x 7),.int .i64 (gb x 7),.int .i64 (ga x 8),.int .i64 (gb x 8),.int .i64 (ga x 9),.int .i64 (gb x 9)].toList
theorem cN(x:Cf):(cfC x).length=21:=rfl
def cfA(x:Cf):Array Value:=(cfC x).toArray
theorem pD:Tryz.prog.underlying 69=some (.struct (Tryz.prog.fieldsOf 69)):=by kernel_rfl
theorem nG:Tryz.prog.underlying 63=some (.slice 69):=by kernel_rfl
theorem lW:(Tryz.prog.info? 69).map (·.size)=some 21:=by kernel_rfl
theorem bN{ops:Array Oper}{rest:List Oper}{op:Oper}{a:Act}{w:World}{Q:Exit->Act->World->Prop}(hgd:op.guard=none)(xo:Operand)(ho:op.op=.load 69 xo)(b o:Nat)(hx:a.eval xo=.pointer (some ⟨b,o,none⟩))(x:Cf)(hc:w.rangeAt b o (cfC x))
  (h:wpList Tryz.prog ops Q rest (a.put op.dst (.agg (cfA x))) w):wpList Tryz.prog ops Q (op :: rest) a w:=
 wpList_load_mid hgd 69 xo ho b o hx (cfC x) _ hc pD rfl (by rw [lW,cN]) h
theorem fF{P:Program}{ops:Array Oper}{Q:Exit->Act->World->Prop}{d:Option Tmp}{xo:Operand}{ty:TypeId}{pos:String}{af:Array Edge}{gd:Option (Nat×Bool)}{rest:List Oper}{a:Act}{w:World}(h:wpList P ops Q (Oper.mk d (.load 69 xo) ty pos af gd :: rest) a w):wpList P ops Q (Oper.mk d (.load 69 xo) ty pos af gd :: rest) a w:=h
theorem jE{ops:Array Oper}{S:World->Prop}{op:Oper}{a:Act}(hw:Region.wanted op (yielded ops a.tmps)=true)(xo:Operand)(ho:op.op=.load 69 xo)(b o:Nat)(hx:a.eval xo=.pointer (some ⟨b,o,none⟩))(x:Cf)(hS:∀ w,S w->w.rangeAt b o (cfC x)):YieldsIf Tryz.prog ops S op (.agg (cfA x)) a:=
 yieldsIf_load_mid hw 69 xo ho b o hx (cfC x) _ hS pD rfl (by rw [lW,cN])
theorem oY(x:Cf):∀ v∈cfC x,v.oneCell'=true:=by
 intro v hv
 unfold cfC at hv
 simp at hv
 rcases hv with rfl | rfl | rfl | rfl | rfl | rfl | rfl | rfl | rfl | rfl | rfl | rfl | rfl | rfl | rfl | rfl | rfl | rfl | rfl | rfl | rfl <;> rfl
theorem aR2{x:Cf}{i:Nat}{q:Int×Int}(h:x.g[i]?=some q):ga x i=q.1/\gb x i=q.2:=by
 unfold ga gb
 rw [aBE,h]
 exact⟨rfl,rfl⟩
theorem bP1{x y:Cf}(hx:x.g.length=10)(hy:y.g.length=10)(h:∀ i,i<10->ga x i=ga y i/\gb x i=gb y i):x.g=y.g:=by
 apply aBX (by omega)
 intro i h1 h2
 obtain⟨a,b⟩:=h i (by omega)
 have e1:=aR2 (x:=x) (g9 h1)
 have e2:=aR2 (x:=y) (g9 h2)
 exact Prod.ext (by rw [<- e1.1,a,e2.1]) (by rw [<- e1.2,b,e2.2])
theorem aG0(n:Nat)(a b c d:Int)(w:World):(Op.equalIn (n+2) 66 (.agg #[.int .i64 a,.int .i64 b]) (.agg #[.int .i64 c,.int .i64 d])).run Tryz.prog w=.ok (a==c&&b==d) w:=by
 have u3:=Tryz.underlying3
 have a3:=Tryz.isAgg3
 have z3:=Tryz.sizeOf3
 have hS:Tryz.prog.underlying 66=some (.struct (Tryz.prog.fieldsOf 66)):=by kernel_rfl
 have hp:Tryz.prog.stoodInHeld 66=false:=by kernel_rfl
 rw [show n+2=(n+1)+1 from rfl,run_equalIn_agg w (n+1) 66 _ _ hS hp]
 simp only [Program.fieldsOf,Tryz.underlying66]
 go_simp
 by_cases h1:a=c <;> by_cases h2:b=d <;> simp [h1,h2]
theorem sF(x:Cf)(w:World):(Instr.buildSlice 63 1 #[(0,.agg (cfA x))]).run Tryz.prog w=.ok (.slice (some ⟨w.heap.size,0,none⟩) 1 1) (w.alloc (.cells (cfA x) 69)):=by
 show (Instr.buildSlice 63 1 #[(0,.agg #[.int .i64 (x.p:Int),.int .i64 (ga x 0),.int .i64 (gb x 0),.int .i64 (ga x 1),.int .i64 (gb x 1),.int .i64 (ga x 2),.int .i64 (gb x 2),.int .i64 (ga x 3),.int .i64 (gb x 3),.int .i64 (ga x 4),.int .i64 (gb x 4),.int .i64 (ga x 5),.int .i64 (gb x 5),.int .i64 (ga x 6),.int .i64 (gb x 6),.int .i64 (ga x 7),.int .i64 (gb x 7),.int .i64 (ga x 8),.int .i64 (gb x 8),.int .i64 (ga x 9),.int .i64 (gb x 9)])]).run Tryz.prog w=.ok (.slice (some ⟨w.heap.size,0,none⟩) 1 1) (w.alloc (.cells #[.int .i64 (x.p:Int),.int .i64 (ga x 0),.int .i64 (gb x 0),.int .i64 (ga x 1),.int .i64 (gb x 1),.int .i64 (ga x 2),.int .i64 (gb x 2),.int .i64 (ga x 3),.int .i64 (gb x 3),.int .i64 (ga x 4),.int .i64 (gb x 4),.int .i64 (ga x 5),.int .i64 (gb x 5),.int .i64 (ga x 6),.int .i64 (gb x 6),.int .i64 (ga x 7),.int .i64 (gb x 7),.int .i64 (ga x 8),.int .i64 (gb x 8),.int .i64 (ga x 9),.int .i64 (gb x 9)] 69))
 go_simp
theorem tJ{P:Program}{ops:Array Oper}{Q:Exit->Act->World->Prop}{d:Option Tmp}{ps:Array (Nat×Operand)}{ty:TypeId}{pos:String}{af:Array Edge}{gd:Option (Nat×Bool)}{rest:List Oper}{a:Act}{w:World}(h:wpList P ops Q (Oper.mk d (.buildSlice 63 1 ps) ty pos af gd :: rest) a w):wpList P ops Q (Oper.mk d (.buildSlice 63 1 ps) ty pos af gd :: rest) a w:=h
theorem iJ{ops:Array Oper}{rest:List Oper}{op:Oper}{a:Act}{w:World}{Q:Exit->Act->World->Prop}(hgd:op.guard=none)(xo:Operand)(ho:op.op=.buildSlice 63 1 #[(0,xo)])(x:Cf)(hx:a.eval xo=.agg (cfA x))
  (h:wpList Tryz.prog ops Q rest (a.put op.dst (.slice (some ⟨w.heap.size,0,none⟩) 1 1)) (w.alloc (.cells (cfA x) 69))):wpList Tryz.prog ops Q (op :: rest) a w:=
 wpList_plain hgd fun _ hK=>by
  unfold Oper.wp execOp
  simp only [ho,List.map_toArray,s6,List.map_nil,hx,Sem.run_bind,sF,Result.andThen_ok,Sem.run_pure]
  exact hK _ _ h
section
theorem yG(n:Nat)(a0 a1 a2 a3 a4 a5 a6 a7 a8 a9 b0 b1 b2 b3 b4 b5 b6 b7 b8 b9 c0 c1 c2 c3 c4 c5 c6 c7 c8 c9 d0 d1 d2 d3 d4 d5 d6 d7 d8 d9:Int)(w:World) :
  (Op.equalIn (n+3) 67 (.agg #[.int .i64 a0,.int .i64 b0,.int .i64 a1,.int .i64 b1,.int .i64 a2,.int .i64 b2,.int .i64 a3,.int .i64 b3,.int .i64 a4,.int .i64 b4,.int .i64 a5,.int .i64 b5,.int .i64 a6,.int .i64 b6,.int .i64 a7,.int .i64 b7,.int .i64 a8,.int .i64 b8,.int .i64 a9,.int .i64 b9]) (.agg #[.int .i64 c0,.int .i64 d0,.int .i64 c1,.int .i64 d1,.int .i64 c2,.int .i64 d2,.int .i64 c3,.int .i64 d3,.int .i64 c4,.int .i64 d4,.int .i64 c5,.int .i64 d5,.int .i64 c6,.int .i64 d6,.int .i64 c7,.int .i64 d7,.int .i64 c8,.int .i64 d8,.int .i64 c9,.int .i64 d9])).run Tryz.prog w
   = .ok ((a0==c0&&b0==d0)&&(a1==c1&&b1==d1)&&(a2==c2&&b2==d2)&&(a3==c3&&b3==d3)&&(a4==c4&&b4==d4)&&(a5==c5&&b5==d5)&&(a6==c6&&b6==d6)&&(a7==c7&&b7==d7)&&(a8==c8&&b8==d8)&&(a9==c9&&b9==d9)) w:=by
 have a22:=Tryz.isAgg66
 have z22:=Tryz.sizeOf66
 have hu:Tryz.prog.underlying 67=some (.array 10 66):=by kernel_rfl
 have EP:=aG0 n
 rw [show n+3=(n+2)+1 from rfl,Op.equalIn]
 simp only [Sem.run_bind,run_underlying hu,Result.andThen_ok]
 simp only [Std.Legacy.Range.forIn_eq_forIn_range',Std.Legacy.Range.size,Nat.sub_zero,aBR,Nat.div_one,List.range'_succ,List.range'_zero,List.forIn_cons,List.forIn_nil]
 go_simp
 clear EP a22 z22 hu
 by_cases ha0:a0=c0
 case neg=>simp [ha0]
 subst ha0
 by_cases hb0:b0=d0
 case neg=>simp [hb0]
 subst hb0
 by_cases ha1:a1=c1
 case neg=>simp [ha1]
 subst ha1
 by_cases hb1:b1=d1
 case neg=>simp [hb1]
 subst hb1
 by_cases ha2:a2=c2
 case neg=>simp [ha2]
 subst ha2
 by_cases hb2:b2=d2
 case neg=>simp [hb2]
 subst hb2
 by_cases ha3:a3=c3
 case neg=>simp [ha3]
 subst ha3
 by_cases hb3:b3=d3
 case neg=>simp [hb3]
 subst hb3
 by_cases ha4:a4=c4
 case neg=>simp [ha4]
 subst ha4
 by_cases hb4:b4=d4
 case neg=>simp [hb4]
 subst hb4
 by_cases ha5:a5=c5
 case neg=>simp [ha5]
 subst ha5
 by_cases hb5:b5=d5
 case neg=>simp [hb5]
 subst hb5
 by_cases ha6:a6=c6
 case neg=>simp [ha6]
 subst ha6
 by_cases hb6:b6=d6
 case neg=>simp [hb6]
 subst hb6
 by_cases ha7:a7=c7
 case neg=>simp [ha7]
 subst ha7
 by_cases hb7:b7=d7
 case neg=>simp [hb7]
 subst hb7
 by_cases ha8:a8=c8
 case neg=>simp [ha8]
 subst ha8
 by_cases hb8:b8=d8
 case neg=>simp [hb8]
 subst hb8
 by_cases ha9:a9=c9
 case neg=>simp [ha9]
 subst ha9
 by_cases hb9:b9=d9
 case neg=>simp [hb9]
 subst hb9
 simp
theorem aG1(n:Nat)(p q:Int)(a0 a1 a2 a3 a4 a5 a6 a7 a8 a9 b0 b1 b2 b3 b4 b5 b6 b7 b8 b9 c0 c1 c2 c3 c4 c5 c6 c7 c8 c9 d0 d1 d2 d3 d4 d5 d6 d7 d8 d9:Int)(w:World) :
  (Op.equalIn (n+4) 69 (.agg #[.int .i64 p,.int .i64 a0,.int .i64 b0,.int .i64 a1,.int .i64 b1,.int .i64 a2,.int .i64 b2,.int .i64 a3,.int .i64 b3,.int .i64 a4,.int .i64 b4,.int .i64 a5,.int .i64 b5,.int .i64 a6,.int .i64 b6,.int .i64 a7,.int .i64 b7,.int .i64 a8,.int .i64 b8,.int .i64 a9,.int .i64 b9]) (.agg #[.int .i64 q,.int .i64 c0,.int .i64 d0,.int .i64 c1,.int .i64 d1,.int .i64 c2,.int .i64 d2,.int .i64 c3,.int .i64 d3,.int .i64 c4,.int .i64 d4,.int .i64 c5,.int .i64 d5,.int .i64 c6,.int .i64 d6,.int .i64 c7,.int .i64 d7,.int .i64 c8,.int .i64 d8,.int .i64 c9,.int .i64 d9])).run Tryz.prog w
   = .ok (p==q&&((a0==c0&&b0==d0)&&(a1==c1&&b1==d1)&&(a2==c2&&b2==d2)&&(a3==c3&&b3==d3)&&(a4==c4&&b4==d4)&&(a5==c5&&b5==d5)&&(a6==c6&&b6==d6)&&(a7==c7&&b7==d7)&&(a8==c8&&b8==d8)&&(a9==c9&&b9==d9))) w:=by
 have u3:=Tryz.underlying3
 have ua3:=Tryz.isAgg3
 have z3:=Tryz.sizeOf3
 have a22:=Tryz.isAgg67
 have z22:=Tryz.sizeOf67
 have hS:Tryz.prog.underlying 69=some (.struct (Tryz.prog.fieldsOf 69)):=by kernel_rfl
 have hp:Tryz.prog.stoodInHeld 69=false:=by kernel_rfl
 have EP:=yG n
 rw [show n+4=(n+3)+1 from rfl,run_equalIn_agg w (n+3) 69 _ _ hS hp]
 simp only [Program.fieldsOf,Tryz.underlying69]
 go_simp
 by_cases h1:p=q
 case neg=>simp [h1]
 subst h1
 generalize ((a0==c0&&b0==d0)&&(a1==c1&&b1==d1)&&(a2==c2&&b2==d2)&&(a3==c3&&b3==d3)&&(a4==c4&&b4==d4)&&(a5==c5&&b5==d5)&&(a6==c6&&b6==d6)&&(a7==c7&&b7==d7)&&(a8==c8&&b8==d8)&&(a9==c9&&b9==d9))=B
 cases B <;> simp
open Classical in
noncomputable def cfE (x y:Cf):Bool:=decide (x=y)
theorem aA3(x y:Cf):cfE x y=true↔x=y:=by unfold cfE;simp
theorem bB6{x y:Cf}(hx:x.g.length=10)(hy:y.g.length=10)(w:World):(binOp .eql 69 (.agg (cfA x)) (.agg (cfA y))).run Tryz.prog w=.ok (.bool (cfE x y)) w:=by
 have e:=aG1 9996 (x.p:Int) (y.p:Int) (ga x 0) (ga x 1) (ga x 2) (ga x 3) (ga x 4) (ga x 5) (ga x 6) (ga x 7) (ga x 8) (ga x 9) (gb x 0) (gb x 1) (gb x 2) (gb x 3) (gb x 4) (gb x 5) (gb x 6) (gb x 7) (gb x 8) (gb x 9) (ga y 0) (ga y 1) (ga y 2) (ga y 3) (ga y 4) (ga y 5) (ga y 6) (ga y 7) (ga y 8) (ga y 9) (gb y 0) (gb y 1) (gb y 2) (gb y 3) (gb y 4) (gb y 5) (gb y 6) (gb y 7) (gb y 8) (gb y 9) w
 have hb:((x.p:Int)==(y.p:Int)&&((ga x 0==ga y 0&&gb x 0==gb y 0)&&(ga x 1==ga y 1&&gb x 1==gb y 1)&&(ga x 2==ga y 2&&gb x 2==gb y 2)&&(ga x 3==ga y 3&&gb x 3==gb y 3)&&(ga x 4==ga y 4&&gb x 4==gb y 4)&&(ga x 5==ga y 5&&gb x 5==gb y 5)&&(ga x 6==ga y 6&&gb x 6==gb y 6)&&(ga x 7==ga y 7&&gb x 7==gb y 7)&&(ga x 8==ga y 8&&gb x 8==gb y 8)&&(ga x 9==ga y 9&&gb x 9==gb y 9)))=cfE x y:=by
  rw [Bool.eq_iff_iff,aA3]
  simp only [aBY,beq_iff_eq]
  constructor
  ·rintro ⟨h1,h2⟩
   have hp:x.p=y.p:=by omega
   have hg:=bP1 hx hy (fun i hi=>by
    obtain⟨⟨⟨⟨⟨⟨⟨⟨⟨q0,q1⟩,q2⟩,q3⟩,q4⟩,q5⟩,q6⟩,q7⟩,q8⟩,q9⟩:=h2
    match i,hi with
    | 0,_=>exact q0
    | 1,_=>exact q1
    | 2,_=>exact q2
    | 3,_=>exact q3
    | 4,_=>exact q4
    | 5,_=>exact q5
    | 6,_=>exact q6
    | 7,_=>exact q7
    | 8,_=>exact q8
    | 9,_=>exact q9)
   obtain⟨p,g⟩:=x
   obtain⟨p',g'⟩:=y
   simp only at hp hg
   rw [hp,hg]
  ·intro h
   subst h
   simp
 rw [hb] at e
 have e':(Op.equal 69 (.agg (cfA x)) (.agg (cfA y))).run Tryz.prog w=.ok (cfE x y) w:=e
 simp only [binOp]
 simp [e']
end
end Go.Proofs.YtlamifbjklpdbaaGreat
