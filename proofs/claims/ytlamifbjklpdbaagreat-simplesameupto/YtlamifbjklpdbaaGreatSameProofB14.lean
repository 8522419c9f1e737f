/-
  Parts of the proof.
-/
import Derived.Test.YtlamifbjklpdbaaGreatSameProofA0
import Derived.Test.YtlamifbjklpdbaaGreatSameProofB13
import Derived.Test.YtlamifbjklpdbaaGreatSameProofB12
import Derived.Test.YtlamifbjklpdbaaGreatSameProofB8
import Derived.Test.YtlamifbjklpdbaaGreatSameProofB9
import Derived.Lib.IndexMore
set_option maxRecDepth 100000
set_option maxHeartbeats 8000000
namespace Go.Proofs.YtlamifbjklpdbaaGreat
open Go Go.RowKit
section
attribute [local go_sem] Oper.semAt_some
variable {H:Gh} {V V':World} {rs rs' rs'':lOn} {wk wk':Int} {mu mu' mu'':Bool} {x:Cf}
structure aU9(H:Gh)(w:World)(rs:lOn)(wk:Int)(kq:Option Addr)(kc i:Nat)(ks:List Tr)(R:Cf->Prop)(oq:Option Addr)(oc:Nat)(out:List Cf)(rs':lOn)(wk':Int)(mu':Bool)(V:World):Prop where
 es:ES H w rs wk false V rs' wk' mu'
 kl:Ls12 w.heap.size V kq kc (fM i ks)
 cr:CR12 w.heap.size V oq oc out
 n:out.length<=20001
 s:∀ y∈out,R y
 c:mu'=false->∀ y,R y->y∈out
theorem bB7{w w6:World}{kq oq q6:Option Addr}{kc i oc c6:Nat}{ks:List Tr}{R R':Cf->Prop}{out l6:List Cf}{rs5 rs6:lOn}{wk5 wk6:Int}{mu5 mu6:Bool}{W:World}{T:Cf->Cf->Prop}(h:aU9 H w rs wk kq kc i ks R oq oc out rs5 wk5 mu5 W)
  (h1:CR12 W.heap.size w6 q6 c6 l6) (h2:l6.length<=20001) (h3:∀ y∈l6,∃ v∈out,T v y/\fuP false v.p y.p) (h4:mu6=false->∀ y,(∃ v∈out,T v y/\fuP false v.p y.p)->y∈l6) (h5:ES H W rs5 wk5 mu5 w6 rs6 wk6 mu6) (hR:∀ y,R' y ↔ ∃ v,R v/\T v y):aU9 H w rs wk kq kc i ks R' q6 c6 l6 rs6 wk6 mu6 w6:=by
 refine⟨h.es.then h5.wm h5.g h5.f (fun _ e=>e.elim) h5.mo h5.wkm,h.kl.wmf h.es.wm h5.f (fun _ e=>e.elim),bI h1 h.es.f.size,h2,fun y hy=>?_,fun e y hy=>?_⟩
 ·obtain⟨v,hv,hh⟩:=h3 y hy;exact(hR y).2 ⟨v,h.s v hv,hh.1⟩
 ·obtain⟨v,hv,ht⟩:=(hR y).1 hy;have hmu:mu5=false:=by
   cases h2:mu5 with
   | false=>rfl
   | true=>have:=h5.mo h2;rw [e] at this;cases this
  exact h4 e y ⟨v,h.c hmu v hv,ht,fun e=>by cases e⟩
theorem aS2{n:Nat}(hE:EnC H n)(hk:Gk H){w:World}(hw:WM H w rs wk false){i:Nat}{z:Zl}(hz:H.Z[i]?=some z)(hn:z.1.2.sz<=n+1)(hx:Vf H.L x)(hpl:¬ PlT H.L z.1.2)(hkd:z.1.2.f.k=5) :
  Calls Tryz.prog 27 #[.pointer (some ⟨H.b,0,none⟩),.I (i:Int),.agg (cfA x)] w (EnP H w rs wk false w.heap.size (Mt H.L z.1.2 x)):=by
 have HKD:=aA hkd;have HEC:=aA hE;have HSZ:=aA hn;have HK:=aA hk;have B0:Hid (wBl w (w.alloc (.cells (cfA x) 69))):=bz9;have X0:Hid (BoxC (w.alloc (.cells (cfA x) 69)) w.heap.size x):=aD w _;have W0:=aA (hw.below B0.o);have hil:=(m8.1 hz).1;have iil:(i:Int)<(H.Z.length:Int):=by omega
 have hlen:=hk.len;have hsm:=hk.sm;have HZ:=aA hz;have HX:=aA hx;have HNP:=aA (((aI z.1.2).1 (hk.npz hz)).1);have HPB:Hid (plB H.L z.1.2=false):=aA (by unfold plB;simpa using hpl);have HBS:Hid (H.base<=w.heap.size):=aA (aBC (aBA hw.bb hw.b_lt));have hk2:z.1.2.ks.length<=2000:=by
  have h1:=eY z.1.2.ks;have h2:=dA z.1.2;obtain⟨r,hr⟩:=seg H.t [] i z.1 (hk.at hz);have h5:=congrArg List.length hr;rw [o5,bL,aAR] at h5;have h4:=congrArg List.length hk.mp;rw [aAC] at h4;omega
 clear hw hk hz hx hpl hE hn hkd;go_enter Tryz.func27,Tryz.ntmps27;go_upto_region 1 with fail
 generalize (w.alloc (.cells (cfA x) 69))=w1 at B0 X0 W0 ⊢;have E1:Hid (ES H w rs wk false w1 rs wk false):=⟨W0.o,Grw.refl _ _,Fr.of_below B0.o,fun e=>(by cases e),fun _=>aAW _⟩;have c0:=W0.o.cell (i:=0) rfl;have c14:=W0.o.cell (i:=14) rfl;have c17:=W0.o.cell (i:=17) (v:=.bool false) rfl;have y0:=W0.o.z.cells HZ.o (j:=0) (v:=.I z.1.2.f.k) rfl;have y1:=W0.o.z.cells HZ.o (j:=1) (v:=.I z.1.2.f.n) rfl;have y2:=W0.o.z.cells HZ.o (j:=2) (v:=.I z.1.2.f.mn) rfl;have y3:=W0.o.z.cells HZ.o (j:=3) (v:=.I z.1.2.f.mx) rfl;have y4:=W0.o.z.cells HZ.o (j:=4) (v:=.slice z.1.2.f.rq z.1.2.f.rs.length z.1.2.f.rc) rfl;have y5:=W0.o.z.cells HZ.o (j:=5) (v:=.slice z.1.2.f.kq z.1.2.f.kl z.1.2.f.kc) rfl;rw [aAJ] at y0;go_upto_region 5 with fail
 have B2:Hid (wBl w1 (w1.alloc (.cells (nDf z.1.2.f) 25))):=bz9;have N2:Hid (BoxN (w1.alloc (.cells (nDf z.1.2.f) 25)) w1.heap.size z.1.2.f):=aD w1 _;have E2:=aA (E1.o.below B2.o);have X2:=aA (X0.o.kept B2.o);have HNB:Hid (w.heap.size<w1.heap.size):=aA X0.o.lt;generalize (w1.alloc (.cells (nDf z.1.2.f) 25))=w2 at B2 E2 X2 N2 ⊢;clear B2;generalize w1.heap.size=nb at N2 HNB ⊢;have d14:=E2.o.wm.cell (i:=14) rfl;have p0:w2.cell? ⟨H.pb,i,none⟩=some (.bool false):=by
  have:=aP E2.o.wm.pl (j:=i) (u:=.bool (plB H.L z.1.2)) (by simp [HZ.o]);rw [this,HPB.o]
 clear c0 c14 c17 y0 y1 y2 y3 y4 y5 E1 X0 W0;obtain⟨n0,n1,n2,n3,n4,n5⟩:=N2.o.six;simp only [m7] at n1 n2 n3 n4 n5;have e5:(z.1.2.f.k==5)=true:=by rw [HKD.o];rfl
 have HMT:Hid (∀ y,Mt H.L z.1.2 x y↔MtC H.L z.1.2.ks x y):=fun y=>by rw [cH,if_pos HKD.o]
 go_upto_region 17 with fail
 obtain⟨t0,hi,hz0,hz1,hz2⟩:=aR nK;have RX:=aA X2.o.get;have Y7:Hid ((w2.alloc (.cells (cfA x) 69)).ownsRow (w.heap.size+1) 69 21 (.slice none 0 0) 0 []):=aAY _ _ _ _;have HNEW:Hid (∀ j u,(cfC x)[j]?=some u->(w2.alloc (.cells (cfA x) 69)).cell? (((aDr w2.heap.size 0):Addr).add j)=some u):=fU w2 (cfC x) _;have HB8:Hid (w.heap.size+1<=(w2.alloc (.cells (cfA x) 69)).heap.size):=aA (o0 (Nat.succ_le_of_lt X2.o.lt) (by simp));go_upto_region 18 with first
  |((with_reducible refine fF ?_);refine bN rfl _ rfl w.heap.size 0 rfl x RX.o ?_)
  |((with_reducible refine tJ ?_);refine iJ rfl _ rfl x rfl ?_)
  |(at_builtin;refine wpList_append_own_at _ rfl _ _ 63 rfl (w.heap.size+1) 69 t0 tN 21 168 nG hi hz0 hz1 hz2 kY (by decide) (.slice none 0 0) 0 [] rfl Y7.o (aDr w2.heap.size 0) 1 1 (cfC x) rfl (cN x) HNEW.o (oY x) (by unfold maxLen;omega) (by omega) HB8.o ?_;intro v' w3 hown' hgrow _ hmv;obtain⟨q3,c3,rfl⟩:=aQ hown';have O3:=aA hown';have G3:=aA hgrow;clear hown' hgrow hmv)
 have B3:Hid (wBl w2 w3):=((Below.refl w2.heap.size w2).alloc lz9 (.cells (cfA x) 69)).trans (((Fr.refl (fun _=>False) _).grown G3.o (fun k e=>by cases e)).below (by simp) (fun _ e=>e.elim));have C3:Hid (CR12 w.heap.size w3 q3 c3 [x]):=bI (by simpa using O3.o) (aCA _);have E3:=aA (E2.o.below B3.o);have KC:=aA (jP HK.o E3.o.wm HZ.o);clear n0 n1 n2 n3 n4 n5 d14 p0 Y7 HNEW HB8 O3 G3 RX;go_upto_region 20 with (go_at_call 52;(with_reducible refine(KC.o).mono ?_);rintro e w4 ⟨kq,kc,rfl,h41,h42⟩;have K4:=aA h41;have B4:=aA h42;clear h41 h42)
 have hkl:(fM i z.1.2.ks).length=z.1.2.ks.length:=dI i z.1.2.ks;have I4:Hid (aU9 H w rs wk kq kc i z.1.2.ks (fun y=>MtC H.L (z.1.2.ks.take 0) x y) q3 c3 [x] rs wk false w4):=⟨E3.o.below B4.o,K4.o.mono E3.o.f.size,C3.o.kept B4.o,by simp,fun y hy=>by rw [aAL,cE];exact s9.1 hy,fun _ y hy=>by rw [aAL,cE] at hy;rw [hy];simp⟩;rw [hkl];clear hkl E3 K4 B4 C3 B3;go_loopw [7,13] (fun ov jv wr=>∃ (j:Nat) (oq:Option Addr) (oc:Nat) (out:List Cf) (rs':lOn) (wk':Int) (mu':Bool),j<=z.1.2.ks.length/\ov=.slice oq out.length oc/\jv=.I (j:Int)/\aU9 H w rs wk kq kc i z.1.2.ks (fun y=>MtC H.L (z.1.2.ks.take j) x y) oq oc out rs' wk' mu' wr) (fun _ jv _=>z.1.2.ks.length-(intOf jv).toNat)
 case atStart=>exact⟨0,q3,c3,[x],rs,wk,false,o9 _,rfl,rfl,I4.o⟩
 case round=>
  obtain⟨j,oq,oc,out,rs5,wk5,mu5,hj,rfl,rfl,h5⟩:=hrel;have I5:=aA h5;clear h5 I4;by_cases hjl:j<z.1.2.ks.length
  ·have i0:(j:Int)<(z.1.2.ks.length:Int):=by omega
   have hw2:IntKind.wrap .i64 ((j:Int)+1)=(j:Int)+1:=wrap_small _ (by omega) (by omega);obtain⟨u,hu⟩:∃ u,z.1.2.ks[j]?=some u:=⟨_,g9 hjl⟩;obtain⟨y,q1,q2,q3'⟩:=HK.o.kid HZ.o hu;have HSN:Hid (∀ v,MtC H.L (z.1.2.ks.take (j+1)) x v ↔ ∃ v',MtC H.L (z.1.2.ks.take j) x v'/\Mt H.L y.1.2 v' v):=fun v=>by rw [q2,s7,hu,aBH,uP]
   have hval:∀ v∈out,Vf H.L v:=fun v hv=>by
    have key:∀ (ks:List Tr) (a b:Cf),MtC H.L ks a b->Vf H.L a->Vf H.L b:=by
     intro ks
     induction ks with
     | nil=>intro a b h ha;rw [cE] at h;rw [h];exact ha
     | cons t ts ih=>
      intro a b h ha;obtain⟨c,h1,h2⟩:=(bO _ _ _ _).1 h;exact ih c b h2 (dV t a c h1 ha).1
    exact key _ _ _ (I5.o.s v hv) HX.o
   obtain⟨gk,rfl,gk1,gk2,gk3⟩:=I5.o.kl.at (by rw [dI];omega);have x0:=I5.o.kl.cell (iA (i:=i) hjl);have EA:=aA (vL HEC.o I5.o.es.wm q1 (by rw [q2];have:=bW (n8 hu);have:=HSZ.o;omega) (c:=oc) I5.o.cr.arg hval I5.o.n false);have hkpl:i+1+szs (z.1.2.ks.take j)<2000:=(by have:=(m8.1 q1).1;omega);generalize i+1+szs (z.1.2.ks.take j)=kp at x0 EA hkpl;clear q1 q2 q3' hu hval;go_upto_region 21 with (go_at_call 53;(with_reducible refine(EA.o).mono ?_);rintro e w6 ⟨q6,c6,l6,rs6,wk6,mu6,rfl,h61,h62,h63,h64,h65⟩;have I6:Hid (aU9 H w rs wk (some (aDr gk 0)) kc i z.1.2.ks (fun y=>MtC H.L (z.1.2.ks.take (j+1)) x y) q6 c6 l6 rs6 wk6 mu6 w6):=(bB7 I5.o h61 h62 h63 h64 h65 HSN.o);clear h61 h62 h63 h64 h65)
   go_wp2;go_roundw
   case rel=>exact⟨j+1,q6,c6,l6,rs6,wk6,mu6,by omega,rfl,by go_num,I6.o⟩
   case measure=>simp only [intOf];omega
  ·have i0:¬ (j:Int)<(z.1.2.ks.length:Int):=by omega
   have HT:Hid (z.1.2.ks.take j=z.1.2.ks):=aA (o4 (by omega));go_wp2;go_ret;refine⟨oq,oc,out,rs5,wk5,mu5,rfl,I5.o.cr,I5.o.n,fun y hy=>?_,fun e y hy=>?_,I5.o.es⟩
   ·have:=I5.o.s y hy;rw [HT.o] at this;exact(HMT.o y).2 this
   ·refine I5.o.c e y ?_;rw [HT.o];exact(HMT.o y).1 hy
end
section
attribute [local go_sem] Oper.semAt_some
variable {H:Gh} {V V':World} {rs rs' rs'':lOn} {wk wk':Int} {mu mu' mu'':Bool} {x:Cf}
theorem aS0{n:Nat}(hE:EnC H n)(hk:Gk H){w:World}(hw:WM H w rs wk false){i:Nat}{z:Zl}(hz:H.Z[i]?=some z)(hn:z.1.2.sz<=n+1)(hx:Vf H.L x)(hpl:¬ PlT H.L z.1.2)(hkd:z.1.2.f.k=9) :
  Calls Tryz.prog 27 #[.pointer (some ⟨H.b,0,none⟩),.I (i:Int),.agg (cfA x)] w (EnP H w rs wk false w.heap.size (Mt H.L z.1.2 x)):=by
 have HKD:=aA hkd;have HEC:=aA hE;have HSZ:=aA hn;have HK:=aA hk;have B0:Hid (wBl w (w.alloc (.cells (cfA x) 69))):=bz9;have X0:Hid (BoxC (w.alloc (.cells (cfA x) 69)) w.heap.size x):=aD w _;have W0:=aA (hw.below B0.o);have hil:=(m8.1 hz).1;have iil:(i:Int)<(H.Z.length:Int):=by omega
 have hlen:=hk.len;have hsm:=hk.sm;have HZ:=aA hz;have HX:=aA hx;have HNP:=aA (((aI z.1.2).1 (hk.npz hz)).1);have HPB:Hid (plB H.L z.1.2=false):=aA (by unfold plB;simpa using hpl);have HBS:Hid (H.base<=w.heap.size):=aA (aBC (aBA hw.bb hw.b_lt));have hk2:z.1.2.ks.length<=2000:=by
  have h1:=eY z.1.2.ks;have h2:=dA z.1.2;obtain⟨r,hr⟩:=seg H.t [] i z.1 (hk.at hz);have h5:=congrArg List.length hr;rw [o5,bL,aAR] at h5;have h4:=congrArg List.length hk.mp;rw [aAC] at h4;omega
 clear hw hk hz hx hpl hE hn hkd;go_enter Tryz.func27,Tryz.ntmps27;go_upto_region 1 with fail
 generalize (w.alloc (.cells (cfA x) 69))=w1 at B0 X0 W0 ⊢;have E1:Hid (ES H w rs wk false w1 rs wk false):=⟨W0.o,Grw.refl _ _,Fr.of_below B0.o,fun e=>(by cases e),fun _=>aAW _⟩;have c0:=W0.o.cell (i:=0) rfl;have c14:=W0.o.cell (i:=14) rfl;have c17:=W0.o.cell (i:=17) (v:=.bool false) rfl;have y0:=W0.o.z.cells HZ.o (j:=0) (v:=.I z.1.2.f.k) rfl;have y1:=W0.o.z.cells HZ.o (j:=1) (v:=.I z.1.2.f.n) rfl;have y2:=W0.o.z.cells HZ.o (j:=2) (v:=.I z.1.2.f.mn) rfl;have y3:=W0.o.z.cells HZ.o (j:=3) (v:=.I z.1.2.f.mx) rfl;have y4:=W0.o.z.cells HZ.o (j:=4) (v:=.slice z.1.2.f.rq z.1.2.f.rs.length z.1.2.f.rc) rfl;have y5:=W0.o.z.cells HZ.o (j:=5) (v:=.slice z.1.2.f.kq z.1.2.f.kl z.1.2.f.kc) rfl;rw [aAJ] at y0;go_upto_region 5 with fail
 have B2:Hid (wBl w1 (w1.alloc (.cells (nDf z.1.2.f) 25))):=bz9;have N2:Hid (BoxN (w1.alloc (.cells (nDf z.1.2.f) 25)) w1.heap.size z.1.2.f):=aD w1 _;have E2:=aA (E1.o.below B2.o);have X2:=aA (X0.o.kept B2.o);have HNB:Hid (w.heap.size<w1.heap.size):=aA X0.o.lt;generalize (w1.alloc (.cells (nDf z.1.2.f) 25))=w2 at B2 E2 X2 N2 ⊢;clear B2;generalize w1.heap.size=nb at N2 HNB ⊢;have d14:=E2.o.wm.cell (i:=14) rfl;have p0:w2.cell? ⟨H.pb,i,none⟩=some (.bool false):=by
  have:=aP E2.o.wm.pl (j:=i) (u:=.bool (plB H.L z.1.2)) (by simp [HZ.o]);rw [this,HPB.o]
 clear c0 c14 c17 y0 y1 y2 y3 y4 y5 E1 X0 W0;obtain⟨n0,n1,n2,n3,n4,n5⟩:=N2.o.six;simp only [m7] at n1 n2 n3 n4 n5;have e5:(z.1.2.f.k==5)=false:=by rw [HKD.o];rfl
 have e6:(z.1.2.f.k==6)=false:=by rw [HKD.o];rfl
 have e7:(z.1.2.f.k==7)=false:=by rw [HKD.o];rfl
 have e8:(z.1.2.f.k==8)=false:=by rw [HKD.o];rfl
 have RX:=aA X2.o.get;have TU:=aA (aB0 HEC.o HK.o E2.o.wm HZ.o HSZ.o HX.o HKD.o);go_wp2_with first
  |((with_reducible refine fF ?_);refine bN rfl _ rfl w.heap.size 0 rfl x RX.o ?_)
  |(go_at_call 55;(with_reducible refine(TU.o).mono ?_);rintro e w6 ⟨q6,c6,l6,rs6,wk6,mu6,rfl,h61,h62,h63,h64,h65⟩;have I6:Hid (EnP H w rs wk false w.heap.size (Mt H.L z.1.2 x) (.returned (.slice q6 l6.length c6)) w6):=aA ⟨q6,c6,l6,rs6,wk6,mu6,rfl,bI h61 E2.o.f.size,h62,h63,h64,E2.o.then h65.wm h65.g h65.f (fun _ e=>e.elim) h65.mo h65.wkm⟩;clear h61 h62 h63 h64 h65)
 go_ret;exact I6.o
theorem vK(hk:Gk H):∀ n,EnC H n
 | 0=>fun i x z W rs wk mu _ hn=>absurd (dO z.1.2) (by omega)
 | n+1=>fun i x z W rs wk mu hz hn hx hw=>by
  cases mu with
  | true=>exact aG2 hw i _
  | false=>
   by_cases hpl:PlT H.L z.1.2
   ·exact yH hk hw hz hx hpl
   ·have hE:=vK hk n;have hnp:=((aI z.1.2).1 (hk.npz hz)).1;have leaf:z.1.2.ks=[]->z.1.2.f.k≠8->z.1.2.f.k≠7->False:=fun h0 h8 h7=>hpl ((aI z.1.2).2 ⟨⟨h8,fun e=>absurd e h7⟩,(aT _).2 fun u hu=>by rw [h0] at hu;cases hu⟩);rcases zH hnp with k | k | k | k | k | k | k | k | k
    ·exact(leaf (oT hnp (.inl k)) (by omega) (by omega)).elim
    ·exact(leaf (oT hnp (.inr (.inl k))) (by omega) (by omega)).elim
    ·exact(leaf (oT hnp (.inr (.inr (.inl k)))) (by omega) (by omega)).elim
    ·exact(leaf (oT hnp (.inr (.inr (.inr (.inl k))))) (by omega) (by omega)).elim
    ·exact aS2 hE hk hw hz hn hx hpl k
    ·exact aS3 hE hk hw hz hn hx hpl k
    ·exact aS1 hE hk hw hz hn hx hpl k
    ·exact aG3 hE hk hw hz hn hx hpl k
    ·exact aS0 hE hk hw hz hn hx hpl k
end
section
attribute [local go_sem] Oper.semAt_some
variable {H:Gh} {V V':World} {rs rs' rs'':lOn} {wk wk':Int} {mu mu' mu'':Bool}
theorem BoxC.putG{b:Nat}{x:Cf}(h:BoxC V b x)(h10:x.g.length=10){n:Nat}(hn:n<10)(A B:Int):BoxC ((V.setCell ⟨b,1+n*2,none⟩ (.I A)).setCell ⟨b,1+n*2+1,none⟩ (.I B)) b ⟨x.p,x.g.set n (A,B)⟩:=by
 have:=aJ (aJ h (1+n*2) (.I A)) (1+n*2+1) (.I B);unfold BoxC;rw [this];unfold cfA;rw [f8,f8,<- aT2 x.p x.g h10 hn A B]
def cfQ(a k:Nat):Cf:=⟨a,List.replicate k (-1,-1)++List.replicate (10-k) (0,0)⟩
theorem aT5{a k:Nat}(h:k<10):(⟨(cfQ a k).p,(cfQ a k).g.set k (-1,-1)⟩:Cf)=cfQ a (k+1):=by
 rcases k with _ | _ | _ | _ | _ | _ | _ | _ | _ | _ | k
 all_goals first | rfl | omega
theorem bC4(a:Nat):cfQ a 10=cf0 a:=rfl
theorem bC3{a k:Nat}(h:k<=10):(cfQ a k).g.length=10:=by simp [cfQ];omega
theorem bJ0{R:Ending->World->Prop}{a:Act}{W:World}{b:Nat}{x:Cf}(h:BoxC W b x)(ha:a.tmps[2]?.getD undef=.pointer (some (aDr b 0)))(hd:a.defers=[])(hR:R (.returned (.agg (cfA x))) W):bodyPost Tryz.prog Tryz.f28 R .ret a W:=by
 refine bodyPost_ret (v:=.agg (cfA x)) ?_ hd hR;have hl:=run_loadVar_mid (P:=Tryz.prog) W b 0 69 (cfC x) _ h.get pD rfl (by rw [lW,cN]);have hg:a.tmps.getD 2 undef=.pointer (some (aDr b 0)):=by rw [Array.getD_eq_getD_getElem?];exact ha
 simp only [results,Tryz.results28,List.mapM_toArray,List.mapM_cons,List.mapM_nil,bind_assoc,pure_bind,map_eq_pure_bind,hg,asAddr,Sem.run_bind,Sem.run_pure,hl,Result.andThen_ok]
 rfl
theorem aG5(a:Nat)(w:World):Calls Tryz.prog 28 #[.I (a:Int)] w fun e w'=>e=.returned (.agg (cfA (cf0 a)))/\wBl w w':=by
 have B0:Hid (wBl w (w.alloc (.cells #[.I 0,.I 0,.I 0,.I 0,.I 0,.I 0,.I 0,.I 0,.I 0,.I 0,.I 0,.I 0,.I 0,.I 0,.I 0,.I 0,.I 0,.I 0,.I 0,.I 0,.I 0] 69))):=bz9;have Z0:Hid ((w.alloc (.cells #[.I 0,.I 0,.I 0,.I 0,.I 0,.I 0,.I 0,.I 0,.I 0,.I 0,.I 0,.I 0,.I 0,.I 0,.I 0,.I 0,.I 0,.I 0,.I 0,.I 0,.I 0] 69)).heap[w.heap.size]?=some (.cells #[.I 0,.I 0,.I 0,.I 0,.I 0,.I 0,.I 0,.I 0,.I 0,.I 0,.I 0,.I 0,.I 0,.I 0,.I 0,.I 0,.I 0,.I 0,.I 0,.I 0,.I 0] 69 (0,0))):=aA (aD w _);go_enter Tryz.func28,Tryz.ntmps28;go_upto_region 1 with fail
 generalize (w.alloc (.cells #[.I 0,.I 0,.I 0,.I 0,.I 0,.I 0,.I 0,.I 0,.I 0,.I 0,.I 0,.I 0,.I 0,.I 0,.I 0,.I 0,.I 0,.I 0,.I 0,.I 0,.I 0] 69))=w1 at B0 Z0 ⊢;obtain⟨b0,hb0⟩:∃ b0,w.heap.size=b0:=⟨_,rfl⟩;rw [hb0] at Z0 ⊢;have hb1:=aC Z0.o;go_upto_region 2 with ((with_reducible refine yM ?_);refine kZ rfl _ _ rfl w1.heap.size (cfQ a 0) rfl rfl (aD _ _) rfl ?_;intro w2 hb2 hf2;have X2:=aA hb2;have B2:Hid (wBl w1 w2):=bB ((Below.refl _ w1).alloc lz9 _) hf2 lz9 (fun k e=>by omega);clear hb2 hf2)
 have Z2:=aA ((B2.o.block _ hb1).trans Z0.o);have BW2:=aA (aG B0.o B2.o lz9);have hwb:w.heap.size<=w1.heap.size:=B0.o.size;clear B0 B2 Z0;generalize w1.heap.size=b at X2 hwb hb1 ⊢;go_upto_region 3 with fail
 go_loopw [4] (fun iv wr=>∃ i:Nat,i<=10/\iv=.I (i:Int)/\BoxC wr b (cfQ a i)/\wr.heap[b0]?=some (.cells #[.I 0,.I 0,.I 0,.I 0,.I 0,.I 0,.I 0,.I 0,.I 0,.I 0,.I 0,.I 0,.I 0,.I 0,.I 0,.I 0,.I 0,.I 0,.I 0,.I 0,.I 0] 69 (0,0))/\wBl w wr) (fun iv _=>10-(intOf iv).toNat)
 case atStart=>exact⟨0,by omega,rfl,X2.o,Z2.o,BW2.o⟩
 case round=>
  obtain⟨i,hi,rfl,hx,hz,hb⟩:=hrel;have X3:=aA hx;have Z3:=aA hz;have B3:=aA hb;clear hx hz hb X2 Z2 BW2;by_cases hil:i<10
  ·have i0:(i:Int)<10:=by omega
   have i1:(0:Int)<=(i:Int):=by omega
   have hw2:IntKind.wrap .i64 ((i:Int)+1)=(i:Int)+1:=wrap_small _ (by omega) (by omega);have X4:=aA (X3.o.putG (bC3 (by omega)) hil (-1) (-1));rw [aT5 hil] at X4;have fz:=fun j=>X3.o.frz j;have g0:∃ v0,wr.cell? ⟨b,1+i*2,none⟩=some v0:=⟨_,aB X3.o (by unfold cfA;rw [List.getElem?_toArray,g9 (by rw [cN];omega)])⟩;have g1:∃ v1,wr.cell? ⟨b,1+i*2+1,none⟩=some v1:=⟨_,aB X3.o (by unfold cfA;rw [List.getElem?_toArray,g9 (by rw [cN];omega)])⟩;obtain⟨v0,g0⟩:=g0;obtain⟨v1,g1⟩:=g1;go_wp2;go_roundw
   case rel=>exact⟨i+1,by omega,by go_num,X4.o,(Below.heap_setCell _ _ _ _ (by simp;omega)).trans ((Below.heap_setCell _ _ _ _ (by simp;omega)).trans Z3.o),B3.o.trans (((Fr.refl (fun k=>k=b) wr).setCell (p:=⟨b,1+i*2,none⟩) rfl _ |>.setCell (p:=⟨b,1+i*2+1,none⟩) rfl _).below B3.o.size (fun k e=>by omega))⟩
   case measure=>simp only [intOf];omega
  ·have i0:¬ (i:Int)<10:=by omega
   obtain rfl:i=10:=by omega
   rw [bC4] at X3;have RX:=aA X3.o.get;go_wp2_with first
    |((with_reducible refine fF ?_);refine bN rfl _ rfl b 0 rfl (cf0 a) RX.o ?_)
    |((with_reducible refine yM ?_);refine kZ rfl _ _ rfl b0 (cf0 a) rfl rfl Z3.o rfl ?_;intro w5 hb5 hf5;have X5:=aA hb5;have B5:=aA (B3.o.trans (hf5.below B3.o.size (fun k e=>by omega)));clear hb5 hf5)
   refine bJ0 X5.o rfl rfl ⟨rfl,?_⟩
   first | exact B5.o |(rw [<- hb0];exact B5.o)
def EdP(H:Gh)(W:World)(rs:lOn)(wk:Int)(mu:Bool)(a:Nat)(e:Ending)(W':World):Prop:=∃ (q:Option Addr) (c:Nat) (l:List Nat) (rs':lOn) (wk':Int) (mu':Bool),
 e=.returned (.slice q l.length c)/\Ls12 W.heap.size W' q c l/\l.Pairwise (· < ·)/\(∀ j∈l,∃ y,Mt H.L H.t (cf0 a) y/\y.p=j)/\(mu'=false->∀ y,Mt H.L H.t (cf0 a) y->y.p∈l)/\ES H W rs wk mu W' rs' wk' mu'
theorem wG(hk:Gk H){w:World}(hw:WM H w rs wk mu){a:Nat}(ha:a<=H.L.s.size) :
  Calls Tryz.prog 11 #[.pointer (some ⟨H.b,0,none⟩),.I (a:Int)] w (EdP H w rs wk mu a):=by
 obtain⟨z,hz,hzt⟩:=hk.get (i:=0) (x:=([],H.t)) (by rw [bX];rfl);have hzt2:z.1.2=H.t:=by rw [hzt]
 have HMV:Hid (∀ y,Mt H.L H.t (cf0 a) y->y.p<=H.L.s.size):=fun y h=>(dV H.t (cf0 a) y h (nW ha)).1.p;have EM:=aA (aG5 a w);have EN:Hid (∀ W,WM H W rs wk mu->Calls Tryz.prog 27 #[.pointer (some ⟨H.b,0,none⟩),.I 0,.agg (cfA (cf0 a))] W (EnP H W rs wk mu W.heap.size (Mt H.L H.t (cf0 a)))):=fun W hW=>by
  have:=vK hk z.1.2.sz 0 (cf0 a) z W rs wk mu hz lz9 (nW ha) hW;rw [hzt2] at this;exact this
 have HW:=aA hw;have hsm:=hk.sm;obtain⟨N,hN⟩:∃ N,H.L.s.size+1=N:=⟨_,rfl⟩;have hwN:IntKind.wrap .i64 ((H.L.s.size:Int)+1)=(N:Int):=by rw [wrap_small _ (by omega) (by omega)];omega
 have MB:=eA N (by omega);have HN:=aA hN;have hN1:N<=1001:=by omega
 have HLE:=aA (o0 hw.bb (aBC hw.b_lt));clear hN hw hz hzt hzt2;go_enter Tryz.func11,Tryz.ntmps11;go_upto_region 2 with first
  |(go_at_call 28;(with_reducible refine(EM.o).mono ?_);rintro e w1 ⟨rfl,h1⟩;have B1:=aA h1;have W1:=aA (HW.o.below h1);clear h1)
  |(go_at_call 27;(with_reducible refine(EN.o _ W1.o).mono ?_);rintro e w2 ⟨q2,c2,l,rs2,wk2,mu2,rfl,h21,h22,h23,h24,h25⟩;have L2:=aA h21;have hll:=h22;have S2:=aA h23;have C2:=aA h24;have E2:Hid (ES H w rs wk mu w2 rs2 wk2 mu2):=aA (((ES.refl HW.o).below B1.o).then h25.wm h25.g h25.f (fun _ e=>e.elim) h25.mo h25.wkm);have hs12:=h25.f.size;clear h21 h22 h23 h24 h25)
 have d1:=E2.o.wm.cell (i:=1) rfl;have hs01:w.heap.size<=w2.heap.size:=o0 B1.o.size hs12;go_upto_region 3 with fail
 have B3:Hid (wBl w2 (w2.alloc (.cells (noC N) 4))):=bz9;have R3:Hid (BR w.heap.size (w2.alloc (.cells (noC N) 4)) w2.heap.size N (cJ N)):=iW hs01 (by omega);have E3:=aA (E2.o.below B3.o);have L3:=aA (L2.o.kept B3.o);have hpb:=E2.o.wm.pb_lt;generalize (w2.alloc (.cells (noC N) 4))=w3 at R3 E3 L3 ⊢;generalize w2.heap.size=g at R3 hpb hs01 ⊢;clear d1 B3 E2 L2 B1 W1 hs12;have HNL:Hid ((cJ N).length=N):=aA (cZ N);have M3:Hid (MkI w.heap.size g N w3 (cJ N) (fun _=>True) ((l.map Cf.p).take 0) (cJ N) w3):=⟨R3.o,rfl,fun j=>by simp,Fr.refl _ _⟩;go_upto_region 4 with fail
 go_loopw [7] (fun iv wr=>∃ (k:Nat) (is':List Bool),k<=l.length/\iv=.I (k:Int)/\MkI w.heap.size g N w3 (cJ N) (fun _=>True) ((l.map Cf.p).take k) is' wr) (fun iv _=>l.length-(intOf iv).toNat)
 case atStart=>exact⟨0,cJ N,o9 _,rfl,M3.o⟩
 case round=>
  obtain⟨k,is',hkl,rfl,hm⟩:=hrel;have HM:=aA hm;clear hm M3;by_cases hlt:k<l.length
  ·have i0:(k:Int)<(l.length:Int):=by omega
   have hw2:IntKind.wrap .i64 ((k:Int)+1)=(k:Int)+1:=wrap_small _ (by omega) (by omega);obtain⟨y,hy⟩:∃ y,l[k]?=some y:=⟨_,g9 hlt⟩;have hyp:y.p<=H.L.s.size:=HMV.o y (S2.o y (n8 hy));obtain⟨gm,rfl,gm1,gm2,cs,gm3⟩:=L3.o.at (by omega);have hne:gm≠g:=by
    obtain⟨cs',hc⟩:=R3.o.ty;exact bD gm3 hc (by decide)
   have HT:Hid ((l.map Cf.p).take (k+1)=(l.map Cf.p).take k++[y.p]):=aA (by rw [s7,aAO,hy];rfl);have y0:wr.cell? ⟨gm,k*21,none⟩=some (.I (y.p:Int)):=by
    have e:=HM.o.f.block gm gm1 hne;have h1:=L3.o.get hy 0 _ rfl;rw [aAJ] at h1;unfold World.cell? at h1 ⊢;rw [e];exact h1
   obtain⟨x,hx⟩:∃ x,y.p=x:=⟨_,rfl⟩;rw [hx] at y0 HT hyp;clear hx hy;have hxN:(x:Int)<(N:Int):=(by have:=HN.o;omega);have hfz:=HM.o.r.frz x;have hc:∃ b,wr.cell? (aDr g x)=some (.bool b):=⟨_,HM.o.r.cell (g9 (by rw [HM.o.n,HNL.o];omega))⟩;obtain⟨b0,hb0⟩:=hc;have HNX:=aA (HM.o.snoc (x:=x) (by rw [HNL.o];omega) trivial);go_wp2;go_roundw
   case rel=>exact⟨k+1,_,by omega,by go_num,by rw [HT.o];exact HNX.o⟩
   case measure=>simp only [intOf];omega
  ·have i0:¬ (k:Int)<(l.length:Int):=by omega
   have HT:Hid ((l.map Cf.p).take k=l.map Cf.p):=aA (o4 (by simp;omega));have hil:is'.length=N:=(by rw [HM.o.n,HNL.o]);have RI:=aA (dD (w:=wr) HM.o.r (by omega));rw [hil] at RI;have HIL:=aA hil;clear hil;go_wp2_with (go_at_call 29;(with_reducible refine(RI.o).mono ?_);rintro e w5 ⟨q5,c5,rfl,h51,h52⟩;have L5:=aA h51;have B5:=aA h52;clear h51 h52)
   go_ret;have hmem:∀ j,j∈eG is' N ↔ ∃ y∈l,y.p=j:=fun j=>by
    have h1:j∈eG is' is'.length↔is'[j]?=some true:=hQ;rw [HIL.o] at h1;rw [h1,HM.o.m j,HT.o];constructor
    ·rintro (q | ⟨q,-⟩)
     ·exact absurd q dW
     ·exact s4.1 q
    ·rintro ⟨y,hy,e⟩;exact .inr ⟨s4.2 ⟨y,hy,e⟩,trivial⟩
   have E4:ES H w rs wk mu wr rs2 wk2 mu2:=⟨E3.o.wm.mark R3.o HM.o.f (o0 HLE.o hs01) (by omega),E3.o.g,mS E3.o.f E3.o.g (HM.o.f.mono (fun k e=>Or.inr e):Fr (fun k=>wmf H rs2 k\/k=g) w3 wr) (fun i e=>.inr (by omega)),E3.o.mo,E3.o.wkm⟩;refine⟨q5,c5,eG is' N,rs2,wk2,mu2,rfl,L5.o.mono E4.f.size,zF _ _,fun j hj=>?_,fun e y hy=>?_,E4.below B5.o⟩
   ·obtain⟨y,hy,e⟩:=(hmem j).1 hj;exact⟨y,S2.o y hy,e⟩
   ·exact(hmem y.p).2 ⟨y,C2.o e y hy,rfl⟩
end
theorem aO5(most:Nat):∀ (a:List El) (k j:Nat) (z:Zl),(tl most k a)[j]?=some z->z.2=min (k+j+z.1.2.sz) most
 | [],k,j,z,h=>by simp [tl] at h
 | x :: a,k,0,z,h=>by
  rw [tl] at h;simp at h;subst h
  rfl
 | x :: a,k,j+1,z,h=>by
  rw [tl,aAP] at h;have:=aO5 most a (k+1) j z h;omega
theorem bL3{most:Nat}{t:Tr}{j:Nat}{z:Zl}(h:(gM most t)[j]?=some z):z.2=min (j+z.1.2.sz) most:=by
 have h':((tl most 0 (pp [] t)).take most)[j]?=some z:=by
  unfold gM jM at h;rw [aAI,List.length_nil,Nat.sub_zero] at h;exact h
 have hj:(tl most 0 (pp [] t))[j]?=some z:=by
  obtain⟨hl,hv⟩:=m8.1 h';rw [aAG] at hl;rw [List.getElem_take] at hv;exact m8.2 ⟨by omega,hv⟩
 have:=aO5 _ _ _ _ _ hj;omega
def uB(Z:List Zl)(m:Nat):Bool:=Z.any fun z=>z.1.2.f.k==8&&z.1.2.f.n==(m:Int)
theorem aV4{Z:List Zl}{i:Nat}{z:Zl}(h:Z[i]?=some z)(m:Nat):uB (Z.take (i+1)) m=(uB (Z.take i) m ||(z.1.2.f.k==8&&z.1.2.f.n==(m:Int))):=by
 rw [s7,h];simp [uB]
def bdB(L:Ln)(f:Fl):Bool:=f.k==8 ||(f.k==7&&kep L f.n)
def okR(L:Ln)(l:List Zl):Bool:=l.all fun z=>!bdB L z.1.2.f
theorem aN7{L:Ln}{Z:List Zl}{i k:Nat}{z:Zl}(hik:i<=k)(h:Z[k]?=some z):okR L ((Z.drop i).take (k+1-i))=(okR L ((Z.drop i).take (k-i)) && !bdB L z.1.2.f):=by
 have:k+1-i=(k-i)+1:=by omega
 rw [this,s7,aBV,show i+(k-i)=k by omega,h];simp [okR]
theorem aZ1{L:Ln}{t:Tr}{Z:List Zl}(hm:Z.map (·.1)=pp [] t){i:Nat}{z:Zl}(hz:Z[i]?=some z):okR L ((Z.drop i).take z.1.2.sz)=plB L z.1.2:=by
 have hi:(pp [] t)[i]?=some z.1:=by rw [<- hm,aAO,hz];rfl
 obtain⟨r,hr⟩:=seg t [] i z.1 hi;have hs:((Z.drop i).take z.1.2.sz).map (·.1)=pp z.1.1 z.1.2:=by
  rw [List.map_take,List.map_drop,hm,hr,List.take_append_of_le_length (by rw [bL];exact t8 _),o4 (by rw [bL];exact t8 _)]
 have hall:okR L ((Z.drop i).take z.1.2.sz)=true ↔ ∀ x∈pp z.1.1 z.1.2,bdB L x.2.f=false:=by
  rw [<- hs];unfold okR;rw [List.all_eq_true];constructor
  ·intro h x hx;obtain⟨y,hy,rfl⟩:=s4.1 hx;simpa using h y hy
  ·intro h y hy;simpa using h y.1 (s4.2 ⟨y,hy,rfl⟩)
 have hbd:∀ f:Fl,bdB L f=false↔(f.k≠8/\(f.k=7->kep L f.n=false)):=fun f=>by
  unfold bdB;by_cases h8:f.k=8
  ·simp [h8]
  ·by_cases h7:f.k=7
   ·simp [h7]
   ·simp [h8,h7]
 have hp:(∀ x∈pp z.1.1 z.1.2,bdB L x.2.f=false)↔PlT L z.1.2:=by
  constructor
  ·intro h;exact vI z.1.2 z.1.1 fun x hx=>(hbd _).1 (h x hx)
  ·intro h x hx;exact(hbd _).2 ((aI x.2).1 (fD z.1.2 z.1.1 h x hx)).1
 rw [Bool.eq_iff_iff,hall,hp];unfold plB;simp
def nwA(v:Value)(s:ByteArray)(c o:Bool)(u:Nat->Bool)(p r:Value):Array Value:=#[v,.string s,.bool c,.bool o,.bool (u 0),.bool (u 1),.bool (u 2),.bool (u 3),.bool (u 4),.bool (u 5),.bool (u 6),.bool (u 7),.bool (u 8),.bool (u 9),p,r,.I 0,.bool false]
theorem aZ6{v:Value}{s:ByteArray}{c o:Bool}{u:Nat->Bool}{p r:Value}{n:Nat}(hn:n<10):(nwA v s c o u p r).setIfInBounds (4+n) (.bool true)=nwA v s c o (fun m=>if m=n then true else u m) p r:=by
 rcases n with _ | _ | _ | _ | _ | _ | _ | _ | _ | _ | n
 all_goals first | rfl | omega
theorem bE4{v:Value}{s:ByteArray}{c o:Bool}{u:Nat->Bool}{p r:Value}{n:Nat}(hn:n<10):(nwA v s c o u p r)[4+n]?=some (.bool (u n)):=by
 rcases n with _ | _ | _ | _ | _ | _ | _ | _ | _ | _ | n
 all_goals first | rfl | omega
theorem aB3:(Tryz.prog.info? 110).map (fun i=>(i.zero,i.size,i.bytes))=some (some (.slice none 0 0),1,24):=by kernel_rfl
theorem aI4:Tryz.prog.underlying 41=some (.slice 110):=by kernel_rfl
def rzC(n:Nat):Array Value:=(List.replicate n (Value.slice none 0 0)).toArray
theorem aE3(n:Nat)(h:n<=1000000)(w:World) :
  (Instr.makeSlice 41 (.I (n:Int)) (.I (n:Int))).run Tryz.prog w=.ok (.slice (some (aDr w.heap.size 0)) n n) (w.alloc (.cells (rzC n) 110)):=by
 obtain⟨i0,hi,hz0,hz1,hz2⟩:=aR aB3;have:=run_make (P:=Tryz.prog) w 41 110 i0 (.slice none 0 0) aI4 hi hz0 .i64 .i64 (n:Int) (n:Int) (by omega) (by omega) (by rw [hz2];omega) (by omega);rw [hz1] at this;have e:madeCells #[.slice none 0 0] n=rzC n:=by
  unfold rzC;apply Array.ext
  ·simp [madeCells]
  intro i h1 h2;simp [madeCells,Nat.mod_one]
 rw [<- e];simpa [Value.cells] using this
def bQ4(w:World)(t:Tr)(s:ByteArray)(c o:Bool)(e:Ending)(w':World):Prop:=∃ (H:Gh) (rs:lOn),e=.returned (.pointer (some ⟨H.b,0,none⟩))/\WM H w' rs 0 false/\Gk H/\H.t=t/\H.L.s=s/\H.L.c=c/\H.L.o=o/\H.base=w.heap.size/\H.L.u=uB H.Z/\wBl w w'
inductive Sgn where
 | lf (k n:Int) (rs:lIi)
 | op (n:Nat)
 | cl
 | al
 | rp (a b:Int)
inductive Ps where
 | lf (k n:Int) (rs:lIi)
 | grp (n:Nat) (x:Ps)
 | rep (a b:Int) (x:Ps)
 | row (l:List Ps)
 | alt (l:List Ps)
mutual
def Ps.sz:Ps->Nat
 | .lf _ _ _=>1
 | .grp _ x=>x.sz+1
 | .rep _ _ x=>x.sz+1
 | .row l=>bU l+1
 | .alt l=>bU l+1
def bU:List Ps->Nat
 | []=>0
 | x :: l=>x.sz+bU l
end
mutual
def Ps.dp:Ps->Nat
 | .lf _ _ _=>1
 | .grp _ x=>x.dp+1
 | .rep _ _ x=>x.dp+1
 | .row l=>gK l+1
 | .alt l=>gK l+1
def gK:List Ps->Nat
 | []=>0
 | x :: l=>max x.dp (gK l)
end
mutual
def pfl:Ps->List Sgn
 | .lf k n rs=>[.lf k n rs]
 | .grp n x=>.op n :: (pfl x++[.cl])
 | .rep a b x=>pfl x++[.rp a b]
 | .row l=>eK l
 | .alt l=>lH l
def eK:List Ps->List Sgn
 | []=>[]
 | x :: l=>pfl x++eK l
def lH:List Ps->List Sgn
 | []=>[]
 | x :: l=>pfl x++eH l
def eH:List Ps->List Sgn
 | []=>[]
 | x :: l=>.al :: (pfl x++eH l)
end
mutual
def te:Ps->Er
 | .lf k n rs=>.mk k n 0 0 rs []
 | .grp n x=>.mk 7 n 0 0 [] [te x]
 | .rep a b x=>.mk 9 0 a b [] [te x]
 | .row l=>if l.isEmpty then .mk 1 0 0 0 [] [] else .mk 5 0 0 0 [] (tes l)
 | .alt l=>.mk 6 0 0 0 [] (tes l)
def tes:List Ps->List Er
 | []=>[]
 | x :: l=>te x :: tes l
end
theorem bP(l:List Ps):tes l=l.map te:=by
 induction l with
 | nil=>rw [tes];rfl
 | cons x l ih=>rw [tes,ih];rfl
def Ps.kd:Ps->Int
 | .lf k _ _=>k
 | .grp _ _=>7
 | .rep _ _ _=>9
 | .row l=>if l.isEmpty then 1 else 5
 | .alt _=>6
def iB:Ps->Bool
 | .row _=>false
 | .alt _=>false
 | _=>true
def kQ:Ps->Bool
 | .alt _=>false
 | _=>true
def fW:Ps->Bool
 | .lf k _ _=>k==2||k==8
 | .grp _ _=>true
 | .rep _ _ _=>true
 | _=>false
def bN4(l:List Ps):Prop:=∀ (i:Nat) (x:Ps),l[i]?=some x->iB x=true/\(x.kd=3->i=0)/\(x.kd=4->i+1=l.length)
mutual
def wf:Ps->Prop
 | .lf k _ _=>k=2\/k=3\/k=4\/k=8
 | .grp _ x=>wf x
 | .rep _ _ x=>fW x=true/\wf x
 | .row l=>l.length≠1/\bN4 l/\wfs l
 | .alt l=>2<=l.length/\(∀ x∈l,kQ x=true)/\wfs l
def wfs:List Ps->Prop
 | []=>True
 | x :: l=>wf x/\wfs l
end
theorem dC(l:List Ps):wfs l ↔ ∀ x∈l,wf x:=by
 induction l with
 | nil=>rw [wfs];simp
 | cons x l ih=>rw [wfs,ih];simp
theorem aN3(x:Ps):eK [x]=pfl x:=by rw [eK,eK,t9]
theorem gG(x:Ps):1<=x.sz:=by cases x <;> simp [Ps.sz]
theorem bH(x:Ps)(l:List Ps):bU (x :: l)=x.sz+bU l:=by rw [bU]
theorem gZ:bU []=0:=by rw [bU]
theorem zC{x:Ps}{l:List Ps}(h:x∈l):x.sz<=bU l:=by
 induction l with
 | nil=>cases h
 | cons y l ih=>
  rw [bH];rcases u0.1 h with rfl | h
  ·omega
  ·have:=ih h;omega
def Ps.kids:Ps->List Ps
 | .lf _ _ _=>[]
 | .grp _ x=>[x]
 | .rep _ _ x=>[x]
 | .row l=>l
 | .alt l=>l
theorem zD{x y:Ps}(h:y∈x.kids):y.sz<x.sz:=by
 cases x with
 | lf=>cases h
 | grp n k=>simp [Ps.kids] at h;subst h;simp [Ps.sz]
 | rep a b k=>simp [Ps.kids] at h;subst h;simp [Ps.sz]
 | row l=>have:=zC (show y∈l from h);simp [Ps.sz];omega
 | alt l=>have:=zC (show y∈l from h);simp [Ps.sz];omega
theorem Ps.ind{P:Ps->Prop}(h:∀ x,(∀ y∈x.kids,P y)->P x)(x:Ps):P x:=by
 have:∀ (m:Nat) (x:Ps),x.sz<=m->P x:=by
  intro m
  induction m with
  | zero=>intro x hx;have:=gG x;omega
  | succ m ih=>intro x hx;exact h x fun y hy=>ih y (by have:=zD hy;omega)
 exact this x.sz x lz9
theorem eJ{x y:Ps}(h:wf x)(hy:y∈x.kids):wf y:=by
 cases x with
 | lf=>cases hy
 | grp n k=>simp [Ps.kids] at hy;subst hy;rw [wf] at h;exact h
 | rep a b k=>simp [Ps.kids] at hy;subst hy;rw [wf] at h;exact h.2
 | row l=>rw [wf] at h;exact(dC l).1 h.2.2 y hy
 | alt l=>rw [wf] at h;exact(dC l).1 h.2.2 y hy
def hk:Nat->List Nat->List Nat->List Sgn->Prop
 | _,o,_,[]=>o=[]
 | g,o,e,.op n :: l=>n=g+1/\g<30/\hk (g+1) (n :: o) e l
 | g,o,e,.cl :: l=>∃ n o',o=n :: o'/\hk g o' (n :: e) l
 | g,o,e,.lf k n _ :: l=>(k=8->∃ i∈e,n=(i:Int))/\hk g o e l
 | g,o,e,_ :: l=>hk g o e l
def mkB(l:List Ps):Ps:=match l with
 | [x]=>x
 | l=>.row l
def mkP(l:List Ps):Ps:=match l with
 | [x]=>x
 | l=>.alt l
theorem uS(l:List Ps):pfl (mkB l)=eK l:=by
 unfold mkB
 split
 ·rw [aN3]
 ·rw [pfl]
section
mutual
def grs:Ps->Nat
 | .lf _ _ _=>0
 | .grp _ x=>grs x+1
 | .rep _ _ x=>grs x
 | .row l=>bT l
 | .alt l=>bT l
def bT:List Ps->Nat
 | []=>0
 | x :: l=>grs x+bT l
end
def isE:Ps->Bool
 | .row []=>true
 | _=>false
theorem oV(x:Ps):isE x=true↔x=.row []:=by
 cases x with
 | row l=>cases l <;> simp [isE]
 | lf=>simp [isE]
 | grp=>simp [isE]
 | rep=>simp [isE]
 | alt=>simp [isE]
def kS:Ps->Bool
 | .rep a b _=>a==0&&b==-1
 | _=>false
def isS:Ps->Bool
 | .lf k _ _=>k==2
 | _=>false
def rsP:Ps->lIi
 | .lf _ _ rs=>rs
 | _=>[]
def iL(a b:Int)(x:Ps):Ps:=if a=1/\b=1 then x else if a=0/\b=-1/\kS x=true then x else if b=0/\grs x=0 then .row [] else if isE x then .row [] else .rep a b x
def jC(l:List Ps):Ps:=if l.any isE then mkB (l.filter fun x=>!isE x) else .row l
def bV(u:lIi):Bool->List Ps->List Ps
 | _,[]=>[]
 | s,x :: l=>if isS x then (if s then bV u s l else .lf 2 0 u :: bV u true l) else x :: bV u s l
def bG(un:lIi->lIi)(l:List Ps):List Ps:=if 2<=(l.filter isS).length then bV (un ((l.filter isS).flatMap rsP)) false l else l
open Classical in
noncomputable def aW:List Ps->List Ps->List Ps
 | acc,[]=>acc
 | acc,x :: l=>if x∈acc then aW acc l else aW (acc++[x]) l
noncomputable def kO (un:lIi->lIi) (l:List Ps):Ps:=mkP (aW [] (bG un l))
variable (un:lIi->lIi)
mutual
noncomputable def sim:Ps->Ps
 | .lf k n rs=>.lf k n rs
 | .grp n x=>.grp n (sim x)
 | .rep a b x=>iL a b (sim x)
 | .row l=>jC (cC l)
 | .alt l=>kO un (cC l)
noncomputable def cC:List Ps->List Ps
 | []=>[]
 | x :: l=>sim x :: cC l
end
theorem cY(l:List Ps):cC un l=l.map (sim un):=by
 induction l with
 | nil=>rw [cC];rfl
 | cons x l ih=>rw [cC,ih];rfl
theorem cX(l:List Ps):∀ (acc:List Ps) (x:Ps),x∈aW acc l↔x∈acc\/x∈l:=by
 induction l with
 | nil=>intro acc x;rw [aW];simp
 | cons y l ih=>
  intro acc x;rw [aW]
  split
  ·rename_i h
   rw [ih,u0];constructor
   ·rintro (q | q)
    ·exact .inl q
    ·exact .inr (.inr q)
   ·rintro (q | q | q)
    ·exact .inl q
    ·rw [q];exact .inl h
    ·exact .inr q
  ·rw [ih,o3,s9,u0,or_assoc]
theorem jF(l:List Ps):∀ (acc:List Ps),acc.Nodup->(aW acc l).Nodup:=by
 induction l with
 | nil=>intro acc h;rw [aW];exact h
 | cons y l ih=>
  intro acc h;rw [aW]
  split
  ·exact ih acc h
  ·rename_i hy
   exact ih _ (List.nodup_append.2 ⟨h,List.nodup_cons.2 ⟨fun q=>(by cases q),List.nodup_nil⟩,fun a ha b hb=>by rw [s9.1 hb];intro e;exact hy (e ▸ ha)⟩)
theorem fP(u:lIi)(l:List Ps):∀ (s:Bool) (x:Ps),x∈bV u s l->x=.lf 2 0 u\/(x∈l/\isS x=false):=by
 induction l with
 | nil=>intro s x h;rw [bV] at h;cases h
 | cons y l ih=>
  intro s x h;rw [bV] at h
  split at h
  ·split at h
   ·exact(ih _ x h).imp id (fun q=>⟨m9 _ q.1,q.2⟩)
   ·rcases u0.1 h with e | e
    ·exact .inl e
    ·exact(ih _ x e).imp id (fun q=>⟨m9 _ q.1,q.2⟩)
  ·rename_i hy
   rcases u0.1 h with e | e
   ·exact .inr ⟨by rw [e];exact n9 ..,by rw [e];simpa using hy⟩
   ·exact(ih _ x e).imp id (fun q=>⟨m9 _ q.1,q.2⟩)
theorem kH{l:List Ps}{x:Ps}(h:x∈bG un l):(∃ u,x=.lf 2 0 u)\/x∈l:=by
 unfold bG at h
 split at h
 ·rcases fP _ _ _ _ h with e | e
  ·exact .inl ⟨_,e⟩
  ·exact .inr e.1
 ·exact .inr h
theorem oL(x:Ps):wf x->fW x=true->fW (sim un x)=true\/sim un x=.row []:=by
 refine Ps.ind (P:=fun x=>wf x->fW x=true->fW (sim un x)=true\/sim un x=.row []) (fun x ih hw ht=>?_) x
 cases x with
 | lf k n rs=>rw [sim];exact .inl ht
 | grp n y=>rw [sim];exact .inl rfl
 | rep a b y=>
  rw [wf] at hw;have hy:=ih y (by simp [Ps.kids]) hw.2 hw.1;rw [sim];unfold iL
  split
  ·exact hy
  split
  ·exact hy
  split
  ·exact .inr rfl
  split
  ·exact .inr rfl
  ·exact .inl rfl
 | row l=>cases ht
 | alt l=>cases ht
theorem aB1{x:Ps}(h:fW x=true):iB x=true/\x.kd≠3/\x.kd≠4:=by
 cases x with
 | lf k n rs=>
  simp [fW] at h;refine⟨rfl,?_,?_⟩ <;> simp [Ps.kd] <;> omega
 | grp n y=>exact⟨rfl,by simp [Ps.kd],by simp [Ps.kd]⟩
 | rep a b y=>exact⟨rfl,by simp [Ps.kd],by simp [Ps.kd]⟩
 | row l=>cases h
 | alt l=>cases h
theorem tA{x:Ps}(hw:wf x)(h:iB x=true):(iB (sim un x)=true/\((sim un x).kd=3->x.kd=3)/\((sim un x).kd=4->x.kd=4))\/sim un x=.row []:=by
 cases x with
 | lf k n rs=>rw [sim];exact .inl ⟨rfl,fun e=>e,fun e=>e⟩
 | grp n y=>rw [sim];exact .inl ⟨rfl,fun e=>(by simp [Ps.kd] at e),fun e=>(by simp [Ps.kd] at e)⟩
 | rep a b y=>
  rcases oL un (.rep a b y) hw rfl with e | e
  ·obtain⟨h1,h2,h3⟩:=aB1 e;exact .inl ⟨h1,fun q=>absurd q h2,fun q=>absurd q h3⟩
  ·exact .inr e
 | row l=>cases h
 | alt l=>cases h
theorem bL0{l:List Ps}(h:∀ x∈l,iB x=true):kQ (mkB l)=true:=by
 match l,h with
 | [],_=>rfl
 | [x],h=>have:=h x (by simp);show kQ x=true;cases x <;> first | rfl | cases this
 | _ :: _ :: _,_=>rfl
theorem wB{l:List Ps}(h:∀ (i:Nat) (x:Ps),l[i]?=some x->isE x=false->iB x=true/\(x.kd=3->i=0)/\(x.kd=4->i+1=l.length)):bN4 (l.filter fun x=>!isE x):=by
 induction l with
 | nil=>intro i x hx;simp at hx
 | cons y l ih=>
  have ht:∀ (i:Nat) (x:Ps),l[i]?=some x->isE x=false->iB x=true/\(x.kd=3->False)/\(x.kd=4->i+1=l.length):=fun i x hx he=>by
   obtain⟨h1,h2,h3⟩:=h (i+1) x (by simpa using hx) he;refine⟨h1,fun e=>by have:=h2 e;omega,fun e=>by have:=h3 e;simp at this;omega⟩
  have ih':=ih fun i x hx he=>⟨(ht i x hx he).1,fun e=>((ht i x hx he).2.1 e).elim,(ht i x hx he).2.2⟩;have h3':∀ x∈l,isE x=false->x.kd≠3:=fun x hx he e=>by
   obtain⟨i,hi,e2⟩:=List.getElem_of_mem hx;exact(ht i x (by rw [g9 hi,e2]) he).2.1 e
  rw [aAV];by_cases he:isE y=true
  ·rw [if_neg (by rw [he];simp)];exact ih'
  ·have he:isE y=false:=by simpa using he
   rw [if_pos (by rw [he];rfl)];intro i x hx
   cases i with
   | zero=>
    rw [List.getElem?_cons_zero] at hx;cases hx;obtain⟨h1,h2,h3⟩:=h 0 y rfl he;refine⟨h1,fun _=>rfl,fun e=>?_⟩;have:=h3 e;simp at this;subst this
    rfl
   | succ i=>
    rw [aAP] at hx;obtain⟨h1,h2,h3⟩:=ih' i x hx;have hm:=n8 hx;rw [aAF] at hm;refine⟨h1,fun e=>absurd e (h3' x hm.1 (by simpa using hm.2)),fun e=>by have:=h3 e;simp;omega⟩
theorem bF9{l:List Ps}(ha:bN4 l)(hw:∀ x∈l,wf x):wf (mkB l):=by
 match l,ha,hw with
 | [],ha,_=>show wf (.row []);rw [wf];exact⟨by simp,ha,(dC _).2 (fun _ h=>by cases h)⟩
 | [x],_,hw=>exact hw x (by simp)
 | x :: y :: r,ha,hw=>show wf (.row _);rw [wf];exact⟨by simp,ha,(dC _).2 hw⟩
theorem bF8{l:List Ps}(hn:l≠[])(hb:∀ x∈l,kQ x=true)(hw:∀ x∈l,wf x):wf (mkP l):=by
 match l,hn,hb,hw with
 | [],hn,_,_=>exact absurd rfl hn
 | [x],_,_,hw=>exact hw x (by simp)
 | x :: y :: r,_,hb,hw=>show wf (.alt _);rw [wf];exact⟨by simp,hb,(dC _).2 hw⟩
theorem tW(u:lIi)(l:List Ps):l≠[]->bV u false l≠[]:=by
 cases l with
 | nil=>intro h;exact absurd rfl h
 | cons x l=>
  intro _;rw [bV]
  split <;> simp
theorem uY{l:List Ps}(h:l≠[]):bG un l≠[]:=by
 unfold bG
 split
 ·exact tW _ _ h
 ·exact h
theorem pG{l:List Ps}(h:l≠[]):aW [] l≠[]:=fun e=>by
 obtain⟨x,hx⟩:=List.exists_mem_of_ne_nil l h;have:=(cX l [] x).2 (.inr hx);rw [e] at this;cases this
theorem aT8(x:Ps)(hw:wf x)(h:kQ x=true)(hk:∀ y∈x.kids,wf y):kQ (sim un x)=true:=by
 cases x with
 | lf k n rs=>rw [sim];rfl
 | grp n y=>rw [sim];rfl
 | rep a b y=>
  rcases oL un (.rep a b y) hw rfl with e | e
  ·generalize sim un (.rep a b y)=z at e;cases z <;> first | rfl | cases e
  ·rw [e];rfl
 | row l=>
  rw [sim];unfold jC
  split
  ·refine bL0 fun z hz=>?_;rw [aAF,cY] at hz;obtain⟨y,hy,e⟩:=s4.1 hz.1;rw [wf] at hw;obtain⟨i,hi,e2⟩:=List.getElem_of_mem hy;have:=(hw.2.1 i y (by rw [g9 hi,e2])).1;rcases tA un (hk y hy) this with q | q
   ·rw [<- e];exact q.1
   ·rw [<- e,q] at hz;simp [isE] at hz
  ·rfl
 | alt l=>cases h
theorem pB(x:Ps):wf x->wf (sim un x):=by
 refine Ps.ind (P:=fun x=>wf x->wf (sim un x)) (fun x ih hw=>?_) x;have hk:∀ y∈x.kids,wf y:=fun y hy=>eJ hw hy
 cases x with
 | lf k n rs=>rw [sim];exact hw
 | grp n y=>
  rw [sim,wf];exact ih y (by simp [Ps.kids]) (hk y (by simp [Ps.kids]))
 | rep a b y=>
  have hy:=ih y (by simp [Ps.kids]) (hk y (by simp [Ps.kids]));have he:wf (.row []):=by rw [wf];exact⟨by simp,fun i x hx=>(by simp at hx),(dC _).2 (fun _ h=>by cases h)⟩
  have hw':=hw;rw [wf] at hw';have ht:=oL un y hw'.2 hw'.1;rw [sim];unfold iL
  split
  ·exact hy
  split
  ·exact hy
  split
  ·exact he
  split
  ·exact he
  ·rename_i hne
   rw [wf];refine⟨ht.resolve_right fun e=>?_,hy⟩;rw [e] at hne;exact hne rfl
 | row l=>
  have hl:∀ z∈cC un l,wf z:=fun z hz=>by
   rw [cY] at hz;obtain⟨y,hy,e⟩:=s4.1 hz;rw [<- e];exact ih y hy (hk y hy)
  have hw':=hw;rw [wf] at hw';have hlen:(cC un l).length=l.length:=by rw [cY,aAC]
  have ha:∀ (i:Nat) (z:Ps),(cC un l)[i]?=some z->isE z=false->iB z=true/\(z.kd=3->i=0)/\(z.kd=4->i+1=(cC un l).length):=fun i z hz he=>by
   rw [cY,aAO] at hz
   cases hy:l[i]? with
   | none=>rw [hy] at hz;cases hz
   | some y=>
    rw [hy] at hz;have e:sim un y=z:=aAE hz;obtain⟨h1,h2,h3⟩:=hw'.2.1 i y hy;rcases tA un (hk y (n8 hy)) h1 with q | q
    ·rw [e] at q;exact⟨q.1,fun k=>h2 (q.2.1 k),fun k=>by rw [hlen];exact h3 (q.2.2 k)⟩
    ·rw [<- e,q] at he;cases he
  rw [sim];unfold jC
  split
  ·exact bF9 (wB ha) (fun z hz=>hl z (aAF.1 hz).1)
  ·rename_i hany
   rw [wf];refine⟨by rw [hlen];exact hw'.1,fun i z hz=>ha i z hz ?_,(dC _).2 hl⟩
   cases h:isE z with
   | false=>rfl
   | true=>exact absurd (aAX.2 ⟨z,n8 hz,h⟩) hany
 | alt l=>
  have hw':=hw;rw [wf] at hw';have hl:∀ z∈cC un l,wf z/\kQ z=true:=fun z hz=>by
   rw [cY] at hz;obtain⟨y,hy,e⟩:=s4.1 hz;rw [<- e];exact⟨ih y hy (hk y hy),aT8 un y (hk y hy) (hw'.2.1 y hy) (fun v hv=>eJ (hk y hy) hv)⟩
  have hj:∀ z∈bG un (cC un l),wf z/\kQ z=true:=fun z hz=>by
   rcases kH un hz with⟨u,e⟩ | e
   ·rw [e];exact⟨by rw [wf];exact .inl rfl,rfl⟩
   ·exact hl z e
  have hne:cC un l≠[]:=fun e=>by
   have:=congrArg List.length e;rw [cY,aAC] at this;have:=hw'.1
   simp_all
  rw [sim];unfold kO;have hm:∀ z∈aW [] (bG un (cC un l)),wf z/\kQ z=true:=fun z hz=>by
   rcases (cX _ _ _).1 hz with q | q
   ·cases q
   ·exact hj z q
  exact bF8 (pG (uY un hne)) (fun z hz=>(hm z hz).2) (fun z hz=>(hm z hz).1)
end
mutual
def gln:Ps->List Nat
 | .lf _ _ _=>[]
 | .grp n x=>n :: gln x
 | .rep _ _ x=>gln x
 | .row l=>cK l
 | .alt l=>cK l
def cK:List Ps->List Nat
 | []=>[]
 | x :: l=>cK l++gln x
end
mutual
def hp:Nat->List Nat->Ps->Prop
 | _,e,.lf k n _=>k=8->∃ i∈e,n=(i:Int)
 | g,e,.grp n x=>n=g+1/\g<30/\hp (g+1) e x
 | g,e,.rep _ _ x=>hp g e x
 | g,e,.row l=>hps g e l
 | g,e,.alt l=>hps g e l
def hps:Nat->List Nat->List Ps->Prop
 | _,_,[]=>True
 | g,e,x :: l=>hp g e x/\hps (g+grs x) (gln x++e) l
end
theorem aQ7(x:Ps):∀ (g:Nat) (o e:List Nat) (r:List Sgn),hk g o e (pfl x++r)↔hp g e x/\hk (g+grs x) o (gln x++e) r:=by
 refine Ps.ind (P:=fun x=>∀ (g:Nat) (o e:List Nat) (r:List Sgn),hk g o e (pfl x++r)↔hp g e x/\hk (g+grs x) o (gln x++e) r) (fun x ih g o e r=>?_) x;have hrow:∀ l:List Ps,(∀ y∈l,y∈x.kids)->∀ (g:Nat) (o e:List Nat) (r:List Sgn),hk g o e (eK l++r)↔hps g e l/\hk (g+bT l) o (cK l++e) r:=by
  intro l
  induction l with
  | nil=>intro _ g o e r;rw [eK,hps,bT,cK];simp
  | cons y l ih2=>
   intro hs g o e r;rw [eK,r8,ih y (hs y (n9 ..)),ih2 (fun z hz=>hs z (m9 _ hz)),hps,bT,cK,and_assoc,aAU,r8]
 have halt:∀ l:List Ps,(∀ y∈l,y∈x.kids)->∀ (g:Nat) (o e:List Nat) (r:List Sgn),hk g o e (eH l++r)↔hps g e l/\hk (g+bT l) o (cK l++e) r:=by
  intro l
  induction l with
  | nil=>intro _ g o e r;rw [eH,hps,bT,cK];simp
  | cons y l ih2=>
   intro hs g o e r;rw [eH,t4,r8];show hk g o e (pfl y++(eH l++r))↔_;rw [ih y (hs y (n9 ..)),ih2 (fun z hz=>hs z (m9 _ hz)),hps,bT,cK,and_assoc,aAU,r8]
 cases x with
 | lf k n rs=>rw [pfl,grs,gln,hp];rfl
 | grp n y=>
  rw [pfl,t4,r8];show (n=g+1/\g<30/\hk (g+1) (n :: o) e (pfl y++([.cl]++r)))↔_;rw [ih y (by simp [Ps.kids]),hp,grs,gln];have h1:hk (g+1+grs y) (n :: o) (gln y++e) ([Sgn.cl]++r)↔hk (g+(grs y+1)) o (n :: gln y++e) r:=by
   show (∃ m o',n :: o=m :: o'/\hk (g+1+grs y) o' (m :: (gln y++e)) r)↔_;rw [show g+1+grs y=g+(grs y+1) by omega];constructor
   ·rintro ⟨m,o',h,h2⟩;cases h;exact h2
   ·intro h;exact⟨n,o,rfl,h⟩
  rw [h1];constructor
  ·rintro ⟨a,b,c,d⟩;exact⟨⟨a,b,c⟩,d⟩
  ·rintro ⟨⟨a,b,c⟩,d⟩;exact⟨a,b,c,d⟩
 | rep a b y=>
  rw [pfl,r8,ih y (by simp [Ps.kids]),hp,grs,gln]
  rfl
 | row l=>
  rw [pfl,hp,grs,gln];exact hrow l (fun _ h=>h) g o e r
 | alt l=>
  rw [pfl,hp,grs,gln]
  cases l with
  | nil=>rw [lH,hps,bT,cK];simp
  | cons y l=>
   rw [lH,r8,ih y (by simp [Ps.kids]),halt l (fun z hz=>m9 _ hz),hps,bT,cK,and_assoc,aAU,r8]
theorem bM2(x:Ps):∀ (g g':Nat) (e e':List Nat),hp g e x->hp g' e' x->0<grs x->g=g':=by
 refine Ps.ind (P:=fun x=>∀ (g g':Nat) (e e':List Nat),hp g e x->hp g' e' x->0<grs x->g=g') (fun x ih g g' e e' h h' hg=>?_) x;have hrow:∀ l:List Ps,(∀ y∈l,y∈x.kids)->∀ (g g':Nat) (e e':List Nat),hps g e l->hps g' e' l->0<bT l->g=g':=by
  intro l
  induction l with
  | nil=>intro _ g g' e e' _ _ hg;rw [bT] at hg;omega
  | cons y l ih2=>
   intro hs g g' e e' h h' hg;rw [hps] at h h';rw [bT] at hg;by_cases hy:0<grs y
   ·exact ih y (hs y (n9 ..)) g g' e e' h.1 h'.1 hy
   ·have:=ih2 (fun z hz=>hs z (m9 _ hz)) _ _ _ _ h.2 h'.2 (by omega);omega
 cases x with
 | lf k n rs=>rw [grs] at hg;omega
 | grp n y=>
  rw [hp] at h h';omega
 | rep a b y=>
  rw [hp] at h h';rw [grs] at hg;exact ih y (by simp [Ps.kids]) g g' e e' h h' hg
 | row l=>
  rw [hp] at h h';rw [grs] at hg;exact hrow l (fun _ h=>h) g g' e e' h h' hg
 | alt l=>
  rw [hp] at h h';rw [grs] at hg;exact hrow l (fun _ h=>h) g g' e e' h h' hg
section
theorem qD(a b:List Ps):bT (a++b)=bT a+bT b:=by
 induction a with
 | nil=>rw [bT];simp
 | cons x a ih=>rw [t4,bT,bT,ih];omega
theorem vD(a b:List Ps):cK (a++b)=cK b++cK a:=by
 induction a with
 | nil=>rw [cK];simp
 | cons x a ih=>rw [t4,cK,cK,ih,r8]
theorem tB(a b:List Ps):∀ (g:Nat) (e:List Nat),hps g e (a++b)↔hps g e a/\hps (g+bT a) (cK a++e) b:=by
 induction a with
 | nil=>intro g e;rw [hps,bT,cK];simp
 | cons x a ih=>intro g e;rw [t4,hps,hps,ih,bT,cK,and_assoc,aAU,r8]
theorem bB2(x:Ps):(gln x).length=grs x:=by
 refine Ps.ind (P:=fun x=>(gln x).length=grs x) (fun x ih=>?_) x;have hrow:∀ l:List Ps,(∀ y∈l,y∈x.kids)->(cK l).length=bT l:=by
  intro l
  induction l with
  | nil=>intro _;rw [cK,bT];rfl
  | cons y l ih2=>intro hs;rw [cK,bT,o5,ih y (hs y (n9 ..)),ih2 (fun z hz=>hs z (m9 _ hz))];omega
 cases x with
 | lf k n rs=>rw [gln,grs];rfl
 | grp n y=>rw [gln,grs,o7,ih y (by simp [Ps.kids])]
 | rep a b y=>rw [gln,grs,ih y (by simp [Ps.kids])]
 | row l=>rw [gln,grs];exact hrow l (fun _ h=>h)
 | alt l=>rw [gln,grs];exact hrow l (fun _ h=>h)
theorem aR1{x:Ps}(h:grs x=0):gln x=[]:=List.length_eq_zero_iff.1 ((bB2 x).trans h)
structure aU8(g:Nat)(e:List Nat)(l m:List Ps):Prop where
 h:hps g e l->hps g e m
 r:bT m=bT l
 n:cK m=cK l
theorem bA4(l:List Ps):(∀ g e,hp g e (mkB l)↔hps g e l)/\grs (mkB l)=bT l/\gln (mkB l)=cK l:=by
 match l with
 | []=>exact⟨fun g e=>by show hp g e (.row [])↔_;rw [hp],by show grs (.row [])=_;rw [grs],by show gln (.row [])=_;rw [gln]⟩
 | [x]=>exact⟨fun g e=>by show hp g e x↔_;rw [hps,hps];simp,by show grs x=_;rw [bT,bT];rfl,by show gln x=_;rw [cK,cK];rfl⟩
 | x :: y :: r=>exact⟨fun g e=>by show hp g e (.row _)↔_;rw [hp],by show grs (.row _)=_;rw [grs],by show gln (.row _)=_;rw [gln]⟩
theorem bA3(l:List Ps):(∀ g e,hp g e (mkP l)↔hps g e l)/\grs (mkP l)=bT l/\gln (mkP l)=cK l:=by
 match l with
 | []=>exact⟨fun g e=>by show hp g e (.alt [])↔_;rw [hp],by show grs (.alt [])=_;rw [grs],by show gln (.alt [])=_;rw [gln]⟩
 | [x]=>exact⟨fun g e=>by show hp g e x↔_;rw [hps,hps];simp,by show grs x=_;rw [bT,bT];rfl,by show gln x=_;rw [cK,cK];rfl⟩
 | x :: y :: r=>exact⟨fun g e=>by show hp g e (.alt _)↔_;rw [hp],by show grs (.alt _)=_;rw [grs],by show gln (.alt _)=_;rw [gln]⟩
theorem yE(l:List Ps):∀ (g:Nat) (e:List Nat),aU8 g e l (l.filter fun x=>!isE x):=by
 induction l with
 | nil=>intro g e;exact⟨fun h=>h,rfl,rfl⟩
 | cons x l ih=>
  intro g e;rw [aAV];by_cases he:isE x=true
  ·rw [if_neg (by rw [he];simp)];rw [(oV x).1 he];have i:=ih g e;have h1:grs (.row [])=0:=(by rw [grs,bT]);have h2:gln (.row [])=[]:=(by rw [gln,cK]);exact⟨fun h=>by rw [hps,h1,h2] at h;exact i.h h.2,by rw [bT,h1,i.r];omega,by rw [cK,h2,i.n];simp⟩
  ·rw [if_pos (by simpa using he)];have i:=ih (g+grs x) (gln x++e);exact⟨fun h=>by rw [hps] at h ⊢;exact⟨h.1,i.h h.2⟩,by rw [bT,bT,i.r],by rw [cK,cK,i.n]⟩
theorem zP{x:Ps}(h:isS x=true):grs x=0/\gln x=[]/\∀ g e,hp g e x:=by
 cases x with
 | lf k n rs=>
  have hk:k=2:=by simpa [isS] using h
  refine⟨by rw [grs],by rw [gln],fun g e=>?_⟩;rw [hp];intro q;omega
 | grp=>cases h
 | rep=>cases h
 | row=>cases h
 | alt=>cases h
theorem aB9(u:lIi)(l:List Ps):∀ (s:Bool) (g:Nat) (e:List Nat),aU8 g e l (bV u s l):=by
 induction l with
 | nil=>intro s g e;rw [bV];exact⟨fun h=>h,rfl,rfl⟩
 | cons x l ih=>
  intro s g e;rw [bV];by_cases hx:isS x=true
  ·obtain⟨h1,h2,h3⟩:=zP hx;rw [if_pos hx]
   cases s with
   | true=>
    rw [if_pos rfl];have i:=ih true g e;exact⟨fun h=>by rw [hps,h1,h2] at h;exact i.h h.2,by rw [bT,h1,i.r];omega,by rw [cK,h2,i.n];simp⟩
   | false=>
    rw [if_neg (by simp)];obtain⟨k1,k2,k3⟩:=zP (x:=.lf 2 0 u) rfl;have i:=ih true g e;exact⟨fun h=>by rw [hps,h1,h2] at h;rw [hps,k1,k2];exact⟨k3 g e,i.h h.2⟩,by rw [bT,bT,h1,k1,i.r],by rw [cK,cK,h2,k2,i.n]⟩
  ·rw [if_neg hx];have i:=ih s (g+grs x) (gln x++e);exact⟨fun h=>by rw [hps] at h ⊢;exact⟨h.1,i.h h.2⟩,by rw [bT,bT,i.r],by rw [cK,cK,i.n]⟩
theorem aF1(un:lIi->lIi)(l:List Ps)(g:Nat)(e:List Nat):aU8 g e l (bG un l):=by
 unfold bG
 split
 ·exact aB9 _ l false g e
 ·exact⟨fun h=>h,rfl,rfl⟩
theorem aA9(g:Nat)(e:List Nat)(l:List Ps):∀ acc:List Ps,hps g e (acc++l)->hps g e (aW acc l)/\bT (aW acc l)=bT (acc++l)/\cK (aW acc l)=cK (acc++l):=by
 induction l with
 | nil=>intro acc h;rw [aW,t9] at *;exact⟨h,rfl,rfl⟩
 | cons x l ih=>
  intro acc h;rw [aW];by_cases hx:x∈acc
  ·rw [if_pos hx];obtain⟨a1,a2,e1⟩:=List.append_of_mem hx;have h1:=(tB _ _ _ _).1 h;have h2:=h1.1;rw [e1] at h2;have h3:=((tB _ _ _ _).1 h2).2;rw [hps] at h3;have h4:=h1.2;rw [hps] at h4;have h0:grs x=0:=by
    apply Classical.byContradiction;intro hne;have:=bM2 x _ _ _ _ h3.1 h4.1 (by omega);rw [e1,qD,bT] at this;omega
   have hn:=aR1 h0;have h5:hps g e (acc++l):=(tB _ _ _ _).2 ⟨h1.1,by have:=h4.2;rw [h0,hn] at this;exact this⟩;obtain⟨i1,i2,i3⟩:=ih acc h5;exact⟨i1,by rw [i2,qD,qD,bT,h0];omega,by rw [i3,vD,vD,cK,hn];simp⟩
  ·rw [if_neg hx];have:=ih (acc++[x]) (by rw [r8];exact h);rw [r8] at this;exact this
variable (un:lIi->lIi)
theorem bI0(x:Ps):∀ (g:Nat) (e:List Nat),hp g e x->hp g e (sim un x)/\grs (sim un x)=grs x/\gln (sim un x)=gln x:=by
 refine Ps.ind (P:=fun x=>∀ (g:Nat) (e:List Nat),hp g e x->hp g e (sim un x)/\grs (sim un x)=grs x/\gln (sim un x)=gln x) (fun x ih g e h=>?_) x;have hrow:∀ l:List Ps,(∀ y∈l,y∈x.kids)->∀ (g:Nat) (e:List Nat),hps g e l->hps g e (cC un l)/\bT (cC un l)=bT l/\cK (cC un l)=cK l:=by
  intro l
  induction l with
  | nil=>intro _ g e h;rw [cC];exact⟨h,rfl,rfl⟩
  | cons y l ih2=>
   intro hs g e h;rw [hps] at h;obtain⟨a1,a2,a3⟩:=ih y (hs y (n9 ..)) g e h.1;obtain⟨b1,b2,b3⟩:=ih2 (fun z hz=>hs z (m9 _ hz)) _ _ h.2;rw [cC,hps,bT,bT,cK,cK,a2,a3,b2,b3];exact⟨⟨a1,b1⟩,rfl,rfl⟩
 have hno:∀ g e,hp g e (.row []):=fun g e=>by rw [hp,hps];trivial
 have h0:grs (.row [])=0:=by rw [grs,bT]
 have hn0:gln (.row [])=[]:=by rw [gln,cK]
 cases x with
 | lf k n rs=>rw [sim];exact⟨h,rfl,rfl⟩
 | grp n y=>
  rw [hp] at h;obtain⟨a1,a2,a3⟩:=ih y (by simp [Ps.kids]) _ _ h.2.2;rw [sim,hp,grs,grs,gln,gln,a2,a3];exact⟨⟨h.1,h.2.1,a1⟩,rfl,rfl⟩
 | rep a b y=>
  rw [hp] at h;obtain⟨a1,a2,a3⟩:=ih y (by simp [Ps.kids]) _ _ h;rw [sim,grs,gln];unfold iL
  split
  ·exact⟨a1,a2,a3⟩
  split
  ·exact⟨a1,a2,a3⟩
  split
  ·rename_i q
   refine⟨hno g e,by rw [h0,<- a2];exact q.2.symm,by rw [hn0,<- a3];exact(aR1 q.2).symm⟩
  split
  ·rename_i q
   have e1:=(oV _).1 q;rw [e1] at a2 a3;exact⟨hno g e,a2,a3⟩
  ·rw [hp,grs,gln];exact⟨a1,a2,a3⟩
 | row l=>
  rw [hp] at h;obtain⟨a1,a2,a3⟩:=hrow l (fun _ h=>h) g e h;rw [sim,grs,gln];unfold jC
  split
  ·obtain⟨m1,m2,m3⟩:=bA4 ((cC un l).filter fun x=>!isE x);have f:=yE (cC un l) g e;exact⟨(m1 g e).2 (f.h a1),by rw [m2,f.r,a2],by rw [m3,f.n,a3]⟩
  ·rw [hp,grs,gln];exact⟨a1,a2,a3⟩
 | alt l=>
  rw [hp] at h;obtain⟨a1,a2,a3⟩:=hrow l (fun _ h=>h) g e h;rw [sim,grs,gln];unfold kO;have j:=aF1 un (cC un l) g e;obtain⟨t1,t2,t3⟩:=aA9 g e (bG un (cC un l)) [] (by rw [aAI];exact j.h a1);rw [aAI] at t2 t3;obtain⟨m1,m2,m3⟩:=bA3 (aW [] (bG un (cC un l)));exact⟨(m1 g e).2 t1,by rw [m2,t2,j.r,a2],by rw [m3,t3,j.n,a3]⟩
theorem bI1{x:Ps}(h:hk 0 [] [] (pfl x)):hk 0 [] [] (pfl (sim un x)):=by
 have h1:=(aQ7 x 0 [] [] []).1 (by rw [t9];exact h);have h2:=bI0 un x 0 [] h1.1;have:=(aQ7 (sim un x) 0 [] [] []).2 ⟨h2.1,by rw [h2.2.1,h2.2.2];exact h1.2⟩;rwa [t9] at this
end
section
theorem uF(a b:List Ps):bU (a++b)=bU a+bU b:=by
 induction a with
 | nil=>rw [gZ];simp
 | cons x a ih=>rw [t4,bH,bH,ih];omega
theorem oC(p:Ps->Bool)(l:List Ps):bU (l.filter p)<=bU l:=by
 induction l with
 | nil=>exact t8 _
 | cons x l ih=>
  rw [aAV]
  split
  ·rw [bH,bH];omega
  ·rw [bH];omega
theorem xE(u:lIi)(l:List Ps):∀ s,bU (bV u s l)<=bU l:=by
 induction l with
 | nil=>intro s;rw [bV];exact t8 _
 | cons x l ih=>
  intro s;have h1:=gG x;rw [bV]
  split
  ·split
   ·have:=ih s;rw [bH];omega
   ·have:=ih true;rw [bH,bH,Ps.sz];omega
  ·have:=ih s;rw [bH,bH];omega
theorem xD(l:List Ps):∀ acc,bU (aW acc l)<=bU acc+bU l:=by
 induction l with
 | nil=>intro acc;rw [aW];omega
 | cons x l ih=>
  intro acc;rw [aW]
  split
  ·have:=ih acc;rw [bH];omega
  ·have:=ih (acc++[x]);rw [uF,bH,gZ] at this;rw [bH];omega
theorem uR(l:List Ps):(mkB l).sz<=bU l+1:=by
 match l with
 | []=>show (Ps.row []).sz<=_;rw [Ps.sz];exact t8 _
 | [x]=>show x.sz<=_;rw [bH];omega
 | x :: y :: r=>show (Ps.row _).sz<=_;rw [Ps.sz];exact t8 _
theorem qC(l:List Ps):(mkP l).sz<=bU l+1:=by
 match l with
 | []=>show (Ps.alt []).sz<=_;rw [Ps.sz];exact t8 _
 | [x]=>show x.sz<=_;rw [bH];omega
 | x :: y :: r=>show (Ps.alt _).sz<=_;rw [Ps.sz];exact t8 _
variable (un:lIi->lIi)
theorem rZ(x:Ps):(sim un x).sz<=x.sz:=by
 refine Ps.ind (P:=fun x=>(sim un x).sz<=x.sz) (fun x ih=>?_) x;have hrow:∀ l:List Ps,(∀ y∈l,y∈x.kids)->bU (cC un l)<=bU l:=by
  intro l
  induction l with
  | nil=>intro _;rw [cC];exact t8 _
  | cons y l ih2=>
   intro hs;have h1:=ih y (hs y (n9 ..));have h2:=ih2 (fun z hz=>hs z (m9 _ hz));rw [cC,bH,bH];omega
 cases x with
 | lf k n rs=>rw [sim];exact t8 _
 | grp n y=>have:=ih y (by simp [Ps.kids]);rw [sim,Ps.sz,Ps.sz];omega
 | rep a b y=>
  have h1:=ih y (by simp [Ps.kids]);have h2:=gG y;have h3:(Ps.row []).sz=1:=by rw [Ps.sz,gZ]
  rw [sim,Ps.sz];unfold iL
  split
  ·omega
  split
  ·omega
  split
  ·omega
  split
  ·omega
  ·rw [Ps.sz];omega
 | row l=>
  have h1:=hrow l (fun _ h=>h);rw [sim,Ps.sz];unfold jC
  split
  ·have h2:=uR ((cC un l).filter fun x=>!isE x);have h3:=oC (fun x=>!isE x) (cC un l);omega
  ·rw [Ps.sz];omega
 | alt l=>
  have h1:=hrow l (fun _ h=>h);rw [sim,Ps.sz];unfold kO;have h2:=qC (aW [] (bG un (cC un l)));have h3:=xD (bG un (cC un l)) [];have h4:bU (bG un (cC un l))<=bU (cC un l):=by
   unfold bG
   split
   ·exact xE _ _ _
   ·exact t8 _
  rw [gZ] at h3;omega
mutual
def nrm:Ps->Prop
 | .lf _ _ _=>True
 | .grp _ x=>nrm x
 | .rep a b x=>¬ (a=1/\b=1)/\¬ (a=0/\b=-1/\kS x=true)/\¬ (b=0/\grs x=0)/\isE x=false/\nrm x
 | .row l=>(∀ x∈l,isE x=false)/\aD9 l
 | .alt l=>(l.filter isS).length<2/\l.Nodup/\aD9 l
def aD9:List Ps->Prop
 | []=>True
 | x :: l=>nrm x/\aD9 l
end
theorem eL(l:List Ps):aD9 l ↔ ∀ x∈l,nrm x:=by
 induction l with
 | nil=>rw [aD9];simp
 | cons x l ih=>rw [aD9,ih];simp
theorem rE{l:List Ps}{c:Ps}(h:l.Nodup)(hc:∀ x∈l,x=c):l.length<=1:=by
 match l,h,hc with
 | [],_,_=>simp
 | [x],_,_=>simp
 | x :: y :: r,h,hc=>
  have h1:=hc x (by simp);have h2:=hc y (by simp);have:=(List.nodup_cons.1 h).1;rw [h1,h2] at this;simp at this
theorem tV(l:List Ps):((aW [] (bG un l)).filter isS).length<2:=by
 have hn:((aW [] (bG un l)).filter isS).Nodup:=(jF _ [] List.nodup_nil).filter _;have hm:∀ x∈(aW [] (bG un l)).filter isS,x∈bG un l/\isS x=true:=fun x hx=>by
  rw [aAF] at hx;exact⟨((cX _ _ _).1 hx.1).resolve_left (fun q=>by cases q),hx.2⟩
 unfold bG at hm hn ⊢
 split
 ·rename_i h2
  rw [if_pos h2] at hm hn;have:=rE hn (c:=.lf 2 0 (un ((l.filter isS).flatMap rsP))) (fun x hx=>by
   rcases fP _ _ _ _ (hm x hx).1 with e | e
   ·exact e
   ·rw [(hm x hx).2] at e;cases e.2)
  omega
 ·rename_i h2
  rw [if_neg h2] at hm hn;by_cases h0:(l.filter isS).length=0
  ·have h0:=List.length_eq_zero_iff.1 h0;have:(aW [] l).filter isS=[]:=by
    rw [List.eq_nil_iff_forall_not_mem];intro x hx;have:=hm x hx;have:x∈l.filter isS:=aAF.2 this;rw [h0] at this;cases this
   rw [this];simp
  ·obtain⟨c,hc⟩:∃ c,l.filter isS=[c]:=List.length_eq_one_iff.1 (by omega);have:=rE hn (c:=c) (fun x hx=>by
    have:x∈l.filter isS:=aAF.2 (hm x hx);rw [hc] at this;exact s9.1 this)
   omega
theorem aZ8{l:List Ps}(h1:∀ x∈l,isE x=false)(h2:∀ x∈l,nrm x):nrm (mkB l):=by
 match l,h1,h2 with
 | [],_,_=>show nrm (.row []);rw [nrm];exact⟨fun _ h=>(by cases h),(eL _).2 (fun _ h=>by cases h)⟩
 | [x],_,h2=>exact h2 x (by simp)
 | x :: y :: r,h1,h2=>show nrm (.row _);rw [nrm];exact⟨h1,(eL _).2 h2⟩
theorem aZ7{l:List Ps}(h0:(l.filter isS).length<2)(h1:l.Nodup)(h2:∀ x∈l,nrm x):nrm (mkP l):=by
 match l,h0,h1,h2 with
 | [],h0,h1,h2=>show nrm (.alt []);rw [nrm];exact⟨h0,h1,(eL _).2 h2⟩
 | [x],_,_,h2=>exact h2 x (by simp)
 | x :: y :: r,h0,h1,h2=>show nrm (.alt _);rw [nrm];exact⟨h0,h1,(eL _).2 h2⟩
theorem oS(x:Ps):nrm (sim un x):=by
 refine Ps.ind (P:=fun x=>nrm (sim un x)) (fun x ih=>?_) x;have hrow:∀ l:List Ps,(∀ y∈l,y∈x.kids)->∀ z∈cC un l,nrm z:=fun l hs z hz=>by
  rw [cY] at hz;obtain⟨y,hy,e⟩:=s4.1 hz;rw [<- e];exact ih y (hs y hy)
 have he:nrm (.row []):=by rw [nrm];exact⟨fun _ h=>(by cases h),(eL _).2 (fun _ h=>by cases h)⟩
 cases x with
 | lf k n rs=>rw [sim,nrm];trivial
 | grp n y=>rw [sim,nrm];exact ih y (by simp [Ps.kids])
 | rep a b y=>
  have hy:=ih y (by simp [Ps.kids]);rw [sim];unfold iL
  split
  ·exact hy
  split
  ·exact hy
  split
  ·exact he
  split
  ·exact he
  ·rename_i h1 h2 h3 h4
   rw [nrm];exact⟨h1,h2,h3,by simpa using h4,hy⟩
 | row l=>
  have hl:=hrow l (fun _ h=>h);rw [sim];unfold jC
  split
  ·exact aZ8 (fun z hz=>by have:=(aAF.1 hz).2;simpa using this) (fun z hz=>hl z (aAF.1 hz).1)
  ·rename_i hany
   rw [nrm];refine⟨fun z hz=>?_,(eL _).2 hl⟩
   cases h:isE z with
   | false=>rfl
   | true=>exact absurd (aAX.2 ⟨z,hz,h⟩) hany
 | alt l=>
  have hl:=hrow l (fun _ h=>h);rw [sim];unfold kO;refine aZ7 (tV un _) (jF _ [] List.nodup_nil) (fun z hz=>?_);rcases kH un (((cX _ _ _).1 hz).resolve_left (fun q=>by cases q)) with⟨u,e⟩ | e
  ·rw [e,nrm];trivial
  ·exact hl z e
theorem pF(l:List Ps):∀ acc,(acc++l).Nodup->aW acc l=acc++l:=by
 induction l with
 | nil=>intro acc _;rw [aW,t9]
 | cons x l ih=>
  intro acc h;rw [aW];have hx:¬ x∈acc:=fun q=>by
   have:=(List.nodup_append.1 h).2.2 x q x (n9 ..);exact this rfl
  rw [if_neg hx,ih (acc++[x]) (by rw [r8];exact h),r8]
  rfl
end
section
theorem oR(l:List Ps)(m:Nat):gK l<=m ↔ ∀ x∈l,x.dp<=m:=by
 induction l with
 | nil=>rw [gK];simp
 | cons x l ih=>
  rw [gK];constructor
  ·intro h y hy;rcases u0.1 hy with e | e
   ·rw [e];omega
   ·exact ih.1 (by omega) y e
  ·intro h;have h1:=h x (n9 ..);have h2:=ih.2 (fun y hy=>h y (m9 _ hy));omega
theorem aS6(x:Ps):1<=x.dp:=by cases x <;> simp [Ps.dp]
theorem bK9{l:List Ps}{m:Nat}(h:∀ x∈l,x.dp<=m):(mkB l).dp<=m+1:=by
 match l,h with
 | [],_=>show (Ps.row []).dp<=_;rw [Ps.dp,gK];omega
 | [x],h=>show x.dp<=_;have:=h x (by simp);omega
 | x :: y :: r,h=>show (Ps.row _).dp<=_;rw [Ps.dp];have:=(oR _ m).2 h;omega
theorem bK8{l:List Ps}{m:Nat}(h:∀ x∈l,x.dp<=m):(mkP l).dp<=m+1:=by
 match l,h with
 | [],_=>show (Ps.alt []).dp<=_;rw [Ps.dp,gK];omega
 | [x],h=>show x.dp<=_;have:=h x (by simp);omega
 | x :: y :: r,h=>show (Ps.alt _).dp<=_;rw [Ps.dp];have:=(oR _ m).2 h;omega
variable (un:lIi->lIi)
theorem bI2(x:Ps):(sim un x).dp<=x.dp:=by
 refine Ps.ind (P:=fun x=>(sim un x).dp<=x.dp) (fun x ih=>?_) x;have hrow:∀ l:List Ps,(∀ y∈l,y∈x.kids)->∀ z∈cC un l,z.dp<=gK l:=fun l hs z hz=>by
  rw [cY] at hz;obtain⟨y,hy,e⟩:=s4.1 hz;rw [<- e];exact o0 (ih y (hs y hy)) ((oR l _).1 lz9 y hy)
 cases x with
 | lf k n rs=>rw [sim];exact t8 _
 | grp n y=>have:=ih y (by simp [Ps.kids]);rw [sim,Ps.dp,Ps.dp];omega
 | rep a b y=>
  have h1:=ih y (by simp [Ps.kids]);have h2:=aS6 y;have h3:(Ps.row []).dp=1:=by rw [Ps.dp,gK]
  rw [sim,Ps.dp];unfold iL
  split
  ·omega
  split
  ·omega
  split
  ·omega
  split
  ·omega
  ·rw [Ps.dp];omega
 | row l=>
  have hl:=hrow l (fun _ h=>h);rw [sim,Ps.dp];unfold jC
  split
  ·exact bK9 (fun z hz=>hl z (aAF.1 hz).1)
  ·rw [Ps.dp];have:=(oR _ _).2 hl;omega
 | alt l=>
  have hl:=hrow l (fun _ h=>h);rw [sim,Ps.dp];unfold kO;refine bK8 (fun z hz=>?_);have hz':=((cX _ _ _).1 hz).resolve_left (fun q=>by cases q);rcases kH un hz' with⟨u,e⟩ | e
  ·rw [e,Ps.dp]
   cases l with
   | nil=>rw [cC] at hz';simp [bG] at hz'
   | cons y l=>have:=aS6 y;rw [gK];omega
  ·exact hl z e
theorem fB(l:List Ps)(s:Sgn):s∈eK l ↔ ∃ x∈l,s∈pfl x:=by
 induction l with
 | nil=>rw [eK];simp
 | cons x l ih=>rw [eK,o3,ih];simp
theorem aN2(l:List Ps)(s:Sgn):s∈eH l->s=.al\/∃ x∈l,s∈pfl x:=by
 induction l with
 | nil=>rw [eH];intro h;cases h
 | cons x l ih=>
  rw [eH];intro h;rcases u0.1 h with e | e
  ·exact .inl e
  ·rcases o3.1 e with q | q
   ·exact .inr ⟨x,n9 ..,q⟩
   ·exact(ih q).imp id (fun⟨y,hy,r⟩=>⟨y,m9 _ hy,r⟩)
theorem mI(l:List Ps)(s:Sgn):s∈lH l->s=.al\/∃ x∈l,s∈pfl x:=by
 cases l with
 | nil=>rw [lH];intro h;cases h
 | cons x l=>
  rw [lH];intro h;rcases o3.1 h with q | q
  ·exact .inr ⟨x,n9 ..,q⟩
  ·exact(aN2 l s q).imp id (fun⟨y,hy,r⟩=>⟨y,m9 _ hy,r⟩)
theorem aZ2{l:List Ps}{x:Ps}(hx:x∈l){s:Sgn}(hs:s∈pfl x):s∈eH l:=by
 induction l with
 | nil=>cases hx
 | cons y l ih=>
  rw [eH];rcases u0.1 hx with e | e
  ·rw [<- e];exact m9 _ (o3.2 (.inl hs))
  ·exact m9 _ (o3.2 (.inr (ih e)))
theorem kE{l:List Ps}{x:Ps}(hx:x∈l){s:Sgn}(hs:s∈pfl x):s∈lH l:=by
 cases l with
 | nil=>cases hx
 | cons y l=>
  rw [lH];rcases u0.1 hx with e | e
  ·rw [<- e];exact o3.2 (.inl hs)
  ·exact o3.2 (.inr (aZ2 e hs))
theorem aK9{P:Sgn->Prop}(hal:P .al)(hset:∀ l:List Ps,(∀ x∈l,isS x=true/\∀ s∈pfl x,P s)->2<=l.length->P (.lf 2 0 (un (l.flatMap rsP))))(x:Ps):(∀ s∈pfl x,P s)->∀ s∈pfl (sim un x),P s:=by
 refine Ps.ind (P:=fun x=>(∀ s∈pfl x,P s)->∀ s∈pfl (sim un x),P s) (fun x ih h=>?_) x;have hno:∀ s∈pfl (.row []),P s:=fun s hs=>by rw [pfl,eK] at hs;cases hs
 cases x with
 | lf k n rs=>rw [sim];exact h
 | grp n y=>
  rw [pfl] at h;have hy:=ih y (by simp [Ps.kids]) (fun s hs=>h s (by simp [hs]));rw [sim,pfl];intro s hs;rcases u0.1 hs with e | e
  ·rw [e];exact h _ (n9 ..)
  ·rcases o3.1 e with q | q
   ·exact hy s q
   ·exact h s (m9 _ (o3.2 (.inr q)))
 | rep a b y=>
  rw [pfl] at h;have hy:=ih y (by simp [Ps.kids]) (fun s hs=>h s (o3.2 (.inl hs)));rw [sim];unfold iL
  split
  ·exact hy
  split
  ·exact hy
  split
  ·exact hno
  split
  ·exact hno
  ·intro s hs;rw [pfl] at hs;rcases o3.1 hs with q | q
   ·exact hy s q
   ·exact h s (o3.2 (.inr q))
 | row l=>
  rw [pfl] at h;have hl:∀ z∈cC un l,∀ s∈pfl z,P s:=fun z hz s hs=>by
   rw [cY] at hz;obtain⟨y,hy,e⟩:=s4.1 hz;rw [<- e] at hs;exact ih y hy (fun s hs=>h s ((fB l s).2 ⟨y,hy,hs⟩)) s hs
  rw [sim];unfold jC
  split
  ·intro s hs;rw [uS,fB] at hs;obtain⟨z,hz,hs⟩:=hs;exact hl z (aAF.1 hz).1 s hs
  ·intro s hs;rw [pfl,fB] at hs;obtain⟨z,hz,hs⟩:=hs;exact hl z hz s hs
 | alt l=>
  rw [pfl] at h;have hl:∀ z∈cC un l,∀ s∈pfl z,P s:=fun z hz s hs=>by
   rw [cY] at hz;obtain⟨y,hy,e⟩:=s4.1 hz;rw [<- e] at hs;exact ih y hy (fun s hs=>h s (kE hy hs)) s hs
  have hj:∀ z∈bG un (cC un l),∀ s∈pfl z,P s:=fun z hz s hs=>by
   unfold bG at hz
   split at hz
   ·rename_i h2
    rcases fP _ _ _ _ hz with e | e
    ·rw [e,pfl] at hs;rw [s9.1 hs];exact hset _ (fun x hx=>⟨(aAF.1 hx).2,hl x (aAF.1 hx).1⟩) h2
    ·exact hl z e.1 s hs
   ·exact hl z hz s hs
  rw [sim];unfold kO;intro s hs;have hm:s=.al\/∃ z∈aW [] (bG un (cC un l)),s∈pfl z:=by
   generalize aW [] (bG un (cC un l))=m at hs
   match m,hs with
   | [],hs=>exact mI [] s (by rw [<- pfl];exact hs)
   | [x],hs=>exact .inr ⟨x,by simp,hs⟩
   | x :: y :: r,hs=>exact mI (x :: y :: r) s (by rw [<- pfl];exact hs)
  rcases hm with e | ⟨z,hz,hs⟩
  ·rw [e];exact hal
  ·exact hj z (((cX _ _ _).1 hz).resolve_left (fun q=>by cases q)) s hs
end
section
open Go
structure Md where
 c:Bool
 f:Bool
def un(m:Md)(s:ByteArray)(p:Nat):Int×Nat:=if m.c then (ch s p,wd s p) else ((bt s p:Int),1)
end
end Go.Proofs.YtlamifbjklpdbaaGreat
