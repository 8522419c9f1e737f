/-
  Parts of the proof.
-/
import Derived.Test.YtdgfpiekjigfnaaGreatDoorLiteralProofA0
import Derived.Test.YtdgfpiekjigfnaaGreatDoorLiteralProofA1
import Derived.Test.YtdgfpiekjigfnaaGreatDoorLiteralProofB28
import Derived.Test.YtdgfpiekjigfnaaGreatDoorLiteralProofB27
import Derived.Test.YtdgfpiekjigfnaaGreatDoorLiteralProofB26
import Derived.Test.YtdgfpiekjigfnaaGreatDoorLiteralProofB15
import Derived.Test.YtdgfpiekjigfnaaGreatDoorLiteralProofB25
import Derived.Test.YtdgfpiekjigfnaaGreatDoorLiteralProofB12
import Derived.Test.YtdgfpiekjigfnaaGreatDoorLiteralProofB13
import Derived.Laws.AppendOwnNone
set_option maxRecDepth 100000
set_option maxHeartbeats 8000000
namespace Go.Proofs.YtdgfpiekjigfnaaGreatDoor
open Go Go.RowKit
section
attribute [local go_sem] Oper.semAt_some
variable {H:Gh} {V V':World} {rs rs' rs'':lOn} {wk wk':Int} {mu mu' mu'':Bool} {x:Cf}
structure bE9(H:Gh)(w:World)(rs:lOn)(wk:Int)(kq:Option Addr)(kc i:Nat)(ks:List Tr)(R:Cf->Prop)(oq:Option Addr)(oc:Nat)(out:List Cf)(rs':lOn)(wk':Int)(mu':Bool)(V:World):Prop where
 es:ES H w rs wk false V rs' wk' mu'
 kl:Ls12 w.heap.size V kq kc (hU i ks)
 cr:CR12 w.heap.size V oq oc out
 n:out.length<=20001
 s:∀ y∈out,R y
 c:mu'=false->∀ y,R y->y∈out
theorem bL4{w w6:World}{kq oq q6:Option Addr}{kc i oc c6:Nat}{ks:List Tr}{R R':Cf->Prop}{out l6:List Cf}{rs5 rs6:lOn}{wk5 wk6:Int}{mu5 mu6:Bool}{W:World}{T:Cf->Cf->Prop}(h:bE9 H w rs wk kq kc i ks R oq oc out rs5 wk5 mu5 W)
  (h1:CR12 W.heap.size w6 q6 c6 l6) (h2:l6.length<=20001) (h3:∀ y∈l6,∃ v∈out,T v y/\fuP false v.p y.p) (h4:mu6=false->∀ y,(∃ v∈out,T v y/\fuP false v.p y.p)->y∈l6) (h5:ES H W rs5 wk5 mu5 w6 rs6 wk6 mu6) (hR:∀ y,R' y ↔ ∃ v,R v/\T v y):bE9 H w rs wk kq kc i ks R' q6 c6 l6 rs6 wk6 mu6 w6:=by
 refine⟨h.es.then h5.wm h5.g h5.f (fun _ e=>e.elim) h5.mo h5.wkm,h.kl.wf h.es.wm h5.f (fun _ e=>e.elim),bE h1 h.es.f.size,h2,fun y hy=>?_,fun e y hy=>?_⟩
 ·obtain⟨v,hv,hh⟩:=h3 y hy;exact(hR y).2 ⟨v,h.s v hv,hh.1⟩
 ·obtain⟨v,hv,ht⟩:=(hR y).1 hy;have hmu:mu5=false:=by
   cases h2:mu5 with
   | false=>rfl
   | true=>have:=h5.mo h2;rw [e] at this;cases this
  exact h4 e y ⟨v,h.c hmu v hv,ht,fun e=>by cases e⟩
theorem bB9{n:Nat}(hE:EnC H n)(hk:Gk H){w:World}(hw:WM H w rs wk false){i:Nat}{z:Zl}(hz:H.Z[i]?=some z)(hn:z.1.2.sz<=n+1)(hx:Vf H.L x)(hpl:¬ PlT H.L z.1.2)(hkd:z.1.2.f.k=5) :
  Calls Tryz.prog 35 #[.pointer (some ⟨H.b,0,none⟩),.I (i:Int),.agg (cfA x)] w (EnP H w rs wk false w.heap.size (Mt H.L z.1.2 x)):=by
 have HKD:=aC hkd;have HEC:=aC hE;have HSZ:=aC hn;have HK:=aC hk;have B0:Hid (wBl w (w.alloc (.cells (cfA x) 87))):=bz9;have X0:Hid (BoxC (w.alloc (.cells (cfA x) 87)) w.heap.size x):=aE w _;have W0:=aC (hw.below B0.o);have hil:=(m8.1 hz).1;have iil:(i:Int)<(H.Z.length:Int):=by omega
 have hlen:=hk.len;have hsm:=hk.sm;have HZ:=aC hz;have HX:=aC hx;have HNP:=aC (((aQ z.1.2).1 (hk.npz hz)).1);have HPB:Hid (plB H.L z.1.2=false):=aC (by unfold plB;simpa using hpl);have HBS:Hid (H.base<=w.heap.size):=aC (aBE (aBW hw.bb hw.b_lt));have hk2:z.1.2.ks.length<=2000:=by
  have h1:=cO z.1.2.ks;have h2:=fE z.1.2;obtain⟨r,hr⟩:=seg H.t [] i z.1 (hk.at hz);have h5:=congrArg List.length hr;rw [o8,cQ,aAS] at h5;have h4:=congrArg List.length hk.mp;rw [aAG] at h4;omega
 clear hw hk hz hx hpl hE hn hkd;go_enter Tryz.func35,Tryz.ntmps35;go_upto_region 1 with fail
 generalize (w.alloc (.cells (cfA x) 87))=w1 at B0 X0 W0 ⊢;have E1:Hid (ES H w rs wk false w1 rs wk false):=⟨W0.o,Grw.refl _ _,Fr.of_below B0.o,fun e=>(by cases e),fun _=>aAK _⟩;have c0:=W0.o.cell (i:=0) rfl;have c14:=W0.o.cell (i:=14) rfl;have c17:=W0.o.cell (i:=17) (v:=.bool false) rfl;have y0:=W0.o.z.cells HZ.o (j:=0) (v:=.I z.1.2.f.k) rfl;have y1:=W0.o.z.cells HZ.o (j:=1) (v:=.I z.1.2.f.n) rfl;have y2:=W0.o.z.cells HZ.o (j:=2) (v:=.I z.1.2.f.mn) rfl;have y3:=W0.o.z.cells HZ.o (j:=3) (v:=.I z.1.2.f.mx) rfl;have y4:=W0.o.z.cells HZ.o (j:=4) (v:=.slice z.1.2.f.rq z.1.2.f.rs.length z.1.2.f.rc) rfl;have y5:=W0.o.z.cells HZ.o (j:=5) (v:=.slice z.1.2.f.kq z.1.2.f.kl z.1.2.f.kc) rfl;rw [aAR] at y0;go_upto_region 5 with fail
 have B2:Hid (wBl w1 (w1.alloc (.cells (nDf z.1.2.f) 25))):=bz9;have N2:Hid (BoxN (w1.alloc (.cells (nDf z.1.2.f) 25)) w1.heap.size z.1.2.f):=aE w1 _;have E2:=aC (E1.o.below B2.o);have X2:=aC (X0.o.kept B2.o);have HNB:Hid (w.heap.size<w1.heap.size):=aC X0.o.lt;generalize (w1.alloc (.cells (nDf z.1.2.f) 25))=w2 at B2 E2 X2 N2 ⊢;clear B2;generalize w1.heap.size=nb at N2 HNB ⊢;have d14:=E2.o.wm.cell (i:=14) rfl;have p0:w2.cell? ⟨H.pb,i,none⟩=some (.bool false):=by
  have:=aM E2.o.wm.pl (j:=i) (u:=.bool (plB H.L z.1.2)) (by simp [HZ.o]);rw [this,HPB.o]
 clear c0 c14 c17 y0 y1 y2 y3 y4 y5 E1 X0 W0;obtain⟨n0,n1,n2,n3,n4,n5⟩:=N2.o.six;simp only [n7] at n1 n2 n3 n4 n5;have e5:(z.1.2.f.k==5)=true:=by rw [HKD.o];rfl
 have HMT:Hid (∀ y,Mt H.L z.1.2 x y↔MtC H.L z.1.2.ks x y):=fun y=>by rw [eG,if_pos HKD.o]
 go_upto_region 17 with fail
 obtain⟨t0,hi,hz0,hz1,hz2⟩:=aW pP;have RX:=aC X2.o.get;have Y7:Hid ((w2.alloc (.cells (cfA x) 87)).ownsRow (w.heap.size+1) 87 21 (.slice none 0 0) 0 []):=aBH _ _ _ _;have HNEW:Hid (∀ j u,(cfC x)[j]?=some u->(w2.alloc (.cells (cfA x) 87)).cell? (((aDr w2.heap.size 0):Addr).add j)=some u):=bJ w2 (cfC x) _;have HB8:Hid (w.heap.size+1<=(w2.alloc (.cells (cfA x) 87)).heap.size):=aC (m9 (Nat.succ_le_of_lt X2.o.lt) (by simp));go_upto_region 18 with first
  |((with_reducible refine gR ?_);refine bU rfl _ rfl w.heap.size 0 rfl x RX.o ?_)
  |((with_reducible refine xD ?_);refine kB rfl _ rfl x rfl ?_)
  |(at_builtin;refine wpList_append_own_at _ rfl _ _ 81 rfl (w.heap.size+1) 87 t0 xG 21 168 pN hi hz0 hz1 hz2 mX (by decide) (.slice none 0 0) 0 [] rfl Y7.o (aDr w2.heap.size 0) 1 1 (cfC x) rfl (dD x) HNEW.o (rD x) (by unfold maxLen;omega) (by omega) HB8.o ?_;intro v' w3 hown' hgrow _ hmv;obtain⟨q3,c3,rfl⟩:=aR hown';have O3:=aC hown';have G3:=aC hgrow;clear hown' hgrow hmv)
 have B3:Hid (wBl w2 w3):=((Below.refl w2.heap.size w2).alloc lz9 (.cells (cfA x) 87)).trans (((Fr.refl (fun _=>False) _).grown G3.o (fun k e=>by cases e)).below (by simp) (fun _ e=>e.elim));have C3:Hid (CR12 w.heap.size w3 q3 c3 [x]):=bE (by simpa using O3.o) (Nat.le_succ _);have E3:=aC (E2.o.below B3.o);have KC:=aC (lK HK.o E3.o.wm HZ.o);clear n0 n1 n2 n3 n4 n5 d14 p0 Y7 HNEW HB8 O3 G3 RX;go_upto_region 20 with (go_at_call 72;(with_reducible refine(KC.o).mono ?_);rintro e w4 ⟨kq,kc,rfl,h41,h42⟩;have K4:=aC h41;have B4:=aC h42;clear h41 h42)
 have hkl:(hU i z.1.2.ks).length=z.1.2.ks.length:=eA i z.1.2.ks;have I4:Hid (bE9 H w rs wk kq kc i z.1.2.ks (fun y=>MtC H.L (z.1.2.ks.take 0) x y) q3 c3 [x] rs wk false w4):=⟨E3.o.below B4.o,K4.o.mono E3.o.f.size,C3.o.kept B4.o,by simp,fun y hy=>by rw [aAA,dL];exact v9.1 hy,fun _ y hy=>by rw [aAA,dL] at hy;rw [hy];simp⟩;rw [hkl];clear hkl E3 K4 B4 C3 B3;go_loopw [7,13] (fun ov jv wr=>∃ (j:Nat) (oq:Option Addr) (oc:Nat) (out:List Cf) (rs':lOn) (wk':Int) (mu':Bool),j<=z.1.2.ks.length/\ov=.slice oq out.length oc/\jv=.I (j:Int)/\bE9 H w rs wk kq kc i z.1.2.ks (fun y=>MtC H.L (z.1.2.ks.take j) x y) oq oc out rs' wk' mu' wr) (fun _ jv _=>z.1.2.ks.length-(intOf jv).toNat)
 case atStart=>exact⟨0,q3,c3,[x],rs,wk,false,r9 _,rfl,rfl,I4.o⟩
 case round=>
  obtain⟨j,oq,oc,out,rs5,wk5,mu5,hj,rfl,rfl,h5⟩:=hrel;have I5:=aC h5;clear h5 I4;by_cases hjl:j<z.1.2.ks.length
  ·have i0:(j:Int)<(z.1.2.ks.length:Int):=by omega
   have hw2:IntKind.wrap .i64 ((j:Int)+1)=(j:Int)+1:=wrap_small _ (by omega) (by omega);obtain⟨u,hu⟩:∃ u,z.1.2.ks[j]?=some u:=⟨_,m7 hjl⟩;obtain⟨y,q1,q2,q3'⟩:=HK.o.kid HZ.o hu;have HSN:Hid (∀ v,MtC H.L (z.1.2.ks.take (j+1)) x v ↔ ∃ v',MtC H.L (z.1.2.ks.take j) x v'/\Mt H.L y.1.2 v' v):=fun v=>by rw [q2,t9,hu,aAZ,yU]
   have hval:∀ v∈out,Vf H.L v:=fun v hv=>by
    have key:∀ (ks:List Tr) (a b:Cf),MtC H.L ks a b->Vf H.L a->Vf H.L b:=by
     intro ks
     induction ks with
     | nil=>intro a b h ha;rw [dL] at h;rw [h];exact ha
     | cons t ts ih=>
      intro a b h ha;obtain⟨c,h1,h2⟩:=(dP _ _ _ _).1 h;exact ih c b h2 (dG t a c h1 ha).1
    exact key _ _ _ (I5.o.s v hv) HX.o
   obtain⟨gk,rfl,gk1,gk2,gk3⟩:=I5.o.kl.at (by rw [eA];omega);have x0:=I5.o.kl.cell (jM (i:=i) hjl);have EA:=aC (zN HEC.o I5.o.es.wm q1 (by rw [q2];have:=cH (n8 hu);have:=HSZ.o;omega) (c:=oc) I5.o.cr.arg hval I5.o.n false);have hkpl:i+1+szs (z.1.2.ks.take j)<2000:=(by have:=(m8.1 q1).1;omega);generalize i+1+szs (z.1.2.ks.take j)=kp at x0 EA hkpl;clear q1 q2 q3' hu hval;go_upto_region 21 with (go_at_call 73;(with_reducible refine(EA.o).mono ?_);rintro e w6 ⟨q6,c6,l6,rs6,wk6,mu6,rfl,h61,h62,h63,h64,h65⟩;have I6:Hid (bE9 H w rs wk (some (aDr gk 0)) kc i z.1.2.ks (fun y=>MtC H.L (z.1.2.ks.take (j+1)) x y) q6 c6 l6 rs6 wk6 mu6 w6):=(bL4 I5.o h61 h62 h63 h64 h65 HSN.o);clear h61 h62 h63 h64 h65)
   go_wp2;go_roundw
   case rel=>exact⟨j+1,q6,c6,l6,rs6,wk6,mu6,by omega,rfl,by go_num,I6.o⟩
   case measure=>simp only [intOf];omega
  ·have i0:¬ (j:Int)<(z.1.2.ks.length:Int):=by omega
   have HT:Hid (z.1.2.ks.take j=z.1.2.ks):=aC (n9 (by omega));go_wp2;go_ret;refine⟨oq,oc,out,rs5,wk5,mu5,rfl,I5.o.cr,I5.o.n,fun y hy=>?_,fun e y hy=>?_,I5.o.es⟩
   ·have:=I5.o.s y hy;rw [HT.o] at this;exact(HMT.o y).2 this
   ·refine I5.o.c e y ?_;rw [HT.o];exact(HMT.o y).1 hy
end
section
attribute [local go_sem] Oper.semAt_some
variable {H:Gh} {V V':World} {rs rs' rs'':lOn} {wk wk':Int} {mu mu' mu'':Bool} {x:Cf}
theorem bB7{n:Nat}(hE:EnC H n)(hk:Gk H){w:World}(hw:WM H w rs wk false){i:Nat}{z:Zl}(hz:H.Z[i]?=some z)(hn:z.1.2.sz<=n+1)(hx:Vf H.L x)(hpl:¬ PlT H.L z.1.2)(hkd:z.1.2.f.k=9) :
  Calls Tryz.prog 35 #[.pointer (some ⟨H.b,0,none⟩),.I (i:Int),.agg (cfA x)] w (EnP H w rs wk false w.heap.size (Mt H.L z.1.2 x)):=by
 have HKD:=aC hkd;have HEC:=aC hE;have HSZ:=aC hn;have HK:=aC hk;have B0:Hid (wBl w (w.alloc (.cells (cfA x) 87))):=bz9;have X0:Hid (BoxC (w.alloc (.cells (cfA x) 87)) w.heap.size x):=aE w _;have W0:=aC (hw.below B0.o);have hil:=(m8.1 hz).1;have iil:(i:Int)<(H.Z.length:Int):=by omega
 have hlen:=hk.len;have hsm:=hk.sm;have HZ:=aC hz;have HX:=aC hx;have HNP:=aC (((aQ z.1.2).1 (hk.npz hz)).1);have HPB:Hid (plB H.L z.1.2=false):=aC (by unfold plB;simpa using hpl);have HBS:Hid (H.base<=w.heap.size):=aC (aBE (aBW hw.bb hw.b_lt));have hk2:z.1.2.ks.length<=2000:=by
  have h1:=cO z.1.2.ks;have h2:=fE z.1.2;obtain⟨r,hr⟩:=seg H.t [] i z.1 (hk.at hz);have h5:=congrArg List.length hr;rw [o8,cQ,aAS] at h5;have h4:=congrArg List.length hk.mp;rw [aAG] at h4;omega
 clear hw hk hz hx hpl hE hn hkd;go_enter Tryz.func35,Tryz.ntmps35;go_upto_region 1 with fail
 generalize (w.alloc (.cells (cfA x) 87))=w1 at B0 X0 W0 ⊢;have E1:Hid (ES H w rs wk false w1 rs wk false):=⟨W0.o,Grw.refl _ _,Fr.of_below B0.o,fun e=>(by cases e),fun _=>aAK _⟩;have c0:=W0.o.cell (i:=0) rfl;have c14:=W0.o.cell (i:=14) rfl;have c17:=W0.o.cell (i:=17) (v:=.bool false) rfl;have y0:=W0.o.z.cells HZ.o (j:=0) (v:=.I z.1.2.f.k) rfl;have y1:=W0.o.z.cells HZ.o (j:=1) (v:=.I z.1.2.f.n) rfl;have y2:=W0.o.z.cells HZ.o (j:=2) (v:=.I z.1.2.f.mn) rfl;have y3:=W0.o.z.cells HZ.o (j:=3) (v:=.I z.1.2.f.mx) rfl;have y4:=W0.o.z.cells HZ.o (j:=4) (v:=.slice z.1.2.f.rq z.1.2.f.rs.length z.1.2.f.rc) rfl;have y5:=W0.o.z.cells HZ.o (j:=5) (v:=.slice z.1.2.f.kq z.1.2.f.kl z.1.2.f.kc) rfl;rw [aAR] at y0;go_upto_region 5 with fail
 have B2:Hid (wBl w1 (w1.alloc (.cells (nDf z.1.2.f) 25))):=bz9;have N2:Hid (BoxN (w1.alloc (.cells (nDf z.1.2.f) 25)) w1.heap.size z.1.2.f):=aE w1 _;have E2:=aC (E1.o.below B2.o);have X2:=aC (X0.o.kept B2.o);have HNB:Hid (w.heap.size<w1.heap.size):=aC X0.o.lt;generalize (w1.alloc (.cells (nDf z.1.2.f) 25))=w2 at B2 E2 X2 N2 ⊢;clear B2;generalize w1.heap.size=nb at N2 HNB ⊢;have d14:=E2.o.wm.cell (i:=14) rfl;have p0:w2.cell? ⟨H.pb,i,none⟩=some (.bool false):=by
  have:=aM E2.o.wm.pl (j:=i) (u:=.bool (plB H.L z.1.2)) (by simp [HZ.o]);rw [this,HPB.o]
 clear c0 c14 c17 y0 y1 y2 y3 y4 y5 E1 X0 W0;obtain⟨n0,n1,n2,n3,n4,n5⟩:=N2.o.six;simp only [n7] at n1 n2 n3 n4 n5;have e5:(z.1.2.f.k==5)=false:=by rw [HKD.o];rfl
 have e6:(z.1.2.f.k==6)=false:=by rw [HKD.o];rfl
 have e7:(z.1.2.f.k==7)=false:=by rw [HKD.o];rfl
 have e8:(z.1.2.f.k==8)=false:=by rw [HKD.o];rfl
 have RX:=aC X2.o.get;have TU:=aC (aN3 HEC.o HK.o E2.o.wm HZ.o HSZ.o HX.o HKD.o);go_wp2_with first
  |((with_reducible refine gR ?_);refine bU rfl _ rfl w.heap.size 0 rfl x RX.o ?_)
  |(go_at_call 75;(with_reducible refine(TU.o).mono ?_);rintro e w6 ⟨q6,c6,l6,rs6,wk6,mu6,rfl,h61,h62,h63,h64,h65⟩;have I6:Hid (EnP H w rs wk false w.heap.size (Mt H.L z.1.2 x) (.returned (.slice q6 l6.length c6)) w6):=aC ⟨q6,c6,l6,rs6,wk6,mu6,rfl,bE h61 E2.o.f.size,h62,h63,h64,E2.o.then h65.wm h65.g h65.f (fun _ e=>e.elim) h65.mo h65.wkm⟩;clear h61 h62 h63 h64 h65)
 go_ret;exact I6.o
theorem zL(hk:Gk H):∀ n,EnC H n
 | 0=>fun i x z W rs wk mu _ hn=>absurd (dS z.1.2) (by omega)
 | n+1=>fun i x z W rs wk mu hz hn hx hw=>by
  cases mu with
  | true=>exact aR9 hw i _
  | false=>
   by_cases hpl:PlT H.L z.1.2
   ·exact aF6 hk hw hz hx hpl
   ·have hE:=zL hk n;have hnp:=((aQ z.1.2).1 (hk.npz hz)).1;have leaf:z.1.2.ks=[]->z.1.2.f.k≠8->z.1.2.f.k≠7->False:=fun h0 h8 h7=>hpl ((aQ z.1.2).2 ⟨⟨h8,fun e=>absurd e h7⟩,(cJ _).2 fun u hu=>by rw [h0] at hu;cases hu⟩);rcases rB hnp with k | k | k | k | k | k | k | k | k
    ·exact(leaf (mH hnp (.inl k)) (by omega) (by omega)).elim
    ·exact(leaf (mH hnp (.inr (.inl k))) (by omega) (by omega)).elim
    ·exact(leaf (mH hnp (.inr (.inr (.inl k)))) (by omega) (by omega)).elim
    ·exact(leaf (mH hnp (.inr (.inr (.inr (.inl k))))) (by omega) (by omega)).elim
    ·exact bB9 hE hk hw hz hn hx hpl k
    ·exact bC0 hE hk hw hz hn hx hpl k
    ·exact bB8 hE hk hw hz hn hx hpl k
    ·exact aS0 hE hk hw hz hn hx hpl k
    ·exact bB7 hE hk hw hz hn hx hpl k
end
section
attribute [local go_sem] Oper.semAt_some
variable {H:Gh} {V V':World} {rs rs' rs'':lOn} {wk wk':Int} {mu mu' mu'':Bool}
theorem BoxC.putG{b:Nat}{x:Cf}(h:BoxC V b x)(h10:x.g.length=10){n:Nat}(hn:n<10)(A B:Int):BoxC ((V.setCell ⟨b,1+n*2,none⟩ (.I A)).setCell ⟨b,1+n*2+1,none⟩ (.I B)) b ⟨x.p,x.g.set n (A,B)⟩:=by
 have:=aN (aN h (1+n*2) (.I A)) (1+n*2+1) (.I B);unfold BoxC;rw [this];unfold cfA;rw [g4,g4,<- bD4 x.p x.g h10 hn A B]
def cfQ(a k:Nat):Cf:=⟨a,List.replicate k (-1,-1)++List.replicate (10-k) (0,0)⟩
theorem bD7{a k:Nat}(h:k<10):(⟨(cfQ a k).p,(cfQ a k).g.set k (-1,-1)⟩:Cf)=cfQ a (k+1):=by
 rcases k with _ | _ | _ | _ | _ | _ | _ | _ | _ | _ | k
 all_goals first | rfl | omega
theorem bM1(a:Nat):cfQ a 10=cf0 a:=rfl
theorem bM0{a k:Nat}(h:k<=10):(cfQ a k).g.length=10:=by simp [cfQ];omega
theorem bR2{R:Ending->World->Prop}{a:Act}{W:World}{b:Nat}{x:Cf}(h:BoxC W b x)(ha:a.tmps[2]?.getD undef=.pointer (some (aDr b 0)))(hd:a.defers=[])(hR:R (.returned (.agg (cfA x))) W):bodyPost Tryz.prog Tryz.f36 R .ret a W:=by
 refine bodyPost_ret (v:=.agg (cfA x)) ?_ hd hR;have hl:=run_loadVar_mid (P:=Tryz.prog) W b 0 87 (cfC x) _ h.get rR rfl (by rw [nY,dD]);have hg:a.tmps.getD 2 undef=.pointer (some (aDr b 0)):=by rw [aBN];exact ha
 simp only [results,Tryz.results36,List.mapM_toArray,List.mapM_cons,List.mapM_nil,bind_assoc,pure_bind,map_eq_pure_bind,hg,asAddr,Sem.run_bind,Sem.run_pure,hl,Result.andThen_ok]
 rfl
theorem aS1(a:Nat)(w:World):Calls Tryz.prog 36 #[.I (a:Int)] w fun e w'=>e=.returned (.agg (cfA (cf0 a)))/\wBl w w':=by
 have B0:Hid (wBl w (w.alloc (.cells #[.I 0,.I 0,.I 0,.I 0,.I 0,.I 0,.I 0,.I 0,.I 0,.I 0,.I 0,.I 0,.I 0,.I 0,.I 0,.I 0,.I 0,.I 0,.I 0,.I 0,.I 0] 87))):=bz9;have Z0:Hid ((w.alloc (.cells #[.I 0,.I 0,.I 0,.I 0,.I 0,.I 0,.I 0,.I 0,.I 0,.I 0,.I 0,.I 0,.I 0,.I 0,.I 0,.I 0,.I 0,.I 0,.I 0,.I 0,.I 0] 87)).heap[w.heap.size]?=some (.cells #[.I 0,.I 0,.I 0,.I 0,.I 0,.I 0,.I 0,.I 0,.I 0,.I 0,.I 0,.I 0,.I 0,.I 0,.I 0,.I 0,.I 0,.I 0,.I 0,.I 0,.I 0] 87 (0,0))):=aC (aE w _);go_enter Tryz.func36,Tryz.ntmps36;go_upto_region 1 with fail
 generalize (w.alloc (.cells #[.I 0,.I 0,.I 0,.I 0,.I 0,.I 0,.I 0,.I 0,.I 0,.I 0,.I 0,.I 0,.I 0,.I 0,.I 0,.I 0,.I 0,.I 0,.I 0,.I 0,.I 0] 87))=w1 at B0 Z0 ⊢;obtain⟨b0,hb0⟩:∃ b0,w.heap.size=b0:=⟨_,rfl⟩;rw [hb0] at Z0 ⊢;have hb1:=aB Z0.o;go_upto_region 2 with ((with_reducible refine aG1 ?_);refine nB rfl _ _ rfl w1.heap.size (cfQ a 0) rfl rfl (aE _ _) rfl ?_;intro w2 hb2 hf2;have X2:=aC hb2;have B2:Hid (wBl w1 w2):=bB ((Below.refl _ w1).alloc lz9 _) hf2 lz9 (fun k e=>by omega);clear hb2 hf2)
 have Z2:=aC ((B2.o.block _ hb1).trans Z0.o);have BW2:=aC (aJ B0.o B2.o lz9);have hwb:w.heap.size<=w1.heap.size:=B0.o.size;clear B0 B2 Z0;generalize w1.heap.size=b at X2 hwb hb1 ⊢;go_upto_region 3 with fail
 go_loopw [4] (fun iv wr=>∃ i:Nat,i<=10/\iv=.I (i:Int)/\BoxC wr b (cfQ a i)/\wr.heap[b0]?=some (.cells #[.I 0,.I 0,.I 0,.I 0,.I 0,.I 0,.I 0,.I 0,.I 0,.I 0,.I 0,.I 0,.I 0,.I 0,.I 0,.I 0,.I 0,.I 0,.I 0,.I 0,.I 0] 87 (0,0))/\wBl w wr) (fun iv _=>10-(intOf iv).toNat)
 case atStart=>exact⟨0,by omega,rfl,X2.o,Z2.o,BW2.o⟩
 case round=>
  obtain⟨i,hi,rfl,hx,hz,hb⟩:=hrel;have X3:=aC hx;have Z3:=aC hz;have B3:=aC hb;clear hx hz hb X2 Z2 BW2;by_cases hil:i<10
  ·have i0:(i:Int)<10:=by omega
   have i1:(0:Int)<=(i:Int):=by omega
   have hw2:IntKind.wrap .i64 ((i:Int)+1)=(i:Int)+1:=wrap_small _ (by omega) (by omega);have X4:=aC (X3.o.putG (bM0 (by omega)) hil (-1) (-1));rw [bD7 hil] at X4;have fz:=fun j=>X3.o.frz j;have g0:∃ v0,wr.cell? ⟨b,1+i*2,none⟩=some v0:=⟨_,aA X3.o (by unfold cfA;rw [List.getElem?_toArray,m7 (by rw [dD];omega)])⟩;have g1:∃ v1,wr.cell? ⟨b,1+i*2+1,none⟩=some v1:=⟨_,aA X3.o (by unfold cfA;rw [List.getElem?_toArray,m7 (by rw [dD];omega)])⟩;obtain⟨v0,g0⟩:=g0;obtain⟨v1,g1⟩:=g1;go_wp2;go_roundw
   case rel=>exact⟨i+1,by omega,by go_num,X4.o,(Below.heap_setCell _ _ _ _ (by simp;omega)).trans ((Below.heap_setCell _ _ _ _ (by simp;omega)).trans Z3.o),B3.o.trans (((Fr.refl (fun k=>k=b) wr).setCell (p:=⟨b,1+i*2,none⟩) rfl _ |>.setCell (p:=⟨b,1+i*2+1,none⟩) rfl _).below B3.o.size (fun k e=>by omega))⟩
   case measure=>simp only [intOf];omega
  ·have i0:¬ (i:Int)<10:=by omega
   obtain rfl:i=10:=by omega
   rw [bM1] at X3;have RX:=aC X3.o.get;go_wp2_with first
    |((with_reducible refine gR ?_);refine bU rfl _ rfl b 0 rfl (cf0 a) RX.o ?_)
    |((with_reducible refine aG1 ?_);refine nB rfl _ _ rfl b0 (cf0 a) rfl rfl Z3.o rfl ?_;intro w5 hb5 hf5;have X5:=aC hb5;have B5:=aC (B3.o.trans (hf5.below B3.o.size (fun k e=>by omega)));clear hb5 hf5)
   refine bR2 X5.o rfl rfl ⟨rfl,?_⟩
   first | exact B5.o |(rw [<- hb0];exact B5.o)
def EdP(H:Gh)(W:World)(rs:lOn)(wk:Int)(mu:Bool)(a:Nat)(e:Ending)(W':World):Prop:=∃ (q:Option Addr) (c:Nat) (l:List Nat) (rs':lOn) (wk':Int) (mu':Bool),
 e=.returned (.slice q l.length c)/\Ls12 W.heap.size W' q c l/\l.Pairwise (· < ·)/\(∀ j∈l,∃ y,Mt H.L H.t (cf0 a) y/\y.p=j)/\(mu'=false->∀ y,Mt H.L H.t (cf0 a) y->y.p∈l)/\ES H W rs wk mu W' rs' wk' mu'
theorem bE8(hk:Gk H){w:World}(hw:WM H w rs wk mu){a:Nat}(ha:a<=H.L.s.size) :
  Calls Tryz.prog 15 #[.pointer (some ⟨H.b,0,none⟩),.I (a:Int)] w (EdP H w rs wk mu a):=by
 obtain⟨z,hz,hzt⟩:=hk.get (i:=0) (x:=([],H.t)) (by rw [cL];rfl);have hzt2:z.1.2=H.t:=by rw [hzt]
 have HMV:Hid (∀ y,Mt H.L H.t (cf0 a) y->y.p<=H.L.s.size):=fun y h=>(dG H.t (cf0 a) y h (mO ha)).1.p;have EM:=aC (aS1 a w);have EN:Hid (∀ W,WM H W rs wk mu->Calls Tryz.prog 35 #[.pointer (some ⟨H.b,0,none⟩),.I 0,.agg (cfA (cf0 a))] W (EnP H W rs wk mu W.heap.size (Mt H.L H.t (cf0 a)))):=fun W hW=>by
  have:=zL hk z.1.2.sz 0 (cf0 a) z W rs wk mu hz lz9 (mO ha) hW;rw [hzt2] at this;exact this
 have HW:=aC hw;have hsm:=hk.sm;obtain⟨N,hN⟩:∃ N,H.L.s.size+1=N:=⟨_,rfl⟩;have hwN:IntKind.wrap .i64 ((H.L.s.size:Int)+1)=(N:Int):=by rw [wrap_small _ (by omega) (by omega)];omega
 have MB:=eY N (by omega);have HN:=aC hN;have hN1:N<=1001:=by omega
 have HLE:=aC (m9 hw.bb (aBE hw.b_lt));clear hN hw hz hzt hzt2;go_enter Tryz.func15,Tryz.ntmps15;go_upto_region 2 with first
  |(go_at_call 36;(with_reducible refine(EM.o).mono ?_);rintro e w1 ⟨rfl,h1⟩;have B1:=aC h1;have W1:=aC (HW.o.below h1);clear h1)
  |(go_at_call 35;(with_reducible refine(EN.o _ W1.o).mono ?_);rintro e w2 ⟨q2,c2,l,rs2,wk2,mu2,rfl,h21,h22,h23,h24,h25⟩;have L2:=aC h21;have hll:=h22;have S2:=aC h23;have C2:=aC h24;have E2:Hid (ES H w rs wk mu w2 rs2 wk2 mu2):=aC (((ES.refl HW.o).below B1.o).then h25.wm h25.g h25.f (fun _ e=>e.elim) h25.mo h25.wkm);have hs12:=h25.f.size;clear h21 h22 h23 h24 h25)
 have d1:=E2.o.wm.cell (i:=1) rfl;have hs01:w.heap.size<=w2.heap.size:=m9 B1.o.size hs12;go_upto_region 3 with fail
 have B3:Hid (wBl w2 (w2.alloc (.cells (noC N) 4))):=bz9;have R3:Hid (BR w.heap.size (w2.alloc (.cells (noC N) 4)) w2.heap.size N (cX N)):=kP hs01 (by omega);have E3:=aC (E2.o.below B3.o);have L3:=aC (L2.o.kept B3.o);have hpb:=E2.o.wm.pb_lt;generalize (w2.alloc (.cells (noC N) 4))=w3 at R3 E3 L3 ⊢;generalize w2.heap.size=g at R3 hpb hs01 ⊢;clear d1 B3 E2 L2 B1 W1 hs12;have HNL:Hid ((cX N).length=N):=aC (dO N);have M3:Hid (MkI w.heap.size g N w3 (cX N) (fun _=>True) ((l.map Cf.p).take 0) (cX N) w3):=⟨R3.o,rfl,fun j=>by simp,Fr.refl _ _⟩;go_upto_region 4 with fail
 go_loopw [7] (fun iv wr=>∃ (k:Nat) (is':List Bool),k<=l.length/\iv=.I (k:Int)/\MkI w.heap.size g N w3 (cX N) (fun _=>True) ((l.map Cf.p).take k) is' wr) (fun iv _=>l.length-(intOf iv).toNat)
 case atStart=>exact⟨0,cX N,r9 _,rfl,M3.o⟩
 case round=>
  obtain⟨k,is',hkl,rfl,hm⟩:=hrel;have HM:=aC hm;clear hm M3;by_cases hlt:k<l.length
  ·have i0:(k:Int)<(l.length:Int):=by omega
   have hw2:IntKind.wrap .i64 ((k:Int)+1)=(k:Int)+1:=wrap_small _ (by omega) (by omega);obtain⟨y,hy⟩:∃ y,l[k]?=some y:=⟨_,m7 hlt⟩;have hyp:y.p<=H.L.s.size:=HMV.o y (S2.o y (n8 hy));obtain⟨gm,rfl,gm1,gm2,cs,gm3⟩:=L3.o.at (by omega);have hne:gm≠g:=by
    obtain⟨cs',hc⟩:=R3.o.ty;exact bH gm3 hc (by decide)
   have HT:Hid ((l.map Cf.p).take (k+1)=(l.map Cf.p).take k++[y.p]):=aC (by rw [t9,aBC,hy];rfl);have y0:wr.cell? ⟨gm,k*21,none⟩=some (.I (y.p:Int)):=by
    have e:=HM.o.f.block gm gm1 hne;have h1:=L3.o.get hy 0 _ rfl;rw [aAR] at h1;unfold World.cell? at h1 ⊢;rw [e];exact h1
   obtain⟨x,hx⟩:∃ x,y.p=x:=⟨_,rfl⟩;rw [hx] at y0 HT hyp;clear hx hy;have hxN:(x:Int)<(N:Int):=(by have:=HN.o;omega);have hfz:=HM.o.r.frz x;have hc:∃ b,wr.cell? (aDr g x)=some (.bool b):=⟨_,HM.o.r.cell (m7 (by rw [HM.o.n,HNL.o];omega))⟩;obtain⟨b0,hb0⟩:=hc;have HNX:=aC (HM.o.snoc (x:=x) (by rw [HNL.o];omega) trivial);go_wp2;go_roundw
   case rel=>exact⟨k+1,_,by omega,by go_num,by rw [HT.o];exact HNX.o⟩
   case measure=>simp only [intOf];omega
  ·have i0:¬ (k:Int)<(l.length:Int):=by omega
   have HT:Hid ((l.map Cf.p).take k=l.map Cf.p):=aC (n9 (by simp;omega));have hil:is'.length=N:=(by rw [HM.o.n,HNL.o]);have RI:=aC (dT (w:=wr) HM.o.r (by omega));rw [hil] at RI;have HIL:=aC hil;clear hil;go_wp2_with (go_at_call 37;(with_reducible refine(RI.o).mono ?_);rintro e w5 ⟨q5,c5,rfl,h51,h52⟩;have L5:=aC h51;have B5:=aC h52;clear h51 h52)
   go_ret;have hmem:∀ j,j∈fH is' N ↔ ∃ y∈l,y.p=j:=fun j=>by
    have h1:j∈fH is' is'.length↔is'[j]?=some true:=jK;rw [HIL.o] at h1;rw [h1,HM.o.m j,HT.o];constructor
    ·rintro (q | ⟨q,-⟩)
     ·exact absurd q eT
     ·exact aAT.1 q
    ·rintro ⟨y,hy,e⟩;exact .inr ⟨aAT.2 ⟨y,hy,e⟩,trivial⟩
   have E4:ES H w rs wk mu wr rs2 wk2 mu2:=⟨E3.o.wm.mark R3.o HM.o.f (m9 HLE.o hs01) (by omega),E3.o.g,oV E3.o.f E3.o.g (HM.o.f.mono (fun k e=>Or.inr e):Fr (fun k=>wf H rs2 k\/k=g) w3 wr) (fun i e=>.inr (by omega)),E3.o.mo,E3.o.wkm⟩;refine⟨q5,c5,fH is' N,rs2,wk2,mu2,rfl,L5.o.mono E4.f.size,aJ1 _ _,fun j hj=>?_,fun e y hy=>?_,E4.below B5.o⟩
   ·obtain⟨y,hy,e⟩:=(hmem j).1 hj;exact⟨y,S2.o y hy,e⟩
   ·exact(hmem y.p).2 ⟨y,C2.o e y hy,rfl⟩
end
theorem aY3(most:Nat):∀ (a:List El) (k j:Nat) (z:Zl),(tl most k a)[j]?=some z->z.2=min (k+j+z.1.2.sz) most
 | [],k,j,z,h=>by simp [tl] at h
 | x :: a,k,0,z,h=>by
  rw [tl] at h;simp at h;subst h
  rfl
 | x :: a,k,j+1,z,h=>by
  rw [tl,aAU] at h;have:=aY3 most a (k+1) j z h;omega
theorem bS6{most:Nat}{t:Tr}{j:Nat}{z:Zl}(h:(kW most t)[j]?=some z):z.2=min (j+z.1.2.sz) most:=by
 have h':((tl most 0 (pp [] t)).take most)[j]?=some z:=by
  unfold kW lJ at h;rw [aAP,List.length_nil,Nat.sub_zero] at h;exact h
 have hj:(tl most 0 (pp [] t))[j]?=some z:=by
  obtain⟨hl,hv⟩:=m8.1 h';rw [aAC] at hl;rw [List.getElem_take] at hv;exact m8.2 ⟨by omega,hv⟩
 have:=aY3 _ _ _ _ _ hj;omega
def uB(Z:List Zl)(m:Nat):Bool:=Z.any fun z=>z.1.2.f.k==8&&z.1.2.f.n==(m:Int)
theorem bF9{Z:List Zl}{i:Nat}{z:Zl}(h:Z[i]?=some z)(m:Nat):uB (Z.take (i+1)) m=(uB (Z.take i) m ||(z.1.2.f.k==8&&z.1.2.f.n==(m:Int))):=by
 rw [t9,h];simp [uB]
def bdB(L:Ln)(f:Fl):Bool:=f.k==8 ||(f.k==7&&kep L f.n)
def okR(L:Ln)(l:List Zl):Bool:=l.all fun z=>!bdB L z.1.2.f
theorem aX9{L:Ln}{Z:List Zl}{i k:Nat}{z:Zl}(hik:i<=k)(h:Z[k]?=some z):okR L ((Z.drop i).take (k+1-i))=(okR L ((Z.drop i).take (k-i)) && !bdB L z.1.2.f):=by
 have:k+1-i=(k-i)+1:=by omega
 rw [this,t9,aCB,show i+(k-i)=k by omega,h];simp [okR]
theorem bJ0{L:Ln}{t:Tr}{Z:List Zl}(hm:Z.map (·.1)=pp [] t){i:Nat}{z:Zl}(hz:Z[i]?=some z):okR L ((Z.drop i).take z.1.2.sz)=plB L z.1.2:=by
 have hi:(pp [] t)[i]?=some z.1:=by rw [<- hm,aBC,hz];rfl
 obtain⟨r,hr⟩:=seg t [] i z.1 hi;have hs:((Z.drop i).take z.1.2.sz).map (·.1)=pp z.1.1 z.1.2:=by
  rw [List.map_take,List.map_drop,hm,hr,aCK (by rw [cQ];exact aAB _),n9 (by rw [cQ];exact aAB _)]
 have hall:okR L ((Z.drop i).take z.1.2.sz)=true ↔ ∀ x∈pp z.1.1 z.1.2,bdB L x.2.f=false:=by
  rw [<- hs];unfold okR;rw [List.all_eq_true];constructor
  ·intro h x hx;obtain⟨y,hy,rfl⟩:=aAT.1 hx;simpa using h y hy
  ·intro h y hy;simpa using h y.1 (aAT.2 ⟨y,hy,rfl⟩)
 have hbd:∀ f:Fl,bdB L f=false↔(f.k≠8/\(f.k=7->kep L f.n=false)):=fun f=>by
  unfold bdB;by_cases h8:f.k=8
  ·simp [h8]
  ·by_cases h7:f.k=7
   ·simp [h7]
   ·simp [h8,h7]
 have hp:(∀ x∈pp z.1.1 z.1.2,bdB L x.2.f=false)↔PlT L z.1.2:=by
  constructor
  ·intro h;exact sT z.1.2 z.1.1 fun x hx=>(hbd _).1 (h x hx)
  ·intro h x hx;exact(hbd _).2 ((aQ x.2).1 (gP z.1.2 z.1.1 h x hx)).1
 rw [aBQ,hall,hp];unfold plB;simp
def nwA(v:Value)(s:ByteArray)(c o:Bool)(u:Nat->Bool)(p r:Value):Array Value:=#[v,.string s,.bool c,.bool o,.bool (u 0),.bool (u 1),.bool (u 2),.bool (u 3),.bool (u 4),.bool (u 5),.bool (u 6),.bool (u 7),.bool (u 8),.bool (u 9),p,r,.I 0,.bool false]
theorem bJ4{v:Value}{s:ByteArray}{c o:Bool}{u:Nat->Bool}{p r:Value}{n:Nat}(hn:n<10):(nwA v s c o u p r).setIfInBounds (4+n) (.bool true)=nwA v s c o (fun m=>if m=n then true else u m) p r:=by
 rcases n with _ | _ | _ | _ | _ | _ | _ | _ | _ | _ | n
 all_goals first | rfl | omega
theorem bN7{v:Value}{s:ByteArray}{c o:Bool}{u:Nat->Bool}{p r:Value}{n:Nat}(hn:n<10):(nwA v s c o u p r)[4+n]?=some (.bool (u n)):=by
 rcases n with _ | _ | _ | _ | _ | _ | _ | _ | _ | _ | n
 all_goals first | rfl | omega
theorem aN7:(Tryz.prog.info? 169).map (fun i=>(i.zero,i.size,i.bytes))=some (some (.slice none 0 0),1,24):=by kernel_rfl
theorem aU3:Tryz.prog.underlying 50=some (.slice 169):=by kernel_rfl
def rzC(n:Nat):Array Value:=(List.replicate n (Value.slice none 0 0)).toArray
theorem aP8(n:Nat)(h:n<=1000000)(w:World) :
  (Instr.makeSlice 50 (.I (n:Int)) (.I (n:Int))).run Tryz.prog w=.ok (.slice (some (aDr w.heap.size 0)) n n) (w.alloc (.cells (rzC n) 169)):=by
 obtain⟨i0,hi,hz0,hz1,hz2⟩:=aW aN7;have:=run_make (P:=Tryz.prog) w 50 169 i0 (.slice none 0 0) aU3 hi hz0 .i64 .i64 (n:Int) (n:Int) (by omega) (by omega) (by rw [hz2];omega) (by omega);rw [hz1] at this;have e:madeCells #[.slice none 0 0] n=rzC n:=by
  unfold rzC;apply Array.ext
  ·simp [madeCells]
  intro i h1 h2;simp [madeCells,Nat.mod_one]
 rw [<- e];simpa [Value.cells] using this
def bX8(w:World)(t:Tr)(s:ByteArray)(c o:Bool)(e:Ending)(w':World):Prop:=∃ (H:Gh) (rs:lOn),e=.returned (.pointer (some ⟨H.b,0,none⟩))/\WM H w' rs 0 false/\Gk H/\H.t=t/\H.L.s=s/\H.L.c=c/\H.L.o=o/\H.base=w.heap.size/\wBl w w'
section
attribute [local go_sem] Oper.semAt_some aT
structure NB2(V:World)(nb mb:Nat)(f:Fl)(c o:Bool):Prop where
 n:BoxN V nb f
 m:V.heap[mb]?=some (.cells #[.bool c,.bool o] 27 (0,0))
theorem NB2.kept{V V':World}{nb mb:Nat}{f:Fl}{c o:Bool}(h:NB2 V nb mb f c o)(hb:wBl V V'):NB2 V' nb mb f c o:=⟨(hb.block _ (aB h.n)).trans h.n,(hb.block _ (aB h.m)).trans h.m⟩
def NC2(V:World)(nb mb:Nat)(f:Fl)(c o:Bool):Prop:=V.cell? (aDr nb 0)=some (.I f.k)/\V.cell? (aDr nb 1)=some (.I f.n)/\V.cell? (aDr nb 2)=some (.I f.mn)/\V.cell? (aDr nb 3)=some (.I f.mx)/\V.cell? (aDr nb 4)=some (.slice f.rq f.rs.length f.rc)/\V.cell? (aDr nb 5)=some (.slice f.kq f.kl f.kc)/\V.cell? (aDr mb 0)=some (.bool c)/\V.cell? (aDr mb 1)=some (.bool o)
theorem NB2.cells{V:World}{nb mb:Nat}{f:Fl}{c o:Bool}(h:NB2 V nb mb f c o):NC2 V nb mb f c o:=by
 obtain⟨n0,n1,n2,n3,n4,n5⟩:=h.n.six;simp only [n7] at n1 n2 n3 n4 n5;exact⟨n0,n1,n2,n3,n4,n5,aA h.m rfl,aA h.m rfl⟩
structure NI1(w6:World)(b:Nat)(v:Value)(s:ByteArray)(c o:Bool)(u:Nat->Bool)(p r:Value)(V:World):Prop where
 h:V.heap[b]?=some (.cells (nwA v s c o u p r) 52 (0,0))
 f:Fr (fun k=>k=b) w6 V
theorem NI1.kept{w6:World}{b:Nat}{v:Value}{s:ByteArray}{c o:Bool}{u:Nat->Bool}{p r:Value}{V V':World}(h:NI1 w6 b v s c o u p r V)(hb:wBl V V'):NI1 w6 b v s c o u p r V':=⟨(hb.block _ (aB h.h)).trans h.h,h.f.then hb⟩
theorem NI1.put{w6:World}{b:Nat}{v:Value}{s:ByteArray}{c o:Bool}{u:Nat->Bool}{p r:Value}{V:World}(h:NI1 w6 b v s c o u p r V){n:Nat}(hn:n<10):NI1 w6 b v s c o (fun m=>if m=n then true else u m) p r (V.setCell ⟨b,4+n,none⟩ (.bool true)):=
 ⟨by rw [aN h.h,bJ4 hn],h.f.setCell (p:=⟨b,4+n,none⟩) rfl _⟩
theorem NI1.setp{w6:World}{b:Nat}{v:Value}{s:ByteArray}{c o:Bool}{u:Nat->Bool}{p r:Value}{V:World}(h:NI1 w6 b v s c o u p r V)(x:Value):NI1 w6 b v s c o u x r (V.setCell (aDr b 14) x):=
 ⟨aN h.h 14 x,h.f.setCell (p:=(aDr b 14)) rfl _⟩
theorem NI1.setr{w6:World}{b:Nat}{v:Value}{s:ByteArray}{c o:Bool}{u:Nat->Bool}{p r:Value}{V:World}(h:NI1 w6 b v s c o u p r V)(x:Value):NI1 w6 b v s c o u p x (V.setCell (aDr b 15) x):=
 ⟨aN h.h 15 x,h.f.setCell (p:=(aDr b 15)) rfl _⟩
structure NI2(w:World)(b:Nat)(v:Value)(s:ByteArray)(c o:Bool)(Z:List Zl)(gp gr:Nat)(i:Nat)(is:List Bool)(V:World):Prop where
 h:V.heap[b]?=some (.cells (nwA v s c o (uB Z) (.slice (some (aDr gp 0)) Z.length Z.length) (.slice (some (aDr gr 0)) Z.length Z.length)) 52 (0,0))
 z:ZR w.heap.size V v Z
 q:V.ownsRow w.heap.size 169 1 (.slice (some (aDr gr 0)) Z.length Z.length) Z.length (List.replicate Z.length (.slice none 0 0))
 r:BR w.heap.size V gp Z.length is
 n:is.length=Z.length
 m:∀ (j:Nat) (x:Zl),j<i->Z[j]?=some x->is[j]?=some (plB ⟨s,c,o,uB Z⟩ x.1.2)
 bel:wBl w V
theorem NI2.kept{w:World}{b:Nat}{v:Value}{s:ByteArray}{c o:Bool}{Z:List Zl}{gp gr i:Nat}{is:List Bool}{V V':World}(h:NI2 w b v s c o Z gp gr i is V)(hb:wBl V V'):NI2 w b v s c o Z gp gr i is V':=
 ⟨(hb.block _ (aB h.h)).trans h.h,aH (S:=fun _=>False) h.z (Fr.of_below hb) (fun _ _ q=>q),aH (S:=fun _=>False) h.q (Fr.of_below hb) (fun _ _ q=>q),h.r.kept hb,h.n,h.m,aJ h.bel hb lz9⟩
theorem NI2.put{w:World}{b:Nat}{v:Value}{s:ByteArray}{c o:Bool}{Z:List Zl}{gp gr i:Nat}{is:List Bool}{V:World}(h:NI2 w b v s c o Z gp gr i is V){x:Zl}(hx:Z[i]?=some x){d:Bool}(hd:d=plB ⟨s,c,o,uB Z⟩ x.1.2):NI2 w b v s c o Z gp gr (i+1) (is.set i d) (V.setCell (aDr gp i) (.bool d)):=by
 have hf:Fr (fun k=>k=gp) V (V.setCell (aDr gp i) (.bool d)):=(Fr.refl (fun k=>k=gp) V).setCell (p:=(aDr gp i)) rfl _;obtain⟨cs,hc⟩:=h.r.ty;refine⟨(hf.block b (aB h.h) (fun e=>bH h.h hc (by decide) e)).trans h.h,aH h.z hf (fun g hg e=>?_),aH h.q hf (fun g hg e=>?_),h.r.put i d,by rw [aAW];exact h.n,fun j y hj hy=>?_,h.bel.trans (hf.below h.bel.size (fun k e=>by rw [e];exact h.r.lo))⟩
 ·obtain⟨-,-,cur,hc'⟩:=aF h.z hg;exact bH hc' hc (by decide) e
 ·obtain⟨-,-,cur,hc'⟩:=aF h.q hg;exact bH hc' hc (by decide) e
 ·have hil:=(m8.1 hx).1;rw [aBO];by_cases e:i=j
  ·subst e;rw [if_pos rfl,if_pos (by rw [h.n];exact hil),hd];rw [hx] at hy;cases hy
   rfl
  ·rw [if_neg e];exact h.m j y (by omega) hy
theorem bJ6{w:World}{t:Tr}(hta:TB w t){c o:Bool}(hr:aU c o 0 0 (pp [] t)=0){s:ByteArray}(hs:s.size<=1000) :
  Calls Tryz.prog 13 #[.agg (nDf t.f),.string s,.agg #[.bool c,.bool o]] w (bX8 w t s c o):=by
 have HTA:=aC hta;have HFT:=aC hta.foot;have HNP:=aC (dX hr);have hl:=mE hr;have B1:Hid (wBl w ((w.alloc (.cells (nDf t.f) 25)).alloc (.cells #[.bool c,.bool o] 27))):=(bz9).alloc (by simp) _;have N1:Hid (NB2 ((w.alloc (.cells (nDf t.f) 25)).alloc (.cells #[.bool c,.bool o] 27)) w.heap.size (w.heap.size+1) t.f c o):=aC ⟨(((Below.refl _ (w.alloc (.cells (nDf t.f) 25))).alloc lz9 _).block _ (by simp)).trans (aE w _),by have:=aE (w.alloc (.cells (nDf t.f) 25)) (.cells #[.bool c,.bool o] 27);simpa using this⟩;have LD:Hid (∀ W,wBl w W->Calls Tryz.prog 22 #[.agg (nDf t.f),.I 2000] W (bE7 W (kW 2000 t))):=fun W hW=>aZ7 2000 (by omega) (HTA.o.kept hW);have HMP:Hid ((kW 2000 t).map (·.1)=pp [] t):=aC (by rw [sO,n9 hl]);have hZ:(kW 2000 t).length<=2000:=by have:=oN 2000 t;omega
 have hZ0:0<(kW 2000 t).length:=by have:=oN 2000 t;have h1:=cQ t [];have h2:=dS t;omega
 have HTO:Hid (∀ (i:Nat) (z:Zl),(kW 2000 t)[i]?=some z->z.2=i+z.1.2.sz):=aC fun i z h=>by
  have h1:=bS6 h;have h2:(pp [] t)[i]?=some z.1:=by rw [<- HMP.o,aBC,h];rfl
  obtain⟨r,hr⟩:=seg t [] i z.1 h2;have h3:=congrArg List.length hr;rw [o8,cQ,aAS] at h3;have h4:=(m8.1 h2).1;omega
 generalize kW 2000 t=Z at LD HMP hZ hZ0 HTO;have HNZ:Hid (∀ (i:Nat) (z:Zl),Z[i]?=some z->NP c o z.1.2):=aC fun i z h=>by
  have h2:z.1∈pp [] t:=by rw [<- HMP.o];exact aAT.2 ⟨z,n8 h,rfl⟩
  exact((aQ z.1.2).1 (gP t [] HNP.o z.1 h2)).1
 clear hta hr hl;go_enter Tryz.func13,Tryz.ntmps13;go_upto_region 1 with fail
 generalize ((w.alloc (.cells (nDf t.f) 25)).alloc (.cells #[.bool c,.bool o] 27))=w1 at B1 N1 ⊢;obtain⟨nb,hnb⟩:∃ nb,w.heap.size=nb:=⟨_,rfl⟩;rw [hnb] at N1;generalize hmb:nb+1=mb at N1;have DR:=aC ((Below.refl w1.heap.size w1).drew);have B2:=aC (aJ B1.o DR.o lz9);have N2:=aC (N1.o.kept DR.o);have LW:=aC (LD.o _ B2.o);have HS2:=aC N2.o.cells;refine wp_region_held_drew (S:=fun w'=>NC2 w' nb mb t.f c o) (by kernel_rfl) HS2.o ?_;intro hS0;refine aCQ (v:=?_) 0 ?_ ?_;rotate_left
 ·intro wz hSw;obtain⟨hs0,hs1,hs2,hs3,hs4,hs5,hs6,hs7⟩:=hSw;go_simp
  try with_reducible rfl
 dsimp only [Act.put,i7,g8,g9];simp only [g4,i9,i8];refine aCQ (v:=?_) 2 ?_ ?_;rotate_left
 ·intro wz hSw;obtain⟨hs0,hs1,hs2,hs3,hs4,hs5,hs6,hs7⟩:=hSw;go_simp
  try with_reducible rfl
 dsimp only [Act.put,i7,g8,g9];simp only [g4,i9,i8];refine aCQ (v:=?_) 3 ?_ ?_;rotate_left
 ·intro wz hSw;obtain⟨hs0,hs1,hs2,hs3,hs4,hs5,hs6,hs7⟩:=hSw;go_simp
  try with_reducible rfl
 dsimp only [Act.put,i7,g8,g9];simp only [g4,i9,i8];refine wpAnyH_ready (rs:=[1]) (by kernel_rfl) (by simp) ?_;refine AllReadyH.cons rfl (fun K hK=>?_) AllReadyH.nil;go_simp
 go_at_call 22
 refine(LW.o).mono ?_;rintro e w5 ⟨zq,zc,rfl,h51,h52⟩;have Z5:=aC h51;have B5:=aC h52;have N5:=aC (N2.o.kept B5.o);have BW5:=aC (aJ B2.o B5.o lz9);clear h51 h52;refine hK.out _ _ N5.o.cells (fun hS1=>?_);clear hK K;refine wpAnyH_ready (rs:=[4]) (by kernel_rfl) (by simp) ?_;refine AllReadyH.cons rfl (fun K hK=>?_) AllReadyH.nil;go_simp;refine hK.out _ _ N5.o.cells (fun hS2=>?_);clear hK K;refine wpAnyH_ready (rs:=[5]) (by kernel_rfl) (by simp) ?_;refine AllReadyH.cons rfl (fun K hK=>?_) AllReadyH.nil;go_simp;have B6:Hid (wBl w5 (w5.alloc (.cells #[.slice zq Z.length zc,.string s,.bool c,.bool o,.bool false,.bool false,.bool false,.bool false,.bool false,.bool false,.bool false,.bool false,.bool false,.bool false,.slice none 0 0,.slice none 0 0,.I 0,.bool false] 52))):=bz9;have N6:=aC (N5.o.kept B6.o);have I6:Hid (NI1 (w5.alloc (.cells #[.slice zq Z.length zc,.string s,.bool c,.bool o,.bool false,.bool false,.bool false,.bool false,.bool false,.bool false,.bool false,.bool false,.bool false,.bool false,.slice none 0 0,.slice none 0 0,.I 0,.bool false] 52)) w5.heap.size (.slice zq Z.length zc) s c o (fun _=>false) (.slice none 0 0) (.slice none 0 0) (w5.alloc (.cells #[.slice zq Z.length zc,.string s,.bool c,.bool o,.bool false,.bool false,.bool false,.bool false,.bool false,.bool false,.bool false,.bool false,.bool false,.bool false,.slice none 0 0,.slice none 0 0,.I 0,.bool false] 52))):=aC ⟨aE w5 _,Fr.refl _ _⟩;have BW6:=aC (aJ BW5.o B6.o lz9);have Z6:Hid (ZR w.heap.size (w5.alloc (.cells #[.slice zq Z.length zc,.string s,.bool c,.bool o,.bool false,.bool false,.bool false,.bool false,.bool false,.bool false,.bool false,.bool false,.bool false,.bool false,.slice none 0 0,.slice none 0 0,.I 0,.bool false] 52)) (.slice zq Z.length zc) Z):=aC (o9 (bE Z5.o B2.o.size) _);refine hK.out _ _ N6.o.cells (fun hS3=>?_);clear hK K;refine wpAnyH_ready (rs:=[6]) (by kernel_rfl) (by simp) ?_;refine AllReadyH.cons rfl (fun K hK=>?_) AllReadyH.nil;go_simp;refine hK.out _ _ N6.o.cells (fun hS4=>?_);clear hK K;refine wpAnyH_done (by kernel_rfl) ?_ _;obtain⟨zb,zc',hz⟩:=aL Z6.o hZ0;injection hz with hz1 hz2 hz3;subst hz1;have hzb:zb<w5.heap.size:=(aF Z5.o rfl).2.1;have hwb:w.heap.size<=w5.heap.size:=BW5.o.size;clear hS0 hS1 hS2 hS3 hS4 hz2 hz3 Z5 N5 N2 HS2 B6 N6 DR N1 B1 B2 LW LD BW5;generalize w5.alloc (.cells #[.slice (some (aDr zb 0)) Z.length zc,.string s,.bool c,.bool o,.bool false,.bool false,.bool false,.bool false,.bool false,.bool false,.bool false,.bool false,.bool false,.bool false,.slice none 0 0,.slice none 0 0,.I 0,.bool false] 52)=w6 at I6 BW6 Z6 ⊢;generalize w5.heap.size=b at I6 hzb hwb ⊢;have HZV:Hid (∀ V u p r,NI1 w6 b (.slice (some (aDr zb 0)) Z.length zc) s c o u p r V->ZR w.heap.size V (.slice (some (aDr zb 0)) Z.length zc) Z):=aC fun V u p r h=>aH Z6.o h.f (fun g hg e=>by have h0:zb=g:=t8 hg;omega);have U6:Hid (NI1 w6 b (.slice (some (aDr zb 0)) Z.length zc) s c o (uB (Z.take 0)) (.slice none 0 0) (.slice none 0 0) w6):=aC (by
  have e:uB (Z.take 0)=fun _=>false:=by funext m;simp [uB]
  rw [e];exact I6.o)
 clear I6;go_upto_region 3 with fail
 go_loopw [8] (fun iv wr=>∃ i:Nat,i<=Z.length/\iv=.I (i:Int)/\NI1 w6 b (.slice (some (aDr zb 0)) Z.length zc) s c o (uB (Z.take i)) (.slice none 0 0) (.slice none 0 0) wr) (fun iv _=>Z.length-(intOf iv).toNat)
 case atStart=>exact⟨0,r9 _,rfl,U6.o⟩
 case round=>
  obtain⟨i,hi,rfl,hu⟩:=hrel;have HU:=aC hu;clear hu U6;have c0:wr.cell? (aDr b 0)=some (.slice (some (aDr zb 0)) Z.length zc):=aA HU.o.h rfl;by_cases hil:i<Z.length
  ·have i0:(i:Int)<(Z.length:Int):=by omega
   have hw2:IntKind.wrap .i64 ((i:Int)+1)=(i:Int)+1:=wrap_small _ (by omega) (by omega);obtain⟨z,hz⟩:∃ z,Z[i]?=some z:=⟨_,m7 hil⟩;have y0:=(HZV.o _ _ _ _ HU.o).cells hz (j:=0) (v:=.I z.1.2.f.k) rfl;have y1:=(HZV.o _ _ _ _ HU.o).cells hz (j:=1) (v:=.I z.1.2.f.n) rfl;rw [aAR] at y0;have HT:=aC (fun m=>bF9 hz m);have HZ:=aC hz;by_cases h8:z.1.2.f.k=8
   ·have e8:(z.1.2.f.k==8)=true:=by rw [h8];rfl
    obtain⟨n,hn⟩:∃ n:Nat,z.1.2.f.n=(n:Int):=⟨z.1.2.f.n.toNat,by have:=rC (HNZ.o i z hz) h8;omega⟩;have hn9:n<10:=(by have:=rC (HNZ.o i z hz) h8;omega);rw [hn] at y1;have HNN:=aC hn;have HN:Hid (uB (Z.take (i+1))=fun m=>if m=n then true else uB (Z.take i) m):=aC (by
     funext m
     rw [HT.o m,e8,aCP,hn];by_cases e:m=n
     ·subst e;simp
     ·rw [if_neg e];have:((n:Int)==(m:Int))=false:=(by simp;omega);rw [this,Bool.or_false])
    clear hz h8 hn;have in9:(n:Int)<10:=(by omega);have lb2:b<wr.heap.size:=aB HU.o.h;have lz2:zb<wr.heap.size:=(aF (HZV.o _ _ _ _ HU.o) rfl).2.1;have in0:(0:Int)<=(n:Int):=(by omega);go_upto_region 6 with fail
    have DR7:=aC ((Below.refl wr.heap.size wr).drew);have I7:=aC (HU.o.kept DR7.o);have d0:wr.drew.cell? (aDr b 0)=some (.slice (some (aDr zb 0)) Z.length zc):=aA I7.o.h rfl;have HC1:Hid (∀ V u p r,NI1 w6 b (.slice (some (aDr zb 0)) Z.length zc) s c o u p r V->V.cell? (aDr b 0)=some (.slice (some (aDr zb 0)) Z.length zc)/\V.cell? ⟨zb,i*12+1,none⟩=some (.I (n:Int))):=aC fun V u p r h=>⟨aA h.h rfl,by
     have:=(HZV.o _ _ _ _ h).cells HZ.o (j:=1) (v:=.I z.1.2.f.n) rfl;rw [this,HNN.o]⟩
    have c4:wr.drew.cell? ⟨b,4+n,none⟩=some (.bool (uB (Z.take i) n)):=aA I7.o.h (bN7 hn9);have fz:=fun j=>aG I7.o.h j;have I8:=aC (I7.o.put hn9);rw [<- HN.o] at I8;clear c0 y0 y1;refine wp_region_held_drew (S:=fun w'=>w'.cell? (aDr b 0)=some (.slice (some (aDr zb 0)) Z.length zc)/\w'.cell? ⟨zb,i*12+1,none⟩=some (.I (n:Int))) (by kernel_rfl) (HC1.o _ _ _ _ I7.o) ?_;intro hS0;refine aCQ (v:=?_) 0 ?_ ?_;rotate_left
    ·intro wz hSw;obtain⟨hs0,hs1⟩:=hSw;go_simp
     try with_reducible rfl
    dsimp only [Act.put,i7,g8,g9];simp only [g4,i9,i8];refine aCQ (v:=?_) 1 ?_ ?_;rotate_left
    ·intro wz hSw;obtain⟨hs0,hs1⟩:=hSw;go_simp
     try with_reducible rfl
    dsimp only [Act.put,i7,g8,g9];simp only [g4,i9,i8];refine aCQ (v:=?_) 2 ?_ ?_;rotate_left
    ·intro wz hSw;obtain⟨hs0,hs1⟩:=hSw;go_simp
     try with_reducible rfl
    dsimp only [Act.put,i7,g8,g9];simp only [g4,i9,i8];refine aCQ (v:=?_) 3 ?_ ?_;rotate_left
    ·intro wz hSw;obtain⟨hs0,hs1⟩:=hSw;go_simp
     try with_reducible rfl
    dsimp only [Act.put,i7,g8,g9];simp only [g4,i9,i8];refine aCQ (v:=?_) 4 ?_ ?_;rotate_left
    ·intro wz hSw;obtain⟨hs0,hs1⟩:=hSw;go_simp
     try with_reducible rfl
    dsimp only [Act.put,i7,g8,g9];simp only [g4,i9,i8];refine aCQ (v:=?_) 5 ?_ ?_;rotate_left
    ·intro wz hSw;obtain⟨hs0,hs1⟩:=hSw;go_simp
     try with_reducible rfl
    dsimp only [Act.put,i7,g8,g9];simp only [g4,i9,i8];refine aCQ (v:=?_) 6 ?_ ?_;rotate_left
    ·intro wz hSw;obtain⟨hs0,hs1⟩:=hSw;go_simp
     try with_reducible rfl
    dsimp only [Act.put,i7,g8,g9];simp only [g4,i9,i8];refine aCQ (v:=?_) 7 ?_ ?_;rotate_left
    ·intro wz hSw;obtain⟨hs0,hs1⟩:=hSw;go_simp
     try with_reducible rfl
    dsimp only [Act.put,i7,g8,g9];simp only [g4,i9,i8];refine aCQ (v:=?_) 8 ?_ ?_;rotate_left
    ·intro wz hSw;obtain⟨hs0,hs1⟩:=hSw;go_simp
     try with_reducible rfl
    dsimp only [Act.put,i7,g8,g9];simp only [g4,i9,i8];refine aCQ (v:=?_) 9 ?_ ?_;rotate_left
    ·intro wz hSw;obtain⟨hs0,hs1⟩:=hSw;go_simp
     try with_reducible rfl
    dsimp only [Act.put,i7,g8,g9];simp only [g4,i9,i8];refine aCQ (v:=?_) 10 ?_ ?_;rotate_left
    ·intro wz hSw;obtain⟨hs0,hs1⟩:=hSw;go_simp
     try with_reducible rfl
    dsimp only [Act.put,i7,g8,g9];simp only [g4,i9,i8];refine aCQ (v:=?_) 11 ?_ ?_;rotate_left
    ·intro wz hSw;obtain⟨hs0,hs1⟩:=hSw;go_simp
     try with_reducible rfl
    dsimp only [Act.put,i7,g8,g9];simp only [g4,i9,i8];refine wpAnyH_ready (rs:=[12]) (by kernel_rfl) (by simp) ?_;refine AllReadyH.cons rfl (fun K hK=>?_) AllReadyH.nil;go_simp;refine hK.out _ _ (HC1.o _ _ _ _ I7.o) (fun hS1=>?_);clear hK K;refine wpAnyH_ready (rs:=[13]) (by kernel_rfl) (by simp) ?_;refine AllReadyH.cons rfl (fun K hK=>?_) AllReadyH.nil;go_simp;refine hK.out _ _ (HC1.o _ _ _ _ I8.o) (fun hS2=>?_);clear hK K;refine wpAnyH_done (by kernel_rfl) ?_ _;clear hS0 hS1 hS2;go_wp2;go_roundw
    case rel=>exact⟨i+1,by omega,by go_num,I8.o⟩
    case measure=>simp only [intOf];omega
   ·have e8:(z.1.2.f.k==8)=false:=by simpa using h8
    have HN:Hid (uB (Z.take (i+1))=uB (Z.take i)):=aC (by
     funext m
     rw [HT.o m,e8,Bool.false_and,Bool.or_false])
    clear hz h8;go_wp2;go_roundw
    case rel=>exact⟨i+1,by omega,by go_num,by rw [HN.o];exact HU.o⟩
    case measure=>simp only [intOf];omega
  ·have i0:¬ (i:Int)<(Z.length:Int):=by omega
   have HT:Hid (Z.take i=Z):=aC (n9 (by omega));rw [HT.o] at HU;clear HT;have MB:=eY Z.length (by omega);have MR:=aP8 Z.length (by omega);have fz:=fun j=>aG HU.o.h j;have c14:wr.cell? (aDr b 14)=some (.slice none 0 0):=aA HU.o.h rfl;have lb2:b<wr.heap.size:=aB HU.o.h;go_upto_region 8 with fail
   have hz7:(wr.setCell (aDr b 14) (.slice (some (aDr wr.heap.size 0)) Z.length Z.length)).heap.size=wr.heap.size:=by simp [World.setCell]
   have A7:Hid (Below (wr.setCell (aDr b 14) (.slice (some (aDr wr.heap.size 0)) Z.length Z.length)).heap.size (wr.setCell (aDr b 14) (.slice (some (aDr wr.heap.size 0)) Z.length Z.length)) ((wr.setCell (aDr b 14) (.slice (some (aDr wr.heap.size 0)) Z.length Z.length)).alloc (.cells (noC Z.length) 4))):=bz9;have hwr:w.heap.size<=wr.heap.size:=m9 BW6.o.size HU.o.f.size;have I7:=aC ((HU.o.setp (.slice (some (aDr wr.heap.size 0)) Z.length Z.length)).kept A7.o);have R7:Hid (BR w.heap.size ((wr.setCell (aDr b 14) (.slice (some (aDr wr.heap.size 0)) Z.length Z.length)).alloc (.cells (noC Z.length) 4)) wr.heap.size Z.length (cX Z.length)):=aC (by
    have:=kP (base:=w.heap.size) (n:=Z.length) (V:=(wr.setCell (aDr b 14) (.slice (some (aDr wr.heap.size 0)) Z.length Z.length))) (by rw [hz7];exact hwr) (by omega);rwa [hz7] at this)
   clear fz c14 MB A7 hz7;generalize ((wr.setCell (aDr b 14) (.slice (some (aDr wr.heap.size 0)) Z.length Z.length)).alloc (.cells (noC Z.length) 4))=w7 at I7 R7 ⊢;generalize wr.heap.size=gp at I7 R7 ⊢;have fz:=fun j=>aG I7.o.h j;have c15:w7.cell? (aDr b 15)=some (.slice none 0 0):=aA I7.o.h rfl;have c0':w7.cell? (aDr b 0)=some (.slice (some (aDr zb 0)) Z.length zc):=aA I7.o.h rfl;have lb3:b<w7.heap.size:=aB I7.o.h;clear c0 lb2 hwr HU;go_upto_region 9 with fail
   have hz8:(w7.setCell (aDr b 15) (.slice (some (aDr w7.heap.size 0)) Z.length Z.length)).heap.size=w7.heap.size:=by simp [World.setCell]
   have A8:Hid (Below (w7.setCell (aDr b 15) (.slice (some (aDr w7.heap.size 0)) Z.length Z.length)).heap.size (w7.setCell (aDr b 15) (.slice (some (aDr w7.heap.size 0)) Z.length Z.length)) ((w7.setCell (aDr b 15) (.slice (some (aDr w7.heap.size 0)) Z.length Z.length)).alloc (.cells (rzC Z.length) 169))):=bz9;have hwr:w.heap.size<=w7.heap.size:=m9 BW6.o.size I7.o.f.size;have I8:=aC ((I7.o.setr (.slice (some (aDr w7.heap.size 0)) Z.length Z.length)).kept A8.o);have R8:Hid (BR w.heap.size ((w7.setCell (aDr b 15) (.slice (some (aDr w7.heap.size 0)) Z.length Z.length)).alloc (.cells (rzC Z.length) 169)) gp Z.length (cX Z.length)):=aC (BR.kept (aH R7.o ((Fr.refl (fun k=>k=b) w7).setCell (p:=(aDr b 15)) rfl _) (fun g hg e=>by
    obtain⟨-,-,cur,hc'⟩:=aF R7.o hg;exact bH hc' I7.o.h (by decide) e)) A8.o)
   have Q8:Hid (((w7.setCell (aDr b 15) (.slice (some (aDr w7.heap.size 0)) Z.length Z.length)).alloc (.cells (rzC Z.length) 169)).ownsRow w.heap.size 169 1 (.slice (some (aDr w7.heap.size 0)) Z.length Z.length) Z.length (List.replicate Z.length (.slice none 0 0))):=aC (by
    refine⟨by simp,.inr ⟨w7.heap.size,Z.length,rzC Z.length,rfl,hwr,?_,aAB _,by unfold maxLen;omega,by simp [rzC],by simp [rzC]⟩⟩;have h9:=aE (w7.setCell (aDr b 15) (.slice (some (aDr w7.heap.size 0)) Z.length Z.length)) (.cells (rzC Z.length) 169);rw [hz8] at h9;exact h9)
   clear fz c15 c0' MR A8 hz8;generalize ((w7.setCell (aDr b 15) (.slice (some (aDr w7.heap.size 0)) Z.length Z.length)).alloc (.cells (rzC Z.length) 169))=w8 at I8 R8 Q8 ⊢;generalize w7.heap.size=gr at I8 Q8 ⊢;have J8:Hid (NI2 w b (.slice (some (aDr zb 0)) Z.length zc) s c o Z gp gr 0 (cX Z.length) w8):=aC ⟨I8.o.h,HZV.o _ _ _ _ I8.o,Q8.o,R8.o,dO _,fun j x h=>by omega,BW6.o.trans (I8.o.f.below (m9 BW6.o.size lz9) (fun k e=>by omega))⟩;clear I7 I8 R7 R8 Q8 HZV;go_upto_region 10 with fail
   go_loopw [9] (fun iv wr=>∃ (i:Nat) (is:List Bool),i<=Z.length/\iv=.I (i:Int)/\NI2 w b (.slice (some (aDr zb 0)) Z.length zc) s c o Z gp gr i is wr) (fun iv _=>Z.length-(intOf iv).toNat)
   case atStart=>exact⟨0,cX Z.length,r9 _,rfl,J8.o⟩
   case round=>
    obtain⟨i2,is,hi2,rfl,hj⟩:=hrel;have HJ:=aC hj;clear hj J8;have c0:wr.cell? (aDr b 0)=some (.slice (some (aDr zb 0)) Z.length zc):=aA HJ.o.h rfl;by_cases hil2:i2<Z.length
    ·have j0:(i2:Int)<(Z.length:Int):=by omega
     have hw3:IntKind.wrap .i64 ((i2:Int)+1)=(i2:Int)+1:=wrap_small _ (by omega) (by omega);obtain⟨z,hz⟩:∃ z,Z[i2]?=some z:=⟨_,m7 hil2⟩;have HZ:=aC hz;obtain⟨T,hT⟩:∃ T,z.2=T:=⟨_,rfl⟩;have hT1:T=i2+z.1.2.sz:=(by rw [<- hT];exact HTO.o i2 z hz);have hT2:T<=Z.length:=by
      have h2:(pp [] t)[i2]?=some z.1:=(by rw [<- HMP.o,aBC,hz];rfl);obtain⟨r,hr⟩:=seg t [] i2 z.1 h2;have h3:=congrArg List.length hr;rw [o8,cQ,aAS,<- HMP.o,aAG] at h3;omega
     have HT1:=aC hT1;have HT:=aC hT;clear hz hT hT1;go_upto_region 14 with fail
     go_loopw [10,11] (fun pv kv wr=>∃ (k:Nat) (P:Bool),i2<=k/\k<=T/\P=okR ⟨s,c,o,uB Z⟩ ((Z.drop i2).take (k-i2))/\pv=.bool P/\kv=.I (k:Int)/\NI2 w b (.slice (some (aDr zb 0)) Z.length zc) s c o Z gp gr i2 is wr) (fun _ kv _=>T-(intOf kv).toNat)
     case atStart=>exact⟨i2,true,aAB _,by have:=HT1.o;omega,by rw [Nat.sub_self,aAA];rfl,rfl,rfl,HJ.o⟩
     case round=>
      obtain⟨k,P,hk1,hk2,hP,rfl,rfl,hj⟩:=hrel;have HJ3:=aC hj;have HP:=aC hP;clear hj hP HJ c0;have c0:wr.cell? (aDr b 0)=some (.slice (some (aDr zb 0)) Z.length zc):=aA HJ3.o.h rfl;have y11:=HJ3.o.z.cells HZ.o (j:=11) (v:=.I (z.2:Int)) rfl;rw [HT.o] at y11;by_cases hkT:k<T
      ·have k0:(k:Int)<(T:Int):=by omega
       have hkz:(k:Int)<(Z.length:Int):=(by omega);have hw4:IntKind.wrap .i64 ((k:Int)+1)=(k:Int)+1:=wrap_small _ (by omega) (by omega);obtain⟨x,hx⟩:∃ x,Z[k]?=some x:=⟨_,m7 (by omega)⟩;have y0:=HJ3.o.z.cells hx (j:=0) (v:=.I x.1.2.f.k) rfl;have y1:=HJ3.o.z.cells hx (j:=1) (v:=.I x.1.2.f.n) rfl;have y2:=HJ3.o.z.cells hx (j:=2) (v:=.I x.1.2.f.mn) rfl;have y3:=HJ3.o.z.cells hx (j:=3) (v:=.I x.1.2.f.mx) rfl;have y4:=HJ3.o.z.cells hx (j:=4) (v:=.slice x.1.2.f.rq x.1.2.f.rs.length x.1.2.f.rc) rfl;have y5:=HJ3.o.z.cells hx (j:=5) (v:=.slice x.1.2.f.kq x.1.2.f.kl x.1.2.f.kc) rfl;rw [aAR] at y0;have HSN:Hid (okR ⟨s,c,o,uB Z⟩ ((Z.drop i2).take (k+1-i2))=(P && !bdB ⟨s,c,o,uB Z⟩ x.1.2.f)):=aC (by rw [aX9 hk1 hx,HP.o]);have HNX:=aC (HNZ.o k x hx);go_upto_region 17 with fail
       have B4:Hid (wBl wr (wr.alloc (.cells (nDf x.1.2.f) 25))):=bz9;have N4:Hid (BoxN (wr.alloc (.cells (nDf x.1.2.f) 25)) wr.heap.size x.1.2.f):=aE wr _;have J4:=aC (HJ3.o.kept B4.o);generalize (wr.alloc (.cells (nDf x.1.2.f) 25))=w4 at B4 N4 J4 ⊢;clear y0 y1 y2 y3 y4 y5 y11 c0 hx B4 HJ3;generalize wr.heap.size=bn at N4 ⊢;obtain⟨n0,n1,n2,n3,n4,n5⟩:=N4.o.six;simp only [n7] at n1 n2 n3 n4 n5;have l1:bn<w4.heap.size:=aB N4.o;have l2:b<w4.heap.size:=aB J4.o.h;by_cases h8:x.1.2.f.k=8
       ·have HB:Hid (bdB ⟨s,c,o,uB Z⟩ x.1.2.f=true):=aC (by unfold bdB;rw [h8];rfl);have e8:(x.1.2.f.k==8)=true:=(by rw [h8];rfl);clear h8;clear n2 n3 n4 n5;refine wx9 ?_
        repeat (go_big_quiet_step (first | exact rfl))
        refine wpQuiet_nil ?_;intro w5 hw5;have J5:=aC (J4.o.kept (aP hw5));clear hw5;go_wp2;go_roundw
        case rel=>exact⟨k+1,false,by omega,by omega,(by rw [HSN.o,HB.o];simp),rfl,by go_num,J5.o⟩
        case measure=>simp only [intOf];omega
       ·have e8:(x.1.2.f.k==8)=false:=by simpa using h8
        by_cases h7:x.1.2.f.k=7
        ·have e7:(x.1.2.f.k==7)=true:=by rw [h7];rfl
         obtain⟨n,hn,hn1⟩:∃ n:Nat,x.1.2.f.n=(n:Int)/\1<=n:=by
          have hb:=HNX.o.2 h7;exact⟨x.1.2.f.n.toNat,by omega,by omega⟩
         have HB:Hid (bdB ⟨s,c,o,uB Z⟩ x.1.2.f=(decide ((n:Int)<10)&&uB Z n)):=aC (by unfold bdB kep;rw [e8,e7,hn];simp);rw [hn] at n1;clear h7 h8 hn;by_cases h10:(n:Int)<10
         ·rw [aAQ h10,aCP] at HB;have c4:w4.cell? ⟨b,4+n,none⟩=some (.bool (uB Z n)):=aA J4.o.h (bN7 (by omega));have in0:(0:Int)<=(n:Int):=(by omega);generalize uB Z n=U at HB c4
          cases U with
          | true=>
           clear n2 n3 n4 n5;refine wx9 ?_
           repeat (go_big_quiet_step (first | exact rfl))
           refine wpQuiet_nil ?_;intro w5 hw5;have J5:=aC (J4.o.kept (aP hw5));clear hw5;go_wp2;go_roundw
           case rel=>exact⟨k+1,false,by omega,by omega,(by rw [HSN.o,HB.o];simp),rfl,by go_num,J5.o⟩
           case measure=>simp only [intOf];omega
          | false=>
           clear n2 n3 n4 n5;refine wx9 ?_
           repeat (go_big_quiet_step (first | exact rfl))
           refine wpQuiet_nil ?_;intro w5 hw5;have J5:=aC (J4.o.kept (aP hw5));clear hw5;go_wp2;go_roundw
           case rel=>exact⟨k+1,P,by omega,by omega,(by rw [HSN.o,HB.o];simp),rfl,by go_num,J5.o⟩
           case measure=>simp only [intOf];omega
         ·rw [t6 h10,Bool.false_and] at HB;clear n2 n3 n4 n5;refine wx9 ?_
          repeat (go_big_quiet_step (first | exact rfl))
          refine wpQuiet_nil ?_;intro w5 hw5;have J5:=aC (J4.o.kept (aP hw5));clear hw5;go_wp2;go_roundw
          case rel=>exact⟨k+1,P,by omega,by omega,(by rw [HSN.o,HB.o];simp),rfl,by go_num,J5.o⟩
          case measure=>simp only [intOf];omega
        ·have e7:(x.1.2.f.k==7)=false:=by simpa using h7
         have HB:Hid (bdB ⟨s,c,o,uB Z⟩ x.1.2.f=false):=aC (by unfold bdB;rw [e8,e7];rfl);clear h7 h8;clear n2 n3 n4 n5;refine wx9 ?_
         repeat (go_big_quiet_step (first | exact rfl))
         refine wpQuiet_nil ?_;intro w5 hw5;have J5:=aC (J4.o.kept (aP hw5));clear hw5;go_wp2;go_roundw
         case rel=>exact⟨k+1,P,by omega,by omega,(by rw [HSN.o,HB.o];simp),rfl,by go_num,J5.o⟩
         case measure=>simp only [intOf];omega
      ·have k0:¬ (k:Int)<(T:Int):=by omega
       have HPL:Hid (P=plB ⟨s,c,o,uB Z⟩ z.1.2):=aC (by
        rw [HP.o,show k-i2=z.1.2.sz by have:=HT1.o;omega];exact bJ0 HMP.o HZ.o)
       have c14:wr.cell? (aDr b 14)=some (.slice (some (aDr gp 0)) Z.length Z.length):=aA HJ3.o.h rfl;have hfz:=HJ3.o.r.frz i2;obtain⟨d0,hd0⟩:∃ d0,wr.cell? (aDr gp i2)=some (.bool d0):=⟨_,HJ3.o.r.cell (m7 (by rw [HJ3.o.n];omega))⟩;have J6:=aC (HJ3.o.put HZ.o HPL.o);go_wp2;go_roundw
       case rel=>exact⟨i2+1,_,by omega,by go_num,J6.o⟩
       case measure=>simp only [intOf];omega
    ·have j0:¬ (i2:Int)<(Z.length:Int):=by omega
     go_wp2;go_ret;have hism:is.map Value.bool=Z.map fun z=>Value.bool (plB ⟨s,c,o,uB Z⟩ z.1.2):=by
      apply List.ext_getElem?;intro j;by_cases hj:j<Z.length
      ·rw [aBC,aBC,HJ.o.m j _ (by omega) (m7 hj),m7 hj]
       rfl
      ·rw [List.getElem?_eq_none (by rw [aAG,HJ.o.n];omega),List.getElem?_eq_none (by rw [aAG];omega)]
     have hno:∀ (j k:Nat),(List.replicate Z.length (none:Option Nat))[j]?=some (some k)->False:=fun j k h=>by
      have:=n8 h;simp at this
     refine⟨⟨t,⟨s,c,o,uB Z⟩,Z,w.heap.size,b,zb,zc,gp,Z.length,gr,Z.length⟩,List.replicate Z.length none,rfl,⟨HJ.o.h,HJ.o.z,?_,?_,fun i j k h _=>(hno i k h).elim,fun i k z h _=>(hno i k h).elim,hwb,HTA.o.kept HJ.o.bel,HFT.o,fun _=>by omega⟩,⟨HMP.o,HTO.o,hZ,hs,HNP.o⟩,rfl,rfl,rfl,rfl,rfl,HJ.o.bel⟩
     ·have:=HJ.o.r;unfold BR at this;rw [hism,HJ.o.n] at this;exact this
     ·have:=HJ.o.q;rw [show (List.replicate Z.length (none:Option Nat)).map (rwV s.size)=List.replicate Z.length (.slice none 0 0) by rw [List.map_replicate];rfl];exact this
end
section
attribute [local go_sem] Oper.semAt_some aT
def bU5(w:World)(s:ByteArray)(e:Ending)(w':World):Prop:=∃ (q:Option Addr) (c:Nat) (l:List Nat),e=.returned (.slice q l.length c)/\Ls12 w.heap.size w' q c l/\(∀ j∈l,j<=s.size)/\l.length<=s.size+1/\wBl w w'
theorem bS4(w:World):RsI w (some (aDr w.heap.size 0)) 1 [0] (w.alloc (.cells #[.I 0] 3)):=by
 refine⟨⟨by simp,.inr ⟨w.heap.size,1,#[.I 0],by simp,aAB _,aE w _,by simp,by unfold maxLen;omega,by simp,by simp⟩⟩,bz9⟩
theorem yC(s:ByteArray)(hs:s.size<=1000000)(w:World):Calls Tryz.prog 34 #[.string s] w (bU5 w s):=by
 have U1:=aC (bS4 w);go_enter Tryz.func34,Tryz.ntmps34;go_upto_region 3 with fail
 generalize (w.alloc (.cells #[.I 0] 3))=w1 at U1 ⊢;obtain⟨g,hg⟩:∃ g,w.heap.size=g:=⟨_,rfl⟩;have U2:Hid (RsI w (some (aDr g 0)) 1 [0] w1):=aC (by rw [<- hg];exact U1.o);rw [hg];clear U1 hg;go_loopw [3,4] (fun lv av wr=>∃ (a:Nat) (q:Option Addr) (cc:Nat) (l:List Nat),a<=s.size/\av=.I (a:Int)/\lv=.slice q l.length cc/\(∀ j∈l,j<=s.size)/\l.length<=a+1/\RsI w q cc l wr) (fun _ av _=>s.size-(intOf av).toNat)
 case atStart=>exact⟨0,some (aDr g 0),1,[0],by omega,rfl,rfl,by simp,by simp,U2.o⟩
 case round=>
  obtain⟨a,q,cc,l,ha,rfl,rfl,hj,hlen,hu⟩:=hrel;have HU:=aC hu;have HJ:=aC hj;clear hu hj;rename World=>wr;by_cases hal:a<s.size
  ·have i0:(a:Int)<(s.size:Int):=by omega
   have NX:=aC (aI9 s a wr hal (by omega));have hwp:=aT9 s a;have hwd:=(aU0 s a hal).2;obtain⟨cv,hcv⟩:∃ x,ch s a=x:=⟨_,rfl⟩;obtain⟨wv,hwv⟩:∃ x,wd s a=x:=⟨_,rfl⟩;rw [hcv,hwv] at NX;rw [hwv] at hwp hwd;clear hcv hwv;obtain⟨k,hk⟩:∃ k,a+wv=k:=⟨_,rfl⟩;have hk1:a<k:=(by omega);have hk2:k<=s.size:=(by omega);have hwr:IntKind.wrap .i64 ((a:Int)+(wv:Int))=(k:Int):=(by rw [wrap_small _ (by omega) (by omega)];omega);clear hk;go_upto_region 6 with (go_at_call 69;(with_reducible refine(NX.o).mono ?_);rintro e w5 ⟨rfl,h5⟩;have B5:=aC h5;clear h5)
   have U5:Hid (RsI w q cc l w5):=aC ⟨aH (S:=fun _=>False) HU.o.l (Fr.of_below B5.o) (fun _ _ q=>q),aJ HU.o.bel B5.o lz9⟩;clear HU B5;clear hwr hwp hwd;obtain⟨t0,hi,hz0,hz1,hz2⟩:=aW jH;have Y7:Hid ((w5.alloc (.cells #[.I (k:Int)] 3)).ownsRow w.heap.size 3 1 (.slice q l.length cc) l.length (l.map fun j:Nat=>.I (j:Int))):=o9 U5.o.l _;have HNEW:Hid (∀ j u,([.I (k:Int)]:List Value)[j]?=some u->(w5.alloc (.cells #[.I (k:Int)] 3)).cell? (((aDr w5.heap.size 0):Addr).add j)=some u):=bJ w5 [.I (k:Int)] _;have HB8:Hid (w.heap.size<=(w5.alloc (.cells #[.I (k:Int)] 3)).heap.size):=m9 U5.o.bel.size (by simp);go_wp2_with (at_builtin;refine wpList_append_own_at _ rfl _ _ 44 rfl w.heap.size 3 t0 (.I 0) 1 8 jE hi hz0 hz1 hz2 rfl (by decide) (.slice q l.length cc) l.length (l.map fun j:Nat=>.I (j:Int)) rfl Y7.o (aDr w5.heap.size 0) 1 1 [.I (k:Int)] rfl rfl HNEW.o (by simp [Value.oneCell']) (by unfold maxLen;omega) (by omega) HB8.o ?_;intro v' w6 hown' hgrow _ _;obtain⟨q6,c6,rfl⟩:=aR hown';have U6:=aC (U5.o.snoc hown' hgrow);clear hown' hgrow)
   go_roundw
   case rel=>exact⟨k,q6,c6,l++[k],hk2,rfl,by rw [o8];rfl,fun j hj=>(o5.1 hj).elim (HJ.o j) (fun e=>by rw [v9.1 e];exact hk2),by rw [o8];simp;omega,U6.o⟩
   case measure=>simp only [intOf];omega
  ·have i0:¬ (a:Int)<(s.size:Int):=by omega
   go_wp2;go_ret;exact⟨q,cc,l,rfl,HU.o.l,HJ.o,by omega,HU.o.bel⟩
theorem yM(s:ByteArray)(hs:s.size<=1000000)(c o:Bool)(w:World):Calls Tryz.prog 14 #[.string s,.agg #[.bool c,.bool o]] w (bU5 w s):=by
 have B0:Hid (wBl w (w.alloc (.cells #[.bool c,.bool o] 27))):=bz9;have c0:(w.alloc (.cells #[.bool c,.bool o] 27)).cell? (aDr w.heap.size 0)=some (.bool c):=aA (aE w _) rfl;go_enter Tryz.func14,Tryz.ntmps14;go_upto_region 1 with fail
 generalize (w.alloc (.cells #[.bool c,.bool o] 27))=w1 at B0 c0 ⊢
 cases c with
 | true=>
  have PL:=aC (yC s hs w1);go_wp2_with (go_at_call 34;(with_reducible refine(PL.o).mono ?_);rintro e w5 ⟨q,cc,l,rfl,h1,h2,h3,h4⟩;have R5:Hid (bU5 w s (.returned (.slice q l.length cc)) w5):=aC ⟨q,cc,l,rfl,bE h1 B0.o.size,h2,h3,aJ B0.o h4 lz9⟩;clear h1 h2 h3 h4)
  go_ret;exact R5.o
 | false=>
  have U1:Hid (RsI w none 0 [] w1):=aC ⟨aBH _ _ _ _,B0.o⟩;clear B0;go_upto_region 5 with fail
  go_loopw [5,6] (fun lv av wr=>∃ (a:Nat) (q:Option Addr) (cc:Nat) (l:List Nat),a<=s.size+1/\av=.I (a:Int)/\lv=.slice q l.length cc/\(∀ j∈l,j<=s.size)/\l.length<=a/\RsI w q cc l wr) (fun _ av _=>s.size+1-(intOf av).toNat)
  case atStart=>exact⟨0,none,0,[],by omega,rfl,rfl,by simp,by simp,U1.o⟩
  case round=>
   obtain⟨a,q,cc,l,ha,rfl,rfl,hj,hlen,hu⟩:=hrel;have HU:=aC hu;have HJ:=aC hj;clear hu hj U1;rename World=>wr;by_cases hal:a<=s.size
   ·have i0:(a:Int)<=(s.size:Int):=by omega
    have hw2:IntKind.wrap .i64 ((a:Int)+1)=(a:Int)+1:=wrap_small _ (by omega) (by omega);obtain⟨t0,hi,hz0,hz1,hz2⟩:=aW jH;have Y7:Hid ((wr.alloc (.cells #[.I (a:Int)] 3)).ownsRow w.heap.size 3 1 (.slice q l.length cc) l.length (l.map fun j:Nat=>.I (j:Int))):=o9 HU.o.l _;have HNEW:Hid (∀ j u,([.I (a:Int)]:List Value)[j]?=some u->(wr.alloc (.cells #[.I (a:Int)] 3)).cell? (((aDr wr.heap.size 0):Addr).add j)=some u):=bJ wr [.I (a:Int)] _;have HB8:Hid (w.heap.size<=(wr.alloc (.cells #[.I (a:Int)] 3)).heap.size):=m9 HU.o.bel.size (by simp);go_wp2_with (at_builtin;refine wpList_append_own_at _ rfl _ _ 44 rfl w.heap.size 3 t0 (.I 0) 1 8 jE hi hz0 hz1 hz2 rfl (by decide) (.slice q l.length cc) l.length (l.map fun j:Nat=>.I (j:Int)) rfl Y7.o (aDr wr.heap.size 0) 1 1 [.I (a:Int)] rfl rfl HNEW.o (by simp [Value.oneCell']) (by unfold maxLen;omega) (by omega) HB8.o ?_;intro v' w6 hown' hgrow _ _;obtain⟨q6,c6,rfl⟩:=aR hown';have U6:=aC (HU.o.snoc hown' hgrow);clear hown' hgrow)
    go_roundw
    case rel=>exact⟨a+1,q6,c6,l++[a],by omega,by go_num,by rw [o8];rfl,fun j hj=>(o5.1 hj).elim (HJ.o j) (fun e=>by rw [v9.1 e];exact hal),by rw [o8];simp;omega,U6.o⟩
    case measure=>simp only [intOf];omega
   ·have i0:¬ (a:Int)<=(s.size:Int):=by omega
    go_wp2;go_ret;exact⟨q,cc,l,rfl,HU.o.l,HJ.o,by omega,HU.o.bel⟩
def bX9(w:World)(s:ByteArray)(a:Int)(e:Ending)(w':World):Prop:=∃ r:Bool,e=.returned (.bool r)/\(r=true->0<=a/\a<=s.size)/\wBl w w'
theorem zC(s:ByteArray)(hs:s.size<=1000000)(a:Int)(c o:Bool)(w:World):Calls Tryz.prog 17 #[.string s,.I a,.agg #[.bool c,.bool o]] w (bX9 w s a):=by
 have B0:Hid (wBl w (w.alloc (.cells #[.bool c,.bool o] 27))):=bz9;have c0:(w.alloc (.cells #[.bool c,.bool o] 27)).cell? (aDr w.heap.size 0)=some (.bool c):=aA (aE w _) rfl;have c1:(w.alloc (.cells #[.bool c,.bool o] 27)).cell? (aDr w.heap.size 1)=some (.bool o):=aA (aE w _) rfl;go_enter Tryz.func17,Tryz.ntmps17;go_upto_region 1 with fail
 generalize (w.alloc (.cells #[.bool c,.bool o] 27))=w1 at B0 c0 c1 ⊢;have PL:=aC (yM s hs c o w1);go_upto_region 3 with (go_at_call 14;(with_reducible refine(PL.o).mono ?_);rintro e w5 ⟨q,cc,l,rfl,h1,h2,h3,h4⟩;have L5:=aC h1;have J5:=aC h2;have B5:=aC (aJ B0.o h4 lz9);have hll:=h3;clear h1 h2 h3 h4)
 clear c0 c1 B0;go_loopw [8] (fun iv wr=>∃ k:Nat,k<=l.length/\iv=.I (k:Int)/\wr=w5) (fun iv _=>l.length-(intOf iv).toNat)
 case atStart=>exact⟨0,r9 _,rfl,rfl⟩
 case round=>
  obtain⟨k,hk,rfl,rfl⟩:=hrel;by_cases hkl:k<l.length
  ·have i0:(k:Int)<(l.length:Int):=by omega
   have hw2:IntKind.wrap .i64 ((k:Int)+1)=(k:Int)+1:=wrap_small _ (by omega) (by omega);obtain⟨x,hx⟩:∃ x,l[k]?=some x:=⟨_,m7 hkl⟩;have hxs:=J5.o x (n8 hx);obtain⟨g,c',e⟩:=aL L5.o (by omega);injection e with e1 _ _;subst e1;have y0:=aM L5.o (j:=k) (u:=.I (x:Int)) (by simp [hx]);clear hx;by_cases hax:(x:Int)=a
   ·go_wp2;go_ret;exact⟨true,rfl,fun _=>by omega,B5.o⟩
   ·go_wp2;go_roundw
    case rel=>exact⟨k+1,by omega,by go_num,by first | rfl | trivial⟩
    case measure=>simp only [intOf];omega
  ·have i0:¬ (k:Int)<(l.length:Int):=by omega
   go_wp2;go_ret;exact⟨false,rfl,fun e=>(by cases e),B5.o⟩
end
theorem bR0(k:Int)(w:World):Calls Tryz.prog 85 #[.I k] w fun e w'=>e=.returned (.bool (bX k))/\w'=w:=by
 have hid:∀ b,bX k=b->Calls Tryz.prog 85 #[.I k] w fun e w'=>e=.returned (.bool b)/\w'=w:=by
  intro b hb;by_cases h2:k=2
  ·have e2:(k==2)=true:=by simpa using h2
   have hB:b=true:=by rw [<- hb];simp [bX,h2]
   subst hB;clear h2 hb;go_enter Tryz.func85,Tryz.ntmps85;go_wp2;go_ret;exact⟨rfl,rfl⟩
  have e2:(k==2)=false:=by simpa using h2
  by_cases h7:k=7
  ·have e7:(k==7)=true:=by simpa using h7
   have hB:b=true:=by rw [<- hb];simp [bX,h7]
   subst hB;clear h2 h7 hb;go_enter Tryz.func85,Tryz.ntmps85;go_wp2;go_ret;exact⟨rfl,rfl⟩
  have e7:(k==7)=false:=by simpa using h7
  by_cases h8:k=8
  ·have e8:(k==8)=true:=by simpa using h8
   have hB:b=true:=by rw [<- hb];simp [bX,h8]
   subst hB;clear h2 h7 h8 hb;go_enter Tryz.func85,Tryz.ntmps85;go_wp2;go_ret;exact⟨rfl,rfl⟩
  have e8:(k==8)=false:=by simpa using h8
  by_cases h9:k=9
  ·have e9:(k==9)=true:=by simpa using h9
   have hB:b=true:=by rw [<- hb];simp [bX,h9]
   subst hB;clear h2 h7 h8 h9 hb;go_enter Tryz.func85,Tryz.ntmps85;go_wp2;go_ret;exact⟨rfl,rfl⟩
  have e9:(k==9)=false:=by simpa using h9
  have hB:b=false:=by rw [<- hb];simp [bX,h2,h7,h8,h9]
  subst hB;clear h2 h7 h8 h9 hb;go_enter Tryz.func85,Tryz.ntmps85;go_wp2;go_ret;exact⟨rfl,rfl⟩
 exact hid _ rfl
theorem bI6(a b:Int)(w:World):Calls Tryz.prog 49 #[.I a,.I b] w fun e w'=>e=.returned (.bool (fI a b))/\w'=w:=by
 have hid:∀ r,fI a b=r->Calls Tryz.prog 49 #[.I a,.I b] w fun e w'=>e=.returned (.bool r)/\w'=w:=by
  intro r hr;by_cases h1:(0:Int)<=a
  case neg=>
   have hB:r=false:=by rw [<- hr];simp [fI];omega
   subst hB;clear hr;go_enter Tryz.func49,Tryz.ntmps49;go_wp2;go_ret;exact⟨rfl,rfl⟩
  by_cases h2:a<=255
  case neg=>
   have hB:r=false:=by rw [<- hr];simp [fI];omega
   subst hB;clear hr;go_enter Tryz.func49,Tryz.ntmps49;go_wp2;go_ret;exact⟨rfl,rfl⟩
  by_cases h3:b=-1
  ·have e3:(b==-1)=true:=by simpa using h3
   have hB:r=true:=by rw [<- hr];simp [fI];omega
   subst hB;clear hr;go_enter Tryz.func49,Tryz.ntmps49;go_wp2;go_ret;exact⟨rfl,rfl⟩
  have e3:(b==-1)=false:=by simpa using h3
  by_cases h4:a<=b
  case neg=>
   have hB:r=false:=by rw [<- hr];simp [fI];omega
   subst hB;clear hr;go_enter Tryz.func49,Tryz.ntmps49;go_wp2;go_ret;exact⟨rfl,rfl⟩
  by_cases h5:b<=255
  case neg=>
   have hB:r=false:=by rw [<- hr];simp [fI];omega
   subst hB;clear hr;go_enter Tryz.func49,Tryz.ntmps49;go_wp2;go_ret;exact⟨rfl,rfl⟩
  have hB:r=true:=by rw [<- hr];simp [fI];omega
  subst hB;clear hr;go_enter Tryz.func49,Tryz.ntmps49;go_wp2;go_ret;exact⟨rfl,rfl⟩
 exact hid _ rfl
theorem aP0(F:Fl)(w:World):Calls Tryz.prog 45 #[.agg (nDf F),.bool false,.bool false,.bool false,.bool false] w fun e w'=>e=.returned (.bool (decide (F.n=0/\F.mn=0/\F.mx=0/\F.rs.length=0/\F.kl=0)))/\wBl w w':=by
 have N1:BoxN (w.alloc (.cells (nDf F) 25)) w.heap.size F:=aE w _;have B1:Hid (wBl w (w.alloc (.cells (nDf F) 25))):=bz9;obtain⟨c0,c1,c2,c3,c4,c5⟩:=N1.six;simp only [n7] at c1 c2 c3 c4 c5;clear N1;have hid:∀ r,decide (F.n=0/\F.mn=0/\F.mx=0/\F.rs.length=0/\F.kl=0)=r->Calls Tryz.prog 45 #[.agg (nDf F),.bool false,.bool false,.bool false,.bool false] w fun e w'=>e=.returned (.bool r)/\wBl w w':=by
  intro r hr0;by_cases hn:F.n=0
  case neg=>
   have ehn:(F.n==0)=false:=n6.2 (by omega);have hB:r=false:=(by rw [<- hr0];exact t6 (by omega));clear hn;subst hB;clear hr0;go_enter Tryz.func45,Tryz.ntmps45;go_wp2;go_ret;exact⟨rfl,B1.o⟩
  have ehn:(F.n==0)=true:=beq_iff_eq.2 (by omega);have Hhn:=aC hn;clear hn;by_cases hm:F.mn=0
  case neg=>
   have ehm:(F.mn==0)=false:=n6.2 (by omega);have hB:r=false:=(by rw [<- hr0];exact t6 (by omega));clear hm;subst hB;clear hr0;go_enter Tryz.func45,Tryz.ntmps45;go_wp2;go_ret;exact⟨rfl,B1.o⟩
  have ehm:(F.mn==0)=true:=beq_iff_eq.2 (by omega);have Hhm:=aC hm;clear hm;by_cases hx:F.mx=0
  case neg=>
   have ehx:(F.mx==0)=false:=n6.2 (by omega);have hB:r=false:=(by rw [<- hr0];exact t6 (by omega));clear hx;subst hB;clear hr0;go_enter Tryz.func45,Tryz.ntmps45;go_wp2;go_ret;exact⟨rfl,B1.o⟩
  have ehx:(F.mx==0)=true:=beq_iff_eq.2 (by omega);have Hhx:=aC hx;clear hx;by_cases hr:F.rs.length=0
  case neg=>
   have ehr:((F.rs.length:Int)==0)=false:=n6.2 (by omega);have hB:r=false:=(by rw [<- hr0];exact t6 (by omega));clear hr;subst hB;clear hr0;go_enter Tryz.func45,Tryz.ntmps45;go_wp2;go_ret;exact⟨rfl,B1.o⟩
  have ehr:((F.rs.length:Int)==0)=true:=beq_iff_eq.2 (by omega);have Hhr:=aC hr;clear hr;by_cases hk:F.kl=0
  case neg=>
   have ehk:((F.kl:Int)==0)=false:=n6.2 (by omega);have hB:r=false:=(by rw [<- hr0];exact t6 (by omega));clear hk;subst hB;clear hr0;go_enter Tryz.func45,Tryz.ntmps45;go_wp2;go_ret;exact⟨rfl,B1.o⟩
  have ehk:((F.kl:Int)==0)=true:=beq_iff_eq.2 (by omega);have Hhk:=aC hk;clear hk;have hB:r=true:=by rw [<- hr0];exact aAQ (by have:=Hhn.o;have:=Hhm.o;have:=Hhx.o;have:=Hhr.o;have:=Hhk.o;omega)
  subst hB;clear hr0;go_enter Tryz.func45,Tryz.ntmps45;go_wp2;go_ret;exact⟨rfl,B1.o⟩
 exact hid _ rfl
theorem aO8(F:Fl)(w:World):Calls Tryz.prog 45 #[.agg (nDf F),.bool false,.bool false,.bool true,.bool false] w fun e w'=>e=.returned (.bool (decide (F.n=0/\F.mn=0/\F.mx=0/\F.kl=0)))/\wBl w w':=by
 have N1:BoxN (w.alloc (.cells (nDf F) 25)) w.heap.size F:=aE w _;have B1:Hid (wBl w (w.alloc (.cells (nDf F) 25))):=bz9;obtain⟨c0,c1,c2,c3,c4,c5⟩:=N1.six;simp only [n7] at c1 c2 c3 c4 c5;clear N1;have hid:∀ r,decide (F.n=0/\F.mn=0/\F.mx=0/\F.kl=0)=r->Calls Tryz.prog 45 #[.agg (nDf F),.bool false,.bool false,.bool true,.bool false] w fun e w'=>e=.returned (.bool r)/\wBl w w':=by
  intro r hr0;by_cases hn:F.n=0
  case neg=>
   have ehn:(F.n==0)=false:=n6.2 (by omega);have hB:r=false:=(by rw [<- hr0];exact t6 (by omega));clear hn;subst hB;clear hr0;go_enter Tryz.func45,Tryz.ntmps45;go_wp2;go_ret;exact⟨rfl,B1.o⟩
  have ehn:(F.n==0)=true:=beq_iff_eq.2 (by omega);have Hhn:=aC hn;clear hn;by_cases hm:F.mn=0
  case neg=>
   have ehm:(F.mn==0)=false:=n6.2 (by omega);have hB:r=false:=(by rw [<- hr0];exact t6 (by omega));clear hm;subst hB;clear hr0;go_enter Tryz.func45,Tryz.ntmps45;go_wp2;go_ret;exact⟨rfl,B1.o⟩
  have ehm:(F.mn==0)=true:=beq_iff_eq.2 (by omega);have Hhm:=aC hm;clear hm;by_cases hx:F.mx=0
  case neg=>
   have ehx:(F.mx==0)=false:=n6.2 (by omega);have hB:r=false:=(by rw [<- hr0];exact t6 (by omega));clear hx;subst hB;clear hr0;go_enter Tryz.func45,Tryz.ntmps45;go_wp2;go_ret;exact⟨rfl,B1.o⟩
  have ehx:(F.mx==0)=true:=beq_iff_eq.2 (by omega);have Hhx:=aC hx;clear hx;by_cases hk:F.kl=0
  case neg=>
   have ehk:((F.kl:Int)==0)=false:=n6.2 (by omega);have hB:r=false:=(by rw [<- hr0];exact t6 (by omega));clear hk;subst hB;clear hr0;go_enter Tryz.func45,Tryz.ntmps45;go_wp2;go_ret;exact⟨rfl,B1.o⟩
  have ehk:((F.kl:Int)==0)=true:=beq_iff_eq.2 (by omega);have Hhk:=aC hk;clear hk;have hB:r=true:=by rw [<- hr0];exact aAQ (by have:=Hhn.o;have:=Hhm.o;have:=Hhx.o;have:=Hhk.o;omega)
  subst hB;clear hr0;go_enter Tryz.func45,Tryz.ntmps45;go_wp2;go_ret;exact⟨rfl,B1.o⟩
 exact hid _ rfl
theorem aO9(F:Fl)(w:World):Calls Tryz.prog 45 #[.agg (nDf F),.bool false,.bool false,.bool false,.bool true] w fun e w'=>e=.returned (.bool (decide (F.n=0/\F.mn=0/\F.mx=0/\F.rs.length=0)))/\wBl w w':=by
 have N1:BoxN (w.alloc (.cells (nDf F) 25)) w.heap.size F:=aE w _;have B1:Hid (wBl w (w.alloc (.cells (nDf F) 25))):=bz9;obtain⟨c0,c1,c2,c3,c4,c5⟩:=N1.six;simp only [n7] at c1 c2 c3 c4 c5;clear N1;have hid:∀ r,decide (F.n=0/\F.mn=0/\F.mx=0/\F.rs.length=0)=r->Calls Tryz.prog 45 #[.agg (nDf F),.bool false,.bool false,.bool false,.bool true] w fun e w'=>e=.returned (.bool r)/\wBl w w':=by
  intro r hr0;by_cases hn:F.n=0
  case neg=>
   have ehn:(F.n==0)=false:=n6.2 (by omega);have hB:r=false:=(by rw [<- hr0];exact t6 (by omega));clear hn;subst hB;clear hr0;go_enter Tryz.func45,Tryz.ntmps45;go_wp2;go_ret;exact⟨rfl,B1.o⟩
  have ehn:(F.n==0)=true:=beq_iff_eq.2 (by omega);have Hhn:=aC hn;clear hn;by_cases hm:F.mn=0
  case neg=>
   have ehm:(F.mn==0)=false:=n6.2 (by omega);have hB:r=false:=(by rw [<- hr0];exact t6 (by omega));clear hm;subst hB;clear hr0;go_enter Tryz.func45,Tryz.ntmps45;go_wp2;go_ret;exact⟨rfl,B1.o⟩
  have ehm:(F.mn==0)=true:=beq_iff_eq.2 (by omega);have Hhm:=aC hm;clear hm;by_cases hx:F.mx=0
  case neg=>
   have ehx:(F.mx==0)=false:=n6.2 (by omega);have hB:r=false:=(by rw [<- hr0];exact t6 (by omega));clear hx;subst hB;clear hr0;go_enter Tryz.func45,Tryz.ntmps45;go_wp2;go_ret;exact⟨rfl,B1.o⟩
  have ehx:(F.mx==0)=true:=beq_iff_eq.2 (by omega);have Hhx:=aC hx;clear hx;by_cases hr:F.rs.length=0
  case neg=>
   have ehr:((F.rs.length:Int)==0)=false:=n6.2 (by omega);have hB:r=false:=(by rw [<- hr0];exact t6 (by omega));clear hr;subst hB;clear hr0;go_enter Tryz.func45,Tryz.ntmps45;go_wp2;go_ret;exact⟨rfl,B1.o⟩
  have ehr:((F.rs.length:Int)==0)=true:=beq_iff_eq.2 (by omega);have Hhr:=aC hr;clear hr;have hB:r=true:=by rw [<- hr0];exact aAQ (by have:=Hhn.o;have:=Hhm.o;have:=Hhx.o;have:=Hhr.o;omega)
  subst hB;clear hr0;go_enter Tryz.func45,Tryz.ntmps45;go_wp2;go_ret;exact⟨rfl,B1.o⟩
 exact hid _ rfl
theorem aO5(F:Fl)(w:World):Calls Tryz.prog 45 #[.agg (nDf F),.bool true,.bool false,.bool false,.bool true] w fun e w'=>e=.returned (.bool (decide (F.mn=0/\F.mx=0/\F.rs.length=0)))/\wBl w w':=by
 have N1:BoxN (w.alloc (.cells (nDf F) 25)) w.heap.size F:=aE w _;have B1:Hid (wBl w (w.alloc (.cells (nDf F) 25))):=bz9;obtain⟨c0,c1,c2,c3,c4,c5⟩:=N1.six;simp only [n7] at c1 c2 c3 c4 c5;clear N1;have hid:∀ r,decide (F.mn=0/\F.mx=0/\F.rs.length=0)=r->Calls Tryz.prog 45 #[.agg (nDf F),.bool true,.bool false,.bool false,.bool true] w fun e w'=>e=.returned (.bool r)/\wBl w w':=by
  intro r hr0;by_cases hm:F.mn=0
  case neg=>
   have ehm:(F.mn==0)=false:=n6.2 (by omega);have hB:r=false:=(by rw [<- hr0];exact t6 (by omega));clear hm;subst hB;clear hr0;go_enter Tryz.func45,Tryz.ntmps45;go_wp2;go_ret;exact⟨rfl,B1.o⟩
  have ehm:(F.mn==0)=true:=beq_iff_eq.2 (by omega);have Hhm:=aC hm;clear hm;by_cases hx:F.mx=0
  case neg=>
   have ehx:(F.mx==0)=false:=n6.2 (by omega);have hB:r=false:=(by rw [<- hr0];exact t6 (by omega));clear hx;subst hB;clear hr0;go_enter Tryz.func45,Tryz.ntmps45;go_wp2;go_ret;exact⟨rfl,B1.o⟩
  have ehx:(F.mx==0)=true:=beq_iff_eq.2 (by omega);have Hhx:=aC hx;clear hx;by_cases hr:F.rs.length=0
  case neg=>
   have ehr:((F.rs.length:Int)==0)=false:=n6.2 (by omega);have hB:r=false:=(by rw [<- hr0];exact t6 (by omega));clear hr;subst hB;clear hr0;go_enter Tryz.func45,Tryz.ntmps45;go_wp2;go_ret;exact⟨rfl,B1.o⟩
  have ehr:((F.rs.length:Int)==0)=true:=beq_iff_eq.2 (by omega);have Hhr:=aC hr;clear hr;have hB:r=true:=by rw [<- hr0];exact aAQ (by have:=Hhm.o;have:=Hhx.o;have:=Hhr.o;omega)
  subst hB;clear hr0;go_enter Tryz.func45,Tryz.ntmps45;go_wp2;go_ret;exact⟨rfl,B1.o⟩
 exact hid _ rfl
theorem aO6(F:Fl)(w:World):Calls Tryz.prog 45 #[.agg (nDf F),.bool true,.bool false,.bool false,.bool false] w fun e w'=>e=.returned (.bool (decide (F.mn=0/\F.mx=0/\F.rs.length=0/\F.kl=0)))/\wBl w w':=by
 have N1:BoxN (w.alloc (.cells (nDf F) 25)) w.heap.size F:=aE w _;have B1:Hid (wBl w (w.alloc (.cells (nDf F) 25))):=bz9;obtain⟨c0,c1,c2,c3,c4,c5⟩:=N1.six;simp only [n7] at c1 c2 c3 c4 c5;clear N1;have hid:∀ r,decide (F.mn=0/\F.mx=0/\F.rs.length=0/\F.kl=0)=r->Calls Tryz.prog 45 #[.agg (nDf F),.bool true,.bool false,.bool false,.bool false] w fun e w'=>e=.returned (.bool r)/\wBl w w':=by
  intro r hr0;by_cases hm:F.mn=0
  case neg=>
   have ehm:(F.mn==0)=false:=n6.2 (by omega);have hB:r=false:=(by rw [<- hr0];exact t6 (by omega));clear hm;subst hB;clear hr0;go_enter Tryz.func45,Tryz.ntmps45;go_wp2;go_ret;exact⟨rfl,B1.o⟩
  have ehm:(F.mn==0)=true:=beq_iff_eq.2 (by omega);have Hhm:=aC hm;clear hm;by_cases hx:F.mx=0
  case neg=>
   have ehx:(F.mx==0)=false:=n6.2 (by omega);have hB:r=false:=(by rw [<- hr0];exact t6 (by omega));clear hx;subst hB;clear hr0;go_enter Tryz.func45,Tryz.ntmps45;go_wp2;go_ret;exact⟨rfl,B1.o⟩
  have ehx:(F.mx==0)=true:=beq_iff_eq.2 (by omega);have Hhx:=aC hx;clear hx;by_cases hr:F.rs.length=0
  case neg=>
   have ehr:((F.rs.length:Int)==0)=false:=n6.2 (by omega);have hB:r=false:=(by rw [<- hr0];exact t6 (by omega));clear hr;subst hB;clear hr0;go_enter Tryz.func45,Tryz.ntmps45;go_wp2;go_ret;exact⟨rfl,B1.o⟩
  have ehr:((F.rs.length:Int)==0)=true:=beq_iff_eq.2 (by omega);have Hhr:=aC hr;clear hr;by_cases hk:F.kl=0
  case neg=>
   have ehk:((F.kl:Int)==0)=false:=n6.2 (by omega);have hB:r=false:=(by rw [<- hr0];exact t6 (by omega));clear hk;subst hB;clear hr0;go_enter Tryz.func45,Tryz.ntmps45;go_wp2;go_ret;exact⟨rfl,B1.o⟩
  have ehk:((F.kl:Int)==0)=true:=beq_iff_eq.2 (by omega);have Hhk:=aC hk;clear hk;have hB:r=true:=by rw [<- hr0];exact aAQ (by have:=Hhm.o;have:=Hhx.o;have:=Hhr.o;have:=Hhk.o;omega)
  subst hB;clear hr0;go_enter Tryz.func45,Tryz.ntmps45;go_wp2;go_ret;exact⟨rfl,B1.o⟩
 exact hid _ rfl
theorem aO7(F:Fl)(w:World):Calls Tryz.prog 45 #[.agg (nDf F),.bool false,.bool true,.bool false,.bool true] w fun e w'=>e=.returned (.bool (decide (F.n=0/\F.rs.length=0)))/\wBl w w':=by
 have N1:BoxN (w.alloc (.cells (nDf F) 25)) w.heap.size F:=aE w _;have B1:Hid (wBl w (w.alloc (.cells (nDf F) 25))):=bz9;obtain⟨c0,c1,c2,c3,c4,c5⟩:=N1.six;simp only [n7] at c1 c2 c3 c4 c5;clear N1;have hid:∀ r,decide (F.n=0/\F.rs.length=0)=r->Calls Tryz.prog 45 #[.agg (nDf F),.bool false,.bool true,.bool false,.bool true] w fun e w'=>e=.returned (.bool r)/\wBl w w':=by
  intro r hr0;by_cases hn:F.n=0
  case neg=>
   have ehn:(F.n==0)=false:=n6.2 (by omega);have hB:r=false:=(by rw [<- hr0];exact t6 (by omega));clear hn;subst hB;clear hr0;go_enter Tryz.func45,Tryz.ntmps45;go_wp2;go_ret;exact⟨rfl,B1.o⟩
  have ehn:(F.n==0)=true:=beq_iff_eq.2 (by omega);have Hhn:=aC hn;clear hn;by_cases hr:F.rs.length=0
  case neg=>
   have ehr:((F.rs.length:Int)==0)=false:=n6.2 (by omega);have hB:r=false:=(by rw [<- hr0];exact t6 (by omega));clear hr;subst hB;clear hr0;go_enter Tryz.func45,Tryz.ntmps45;go_wp2;go_ret;exact⟨rfl,B1.o⟩
  have ehr:((F.rs.length:Int)==0)=true:=beq_iff_eq.2 (by omega);have Hhr:=aC hr;clear hr;have hB:r=true:=by rw [<- hr0];exact aAQ (by have:=Hhn.o;have:=Hhr.o;omega)
  subst hB;clear hr0;go_enter Tryz.func45,Tryz.ntmps45;go_wp2;go_ret;exact⟨rfl,B1.o⟩
 exact hid _ rfl
theorem bH6(p:Way)(t:Tr)(o:Nat)(w:World):Calls Tryz.prog 44 #[.agg #[.I t.f.k,.I t.f.n,.I t.f.mn,.I t.f.mx,.slice t.f.rq t.f.rs.length t.f.rc,.slice t.f.kq t.f.kl t.f.kc,.I ((p.length:Int)+1),.I (arP p),.bool (fiP p),.bool (laP p),.bool (brP p),.I (o:Int)]] w fun e w'=>e=.returned (.bool (mC p t.f.k))/\wBl w w':=by
 have N1:(w.alloc (.cells #[.I t.f.k,.I t.f.n,.I t.f.mn,.I t.f.mx,.slice t.f.rq t.f.rs.length t.f.rc,.slice t.f.kq t.f.kl t.f.kc,.I ((p.length:Int)+1),.I (arP p),.bool (fiP p),.bool (laP p),.bool (brP p),.I (o:Int)] 62)).heap[w.heap.size]?=some (.cells #[.I t.f.k,.I t.f.n,.I t.f.mn,.I t.f.mx,.slice t.f.rq t.f.rs.length t.f.rc,.slice t.f.kq t.f.kl t.f.kc,.I ((p.length:Int)+1),.I (arP p),.bool (fiP p),.bool (laP p),.bool (brP p),.I (o:Int)] 62 (0,0)):=aE w _;have B1:Hid (wBl w (w.alloc (.cells #[.I t.f.k,.I t.f.n,.I t.f.mn,.I t.f.mx,.slice t.f.rq t.f.rs.length t.f.rc,.slice t.f.kq t.f.kl t.f.kc,.I ((p.length:Int)+1),.I (arP p),.bool (fiP p),.bool (laP p),.bool (brP p),.I (o:Int)] 62))):=bz9;have hid:∀ (k ar:Int) (fi la br:Bool) (r:Bool),(if ar=5 then (if k=3 then br&&fi else if k=4 then br&&la else bX k) else if ar=9 then bX k else if ar=6 then k != 6 else true)=r->(w.alloc (.cells #[.I t.f.k,.I t.f.n,.I t.f.mn,.I t.f.mx,.slice t.f.rq t.f.rs.length t.f.rc,.slice t.f.kq t.f.kl t.f.kc,.I ((p.length:Int)+1),.I (arP p),.bool (fiP p),.bool (laP p),.bool (brP p),.I (o:Int)] 62)).cell? (aDr w.heap.size 0)=some (.I k)->(w.alloc (.cells #[.I t.f.k,.I t.f.n,.I t.f.mn,.I t.f.mx,.slice t.f.rq t.f.rs.length t.f.rc,.slice t.f.kq t.f.kl t.f.kc,.I ((p.length:Int)+1),.I (arP p),.bool (fiP p),.bool (laP p),.bool (brP p),.I (o:Int)] 62)).cell? (aDr w.heap.size 7)=some (.I ar)->(w.alloc (.cells #[.I t.f.k,.I t.f.n,.I t.f.mn,.I t.f.mx,.slice t.f.rq t.f.rs.length t.f.rc,.slice t.f.kq t.f.kl t.f.kc,.I ((p.length:Int)+1),.I (arP p),.bool (fiP p),.bool (laP p),.bool (brP p),.I (o:Int)] 62)).cell? (aDr w.heap.size 8)=some (.bool fi)->(w.alloc (.cells #[.I t.f.k,.I t.f.n,.I t.f.mn,.I t.f.mx,.slice t.f.rq t.f.rs.length t.f.rc,.slice t.f.kq t.f.kl t.f.kc,.I ((p.length:Int)+1),.I (arP p),.bool (fiP p),.bool (laP p),.bool (brP p),.I (o:Int)] 62)).cell? (aDr w.heap.size 9)=some (.bool la)->(w.alloc (.cells #[.I t.f.k,.I t.f.n,.I t.f.mn,.I t.f.mx,.slice t.f.rq t.f.rs.length t.f.rc,.slice t.f.kq t.f.kl t.f.kc,.I ((p.length:Int)+1),.I (arP p),.bool (fiP p),.bool (laP p),.bool (brP p),.I (o:Int)] 62)).cell? (aDr w.heap.size 10)=some (.bool br)->Calls Tryz.prog 44 #[.agg #[.I t.f.k,.I t.f.n,.I t.f.mn,.I t.f.mx,.slice t.f.rq t.f.rs.length t.f.rc,.slice t.f.kq t.f.kl t.f.kc,.I ((p.length:Int)+1),.I (arP p),.bool (fiP p),.bool (laP p),.bool (brP p),.I (o:Int)]] w fun e w'=>e=.returned (.bool r)/\wBl w w':=by
  intro k ar fi la br r hr x0 x7 x8 x9 x10;have TH:=aC (fun W=>bR0 k W);obtain⟨th,hth⟩:∃ th,bX k=th:=⟨_,rfl⟩;rw [hth] at TH hr;clear N1 hth;by_cases a5:ar=5
  ·by_cases k3:k=3
   ·have e5:(ar==5)=true:=by simpa using a5
    have e3:(k==3)=true:=(by simpa using k3);rw [if_pos a5,if_pos k3] at hr;clear a5 k3;cases br <;> cases fi
    all_goals (subst hr;go_enter Tryz.func44,Tryz.ntmps44;go_wp2_with (go_at_call 85;(with_reducible refine(TH.o _).mono ?_);rintro e w5 ⟨rfl,h5⟩;subst w5);go_ret;exact⟨rfl,B1.o⟩)
   by_cases k4:k=4
   ·have e5:(ar==5)=true:=by simpa using a5
    have e3:(k==3)=false:=(by simpa using k3);have e4:(k==4)=true:=(by simpa using k4);rw [if_pos a5,if_neg k3,if_pos k4] at hr;clear a5 k3 k4;cases br <;> cases la
    all_goals (subst hr;go_enter Tryz.func44,Tryz.ntmps44;go_wp2_with (go_at_call 85;(with_reducible refine(TH.o _).mono ?_);rintro e w5 ⟨rfl,h5⟩;subst w5);go_ret;exact⟨rfl,B1.o⟩)
   have e5:(ar==5)=true:=by simpa using a5
   have e3:(k==3)=false:=by simpa using k3
   have e4:(k==4)=false:=by simpa using k4
   rw [if_pos a5,if_neg k3,if_neg k4] at hr;clear a5 k3 k4;subst hr;go_enter Tryz.func44,Tryz.ntmps44;go_wp2_with (go_at_call 85;(with_reducible refine(TH.o _).mono ?_);rintro e w5 ⟨rfl,h5⟩;subst w5)
   go_ret;exact⟨rfl,B1.o⟩
  have e5:(ar==5)=false:=by simpa using a5
  rw [if_neg a5] at hr;by_cases a9:ar=9
  ·have e9:(ar==9)=true:=by simpa using a9
   rw [if_pos a9] at hr;clear a5 a9;subst hr;go_enter Tryz.func44,Tryz.ntmps44;go_wp2_with (go_at_call 85;(with_reducible refine(TH.o _).mono ?_);rintro e w5 ⟨rfl,h5⟩;subst w5)
   go_ret;exact⟨rfl,B1.o⟩
  have e9:(ar==9)=false:=by simpa using a9
  rw [if_neg a9] at hr;by_cases a6:ar=6
  ·have e6:(ar==6)=true:=by simpa using a6
   rw [if_pos a6] at hr;clear a5 a9 a6;subst hr;go_enter Tryz.func44,Tryz.ntmps44;go_wp2_with (go_at_call 85;(with_reducible refine(TH.o _).mono ?_);rintro e w5 ⟨rfl,h5⟩;subst w5)
   go_ret;exact⟨rfl,B1.o⟩
  have e6:(ar==6)=false:=by simpa using a6
  rw [if_neg a6] at hr;clear a5 a9 a6;subst hr;go_enter Tryz.func44,Tryz.ntmps44;go_wp2_with (go_at_call 85;(with_reducible refine(TH.o _).mono ?_);rintro e w5 ⟨rfl,h5⟩;subst w5)
  go_ret;exact⟨rfl,B1.o⟩
 exact hid t.f.k (arP p) (fiP p) (laP p) (brP p) _ rfl (aA N1 (i:=0) rfl) (aA N1 (i:=7) rfl) (aA N1 (i:=8) rfl) (aA N1 (i:=9) rfl) (aA N1 (i:=10) rfl)
structure Srt(S:lIi):Prop where
 some:∀ r∈S,r.1<=r.2
 rise:S.Pairwise (fun a b=>a.1<=b.1)
theorem vY:Srt []:=⟨fun _ h=>(by cases h),List.Pairwise.nil⟩
theorem xW{r:Int×Int}{L:lIi}(h:Srt (r :: L)):Srt L:=⟨fun x hx=>h.some x (t7 _ hx),(aBD.1 h.rise).2⟩
theorem vZ{O L:lIi}(h:Srt O)(k:Srt L)(hx:∀ x∈O,∀ y∈L,x.1<=y.1):Srt (O++L):=
 ⟨fun r hr=>(o5.1 hr).elim (h.some r) (k.some r),List.pairwise_append.2 ⟨h.rise,k.rise,hx⟩⟩
theorem vX{r:Int×Int}(h:r.1<=r.2):Srt [r]:=⟨fun x hx=>by simp at hx;subst hx;exact h,List.pairwise_singleton _ _⟩
structure MI(A B A' B' O:lIi):Prop where
 out:Srt O
 a:Srt A'
 b:Srt B'
 mem:∀ c,(In O c\/In A' c\/In B' c)↔(In A c\/In B c)
 le:∀ x∈O,∀ y,y∈A'\/y∈B'->x.1<=y.1
 fit:Fit O/\Fit A'/\Fit B'
 len:O.length+A'.length+B'.length<=A.length+B.length
theorem MI.start{A B:lIi}(ha:Srt A)(hb:Srt B)(fa:Fit A)(fb:Fit B):MI A B A B []:=
 ⟨vY,ha,hb,fun c=>⟨fun q=>q.elim (fun q=>absurd q (gV c)) id,.inr⟩,fun _ h=>(by cases h),⟨kJ,fa,fb⟩,by simp⟩
theorem MI.right{A B A' B' O:lIi}{a b:Int×Int}(I:MI A B (a :: A') (b :: B') O)(h:b.1<a.1):MI A B (a :: A') B' (O++[b]):=by
 refine⟨vZ I.out (vX (I.b.some b (by simp))) (fun x hx y hy=>by simp at hy;subst hy;exact I.le x hx y (.inr (by simp))),I.a,xW I.b,fun c=>?_,fun x hx y hy=>?_,⟨dU I.fit.1 (fR I.fit.2.2 fun z hz=>by simp at hz;subst hz;simp),I.fit.2.1,fR I.fit.2.2 fun z hz=>t7 _ hz⟩,by have:=I.len;simp at *;omega⟩
 ·rw [<- I.mem,bV,eE,cD b B'];constructor
  ·rintro ((q | q) | q | q)
   ·exact .inl q
   ·exact .inr (.inr (.inl q))
   ·exact .inr (.inl q)
   ·exact .inr (.inr (.inr q))
  ·rintro (q | q | q | q)
   ·exact .inl (.inl q)
   ·exact .inr (.inl q)
   ·exact .inl (.inr q)
   ·exact .inr (.inr q)
 ·rcases o5.1 hx with hx | hx
  ·exact I.le x hx y (hy.elim .inl fun q=>.inr (t7 _ q))
  ·simp at hx;subst hx;rcases hy with hy | hy
   ·rcases aBK.1 hy with rfl | hy
    ·omega
    ·have:=(aBD.1 I.a.rise).1 y hy;omega
   ·exact(aBD.1 I.b.rise).1 y hy
theorem MI.left{A B A' B' O:lIi}{a:Int×Int}(I:MI A B (a :: A') B' O)(h:∀ b∈B',a.1<=b.1):MI A B A' B' (O++[a]):=by
 refine⟨vZ I.out (vX (I.a.some a (by simp))) (fun x hx y hy=>by simp at hy;subst hy;exact I.le x hx y (.inl (by simp))),xW I.a,I.b,fun c=>?_,fun x hx y hy=>?_,⟨dU I.fit.1 (fR I.fit.2.1 fun z hz=>by simp at hz;subst hz;simp),fR I.fit.2.1 fun z hz=>t7 _ hz,I.fit.2.2⟩,by have:=I.len;simp at *;omega⟩
 ·rw [<- I.mem,bV,eE,cD a A'];constructor
  ·rintro ((q | q) | q | q)
   ·exact .inl q
   ·exact .inr (.inl (.inl q))
   ·exact .inr (.inl (.inr q))
   ·exact .inr (.inr q)
  ·rintro (q |(q | q) | q)
   ·exact .inl (.inl q)
   ·exact .inl (.inr q)
   ·exact .inr (.inl q)
   ·exact .inr (.inr q)
 ·rcases o5.1 hx with hx | hx
  ·exact I.le x hx y (hy.elim (fun q=>.inl (t7 _ q)) .inr)
  ·simp at hx;subst hx;rcases hy with hy | hy
   ·exact(aBD.1 I.a.rise).1 y hy
   ·exact h y hy
theorem MI.done{A B B' O:lIi}(I:MI A B [] B' O):Srt (O++B')/\(∀ c,In (O++B') c↔(In A c\/In B c))/\Fit (O++B')/\(O++B').length<=A.length+B.length:=by
 refine⟨vZ I.out I.b fun x hx y hy=>I.le x hx y (.inr hy),fun c=>?_,dU I.fit.1 I.fit.2.2,by have:=I.len;simp at *;omega⟩;rw [<- I.mem,bV];exact⟨fun q=>q.elim .inl fun q=>.inr (.inr q),fun q=>q.elim .inl fun q=>q.elim (fun q=>absurd q (gV c)) .inr⟩
def tF(w:World)(L:lIi)(e:Ending)(w':World):Prop:=∃ v S,e=.returned v/\RR w.heap.size w' v S/\Srt S/\Fit S/\(∀ c,In S c↔In L c)/\S.length<=L.length/\wBl w w'
theorem ArgR.take{W:World}{g off n cap:Nat}{L:lIi}(h:ArgR W (.slice (some (aDr g off)) n cap) L){k:Nat}(hk:k<=L.length):ArgR W (.slice (some (aDr g off)) k cap) (L.take k):=by
 have hl:(L.take k).length=k:=by simp;omega
 rcases h with⟨p,c,e,rfl,e2⟩ | ⟨g',off',cap',e,h2,h3,h4,h5⟩
 ·simp at hk;subst hk;cases e;exact .inl ⟨_,_,rfl,rfl,fun q=>by cases q⟩
 ·cases e;refine .inr ⟨g,off,cap,by rw [hl],h2,by omega,h4,fun i r hi=>h5 i r ?_⟩;rw [List.getElem?_take] at hi
  split at hi
  ·exact hi
  ·cases hi
theorem ArgR.drop{W:World}{g off n cap:Nat}{L:lIi}(h:ArgR W (.slice (some (aDr g off)) n cap) L){k:Nat}(hk:k<L.length):ArgR W (.slice (some ⟨g,off+k*2,none⟩) (n-k) (cap-k)) (L.drop k):=by
 rcases h with⟨p,c,e,rfl,e2⟩ | ⟨g',off',cap',e,h2,h3,h4,h5⟩
 ·simp at hk
 ·cases e;refine .inr ⟨g,off+k*2,cap-k,by simp,h2,by simp;omega,by omega,fun i r hi=>?_⟩;rw [aCB] at hi;have:=h5 (k+i) r hi;rw [show off+k*2+2*i=off+2*(k+i) by omega];exact this
theorem aQ8(L:lIi)(k:Nat)(c:Int):(In (L.take k) c\/In (L.drop k) c)↔In L c:=by rw [<- bV,aBZ]
end Go.Proofs.YtdgfpiekjigfnaaGreatDoor
