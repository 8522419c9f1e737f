/-
  Parts of the proof.
-/
import Derived.Test.YtlamifbjklpdbaaGreatSameProofA0
import Derived.Test.YtlamifbjklpdbaaGreatSameProofB13
import Derived.Test.YtlamifbjklpdbaaGreatSameProofB9
import Derived.Test.YtlamifbjklpdbaaGreatSameProofB12
import Derived.Test.YtlamifbjklpdbaaGreatSameProofB8
set_option linter.unusedSimpArgs false
set_option maxRecDepth 100000
set_option maxHeartbeats 8000000
namespace Go.Proofs.YtlamifbjklpdbaaGreat
open Go Go.RowKit
section
attribute [local go_sem] Oper.semAt_some
variable {H:Gh} {V V':World} {rs rs' rs'':List (Option Nat)} {wk wk':Int} {mu mu' mu'':Bool} {x:Cf}
theorem aA5(H:Gh)(wk:Int)(mu:Bool){N:Nat}(h:N<10):(H.cells wk mu)[4+N]?=some (.bool (H.L.u N)):=by
 rcases N with _ | _ | _ | _ | _ | _ | _ | _ | _ | _ | N
 all_goals first | rfl | omega
theorem EG12.below{w V V':World}{rs rs':List (Option Nat)}{wk wk':Int}{mu':Bool}{n:Int}{mq oq:Option Addr}{mc a b oc:Nat}{m m' out:List Cf}(h:EG12 H w rs wk x n mq mc m a b m' oq oc out rs' wk' mu' V)(hb:Below V.heap.size V V'):EG12 H w rs wk x n mq mc m a b m' oq oc out rs' wk' mu' V':=
 ⟨h.es.below hb,h.cr.kept hb,h.ml.kept hb,h.ap,h.ln,h.sm,h.n,h.nw,h.s,h.c⟩
theorem aS1{n:Nat}(hE:EnC H n)(hk:Gk H){w:World}(hw:WM H w rs wk false){i:Nat}{z:Zl}(hz:H.Z[i]?=some z)(hn:z.1.2.sz<=n+1)(hx:Vf H.L x)(hpl:¬ PlT H.L z.1.2)(hkd:z.1.2.f.k=7) :
  Calls Tryz.prog 27 #[.pointer (some ⟨H.b,0,none⟩),.int .i64 (i:Int),.agg (cfA x)] w (EnP H w rs wk false w.heap.size (Mt H.L z.1.2 x)):=by
 have HKD:=aA hkd
 have HEC:=aA hE
 have HSZ:=aA hn
 have HK:=aA hk
 have B0:Hid (Below w.heap.size w (w.alloc (.cells (cfA x) 69))):=bz9
 have X0:Hid (BoxC (w.alloc (.cells (cfA x) 69)) w.heap.size x):=aD w _
 have W0:=aA (hw.below B0.out)
 have hil:=(m8.1 hz).1
 have iil:(i:Int)<(H.Z.length:Int):=by omega
 have hlen:=hk.len
 have hsm:=hk.sm
 have HZ:=aA hz
 have HX:=aA hx
 have HNP:=aA (((aI z.1.2).1 (hk.npz hz)).1)
 have HPB:Hid (plB H.L z.1.2=false):=aA (by unfold plB;simpa using hpl)
 have HBS:Hid (H.base<=w.heap.size):=aA (aBC (aBA hw.bb hw.b_lt))
 have hk2:z.1.2.ks.length<=2000:=by
  have h1:=eY z.1.2.ks
  have h2:=dA z.1.2
  obtain⟨r,hr⟩:=seg H.t [] i z.1 (hk.at hz)
  have h5:=congrArg List.length hr
  rw [o5,bL,aAR] at h5
  have h4:=congrArg List.length hk.mp
  rw [aAC] at h4
  omega
 clear hw hk hz hx hpl hE hn hkd
 go_enter Tryz.func27,Tryz.ntmps27
 go_upto_region 1 with fail
 generalize (w.alloc (.cells (cfA x) 69))=w1 at B0 X0 W0 ⊢
 have E1:Hid (ES H w rs wk false w1 rs wk false):=⟨W0.out,Grw.refl _ _,Fr.of_below B0.out,fun e=>(by cases e),fun _=>aAW _⟩
 have c0:=W0.out.cell (i:=0) rfl
 have c14:=W0.out.cell (i:=14) rfl
 have c17:=W0.out.cell (i:=17) (v:=.bool false) rfl
 have y0:=W0.out.z.cells HZ.out (j:=0) (v:=.int .i64 z.1.2.f.k) rfl
 have y1:=W0.out.z.cells HZ.out (j:=1) (v:=.int .i64 z.1.2.f.n) rfl
 have y2:=W0.out.z.cells HZ.out (j:=2) (v:=.int .i64 z.1.2.f.mn) rfl
 have y3:=W0.out.z.cells HZ.out (j:=3) (v:=.int .i64 z.1.2.f.mx) rfl
 have y4:=W0.out.z.cells HZ.out (j:=4) (v:=.slice z.1.2.f.rq z.1.2.f.rs.length z.1.2.f.rc) rfl
 have y5:=W0.out.z.cells HZ.out (j:=5) (v:=.slice z.1.2.f.kq z.1.2.f.kl z.1.2.f.kc) rfl
 rw [aAJ] at y0
 go_upto_region 5 with fail
 have B2:Hid (Below w1.heap.size w1 (w1.alloc (.cells #[.int .i64 z.1.2.f.k,.int .i64 z.1.2.f.n,.int .i64 z.1.2.f.mn,.int .i64 z.1.2.f.mx,.slice z.1.2.f.rq z.1.2.f.rs.length z.1.2.f.rc,.slice z.1.2.f.kq z.1.2.f.kl z.1.2.f.kc] 25))):=bz9
 have N2:Hid (BoxN (w1.alloc (.cells #[.int .i64 z.1.2.f.k,.int .i64 z.1.2.f.n,.int .i64 z.1.2.f.mn,.int .i64 z.1.2.f.mx,.slice z.1.2.f.rq z.1.2.f.rs.length z.1.2.f.rc,.slice z.1.2.f.kq z.1.2.f.kl z.1.2.f.kc] 25)) w1.heap.size z.1.2.f):=aD w1 _
 have E2:=aA (E1.out.below B2.out)
 have X2:=aA (X0.out.kept B2.out)
 have HNB:Hid (w.heap.size<w1.heap.size):=aA X0.out.lt
 generalize (w1.alloc (.cells #[.int .i64 z.1.2.f.k,.int .i64 z.1.2.f.n,.int .i64 z.1.2.f.mn,.int .i64 z.1.2.f.mx,.slice z.1.2.f.rq z.1.2.f.rs.length z.1.2.f.rc,.slice z.1.2.f.kq z.1.2.f.kl z.1.2.f.kc] 25))=w2 at B2 E2 X2 N2 ⊢
 clear B2
 generalize w1.heap.size=nb at N2 HNB ⊢
 have d14:=E2.out.wm.cell (i:=14) rfl
 have p0:w2.cell? ⟨H.pb,i,none⟩=some (.bool false):=by
  have:=aP E2.out.wm.pl (j:=i) (u:=.bool (plB H.L z.1.2)) (by simp [HZ.out])
  rw [this,HPB.out]
 clear c0 c14 c17 y0 y1 y2 y3 y4 y5 E1 X0 W0
 obtain⟨n0,n1,n2,n3,n4,n5⟩:=N2.out.six
 simp only [m7] at n1 n2 n3 n4 n5
 have e5:(z.1.2.f.k==5)=false:=by rw [HKD.out];rfl
 have e6:(z.1.2.f.k==6)=false:=by rw [HKD.out];rfl
 have e7:(z.1.2.f.k==7)=true:=by rw [HKD.out];rfl
 obtain⟨v,hv⟩:=xT HNP.out (.inl HKD.out)
 have HMT:Hid (∀ y,Mt H.L z.1.2 x y ↔ ∃ t,Mt H.L v x t/\y=eI H.L z.1.2.f.n x t):=fun y=>by
  rw [cH,if_neg (by have:=HKD.out;omega),if_neg (by have:=HKD.out;omega),if_pos HKD.out,hv]
  constructor
  ·rintro ⟨t,h1,h2⟩
   obtain⟨u,hu,h⟩:=(cF _ _ _).1 h1
   rw [s9.1 hu] at h
   exact⟨t,h,h2⟩
  ·rintro ⟨t,h1,h2⟩
   exact⟨t,(cF _ _ _).2 ⟨v,by simp,h1⟩,h2⟩
 obtain⟨N,hN,hN1,hN2⟩:∃ N:Nat,z.1.2.f.n=(N:Int)/\1<=N/\N<=30:=by
  have hb:=HNP.out.2 HKD.out
  exact⟨z.1.2.f.n.toNat,by omega,by omega,by omega⟩
 rw [hN] at n1
 have HW2:=aA E2.out.wm
 have hv0:z.1.2.ks[0]?=some v:=by rw [hv];rfl
 obtain⟨y,q1,q2,q3'⟩:=HK.out.kid HZ.out hv0
 rw [aAL,show szs ([]:List Tr)=0 from rfl,aAJ] at q1
 have hi1:=(m8.1 q1).1
 have hwi:IntKind.wrap .i64 ((i:Int)+1)=(i:Int)+1:=wrap_small _ (by omega) (by omega)
 have EC:=aA (HEC.out _ x y w2 rs wk false q1 (by rw [q2];have:=bW (n8 hv0);have:=HSZ.out;omega) HX.out HW2.out)
 rw [q2,show (((i+1:Nat):Int))=(i:Int)+1 from rfl] at EC
 clear q1 q2 q3' hv0
 have RX:=aA X2.out.get
 go_upto_region 36 with first
  |((with_reducible refine fF ?_);refine bN rfl _ rfl w.heap.size 0 rfl x RX.out ?_)
  |(go_at_call 27;(with_reducible refine(EC.out).mono ?_);rintro e w3 ⟨mq,mc,m,rs3,wk3,mu3,rfl,h71,h72,h73,h74,h75⟩;have A0:Hid (EA12 H w2 rs wk false ([]:List Cf) (fun _ _=>False) 0 none 0 [] rs wk false w2):=aA ⟨ES.refl HW2.out,CR12.nil _ _,by simp,fun _=>by simpa using (HW2.out.wk rfl).1,fun y hy=>(by cases hy),fun _ x' hx'=>by cases hx'⟩;have I3:=aA (A0.out.into (F:=fun _=>True) h75 h71);have hml:=h72;have MS:=aA h73;have MC:=aA h74;clear h71 h72 h73 h74 h75)
 have G3:Hid (EG12 H w2 rs wk x z.1.2.f.n mq mc m 0 0 m none 0 [] rs3 wk3 mu3 w3):=aA ⟨I3.out.es,I3.out.cr,I3.out.ml,I3.out.ap,rfl,fun _ _=>rfl,I3.out.n,I3.out.nw,fun y hy=>(by cases hy),fun _ t ht=>by rw [aAL] at ht;cases ht⟩
 have HBX:Hid (∀ V rs' wk' mu',ES H w2 rs wk false V rs' wk' mu'->BoxC V w.heap.size x):=fun V rs' wk' mu' h=>fR HW2.out h.f X2.out ⟨by decide,by decide,by decide⟩ (fun e=>e)
 have HNX:Hid (∀ V rs' wk' mu',ES H w2 rs wk false V rs' wk' mu'->BoxN V nb z.1.2.f):=fun V rs' wk' mu' h=>fR HW2.out h.f N2.out ⟨by decide,by decide,by decide⟩ (fun e=>e)
 have HB2:Hid (H.base<=w2.heap.size):=aA (o0 HBS.out E2.out.f.size)
 have HVM:Hid (∀ t∈m,Vf H.L t):=aA fun t ht=>(dV v x t (MS.out t ht) HX.out).1
 have hgl:∀ t:Cf,t.g.length=10->(eI H.L z.1.2.f.n x t).g.length=10:=fun t ht=>by unfold eI;dsimp only;split <;> simp [ht]
 have HGL:=aA hgl
 clear hgl n0 n1 n2 n3 n4 n5 d14 p0 RX I3 A0 EC
 go_loopw [7,19] (fun ov av wr=>∃ (a:Nat) (oq:Option Addr) (oc:Nat) (out:List Cf) (m':List Cf) (wk':Int) (mu':Bool),a<=m.length/\ov=.slice oq out.length oc/\av=.int .i64 (a:Int)/\(mu'=false->mu3=false)/\EG12 H w2 rs wk x z.1.2.f.n mq mc m a a m' oq oc out rs3 wk' mu' wr) (fun _ av _=>m.length-(intOf av).toNat)
 case atStart=>exact⟨0,none,0,[],m,wk3,mu3,o9 _,rfl,rfl,fun e=>e,G3.out⟩
 case round=>
  obtain⟨a,oq,oc,out,m',wk5,mu5,ha,rfl,rfl,hm5,h5⟩:=hrel
  have G5:=aA h5
  have M5:=aA hm5
  clear h5 hm5 G3
  by_cases hal:a<m.length
  ·have i0:(a:Int)<(m.length:Int):=by omega
   have hw2:IntKind.wrap .i64 ((a:Int)+1)=(a:Int)+1:=wrap_small _ (by omega) (by omega)
   obtain⟨t,ht⟩:∃ t,m[a]?=some t:=⟨_,g9 hal⟩
   have HT:=aA ht
   have HT':Hid (m'[a]?=some t):=aA ((G5.out.sm a lz9).trans ht)
   have H10:Hid (t.g.length=10):=aA (HVM.out t (n8 ht)).g
   have HTN:Hid (Ten out):=fun u hu=>by
    obtain⟨t',h1,h2⟩:=G5.out.s u hu
    rw [h2]
    exact HGL.out t' (HVM.out t' (aAS h1)).g
   have hgt:0<m'.length:=by rw [G5.out.ln];omega
   obtain⟨gm,rfl,gm1,gm2,gm3⟩:=G5.out.ml.at hgt
   clear ht hgt
   have n1:=(HNX.out _ _ _ _ G5.out.es).six.2.1
   rw [hN,m7] at n1
   by_cases hT:N<10
   ·have i1:(N:Int)<10:=by omega
    have u1:wr.cell? ⟨H.b,4+N,none⟩=some (.bool (H.L.u N)):=G5.out.es.wm.cell (aA5 H _ _ hT)
    go_upto_region 38 with fail
    refine wp_region_held_drew (S:=fun w'=>w'.cell? ⟨nb,1,none⟩=some (.int .i64 (N:Int))/\w'.cell? ⟨H.b,4+N,none⟩=some (.bool (H.L.u N))) (by kernel_rfl) ⟨n1,u1⟩ ?_
    intro hS0
    refine wpAnyH_take (i:=0) (oi:=_) (v:=?_) rfl (by kernel_rfl) (by kernel_rfl) (by kernel_rfl) (fun _ _ _ h=>h) (Or.inl ⟨by rfl,?_⟩) (by assumption) ?_
    rotate_left
    ·intro wz hSw
     obtain⟨hs1,hs2⟩:=hSw
     go_simp
     try with_reducible rfl
    dsimp only [Act.put,i7,g7,g8]
    simp only [f8,i8,i9]
    refine wpAnyH_take (i:=1) (oi:=_) (v:=?_) rfl (by kernel_rfl) (by kernel_rfl) (by kernel_rfl) (fun _ _ _ h=>h) (Or.inl ⟨by rfl,?_⟩) (by assumption) ?_
    rotate_left
    ·intro wz hSw
     obtain⟨hs1,hs2⟩:=hSw
     go_simp
     try with_reducible rfl
    dsimp only [Act.put,i7,g7,g8]
    simp only [f8,i8,i9]
    refine wpAnyH_take (i:=2) (oi:=_) (v:=?_) rfl (by kernel_rfl) (by kernel_rfl) (by kernel_rfl) (fun _ _ _ h=>h) (Or.inl ⟨by rfl,?_⟩) (by assumption) ?_
    rotate_left
    ·intro wz hSw
     obtain⟨hs1,hs2⟩:=hSw
     go_simp
     try with_reducible rfl
    dsimp only [Act.put,i7,g7,g8]
    simp only [f8,i8,i9]
    refine wpAnyH_take (i:=3) (oi:=_) (v:=?_) rfl (by kernel_rfl) (by kernel_rfl) (by kernel_rfl) (fun _ _ _ h=>h) (Or.inl ⟨by rfl,?_⟩) (by assumption) ?_
    rotate_left
    ·intro wz hSw
     obtain⟨hs1,hs2⟩:=hSw
     go_simp
     try with_reducible rfl
    dsimp only [Act.put,i7,g7,g8]
    simp only [f8,i8,i9]
    refine wpAnyH_take (i:=4) (oi:=_) (v:=?_) rfl (by kernel_rfl) (by kernel_rfl) (by kernel_rfl) (fun _ _ _ h=>h) (Or.inl ⟨by rfl,?_⟩) (by assumption) ?_
    rotate_left
    ·intro wz hSw
     obtain⟨hs1,hs2⟩:=hSw
     go_simp
     try with_reducible rfl
    dsimp only [Act.put,i7,g7,g8]
    simp only [f8,i8,i9]
    refine wpAnyH_take (i:=5) (oi:=_) (v:=?_) rfl (by kernel_rfl) (by kernel_rfl) (by kernel_rfl) (fun _ _ _ h=>h) (Or.inl ⟨by rfl,?_⟩) (by assumption) ?_
    rotate_left
    ·intro wz hSw
     obtain⟨hs1,hs2⟩:=hSw
     go_simp
     try with_reducible rfl
    dsimp only [Act.put,i7,g7,g8]
    simp only [f8,i8,i9]
    refine wpAnyH_take (i:=6) (oi:=_) (v:=?_) rfl (by kernel_rfl) (by kernel_rfl) (by kernel_rfl) (fun _ _ _ h=>h) (Or.inl ⟨by rfl,?_⟩) (by assumption) ?_
    rotate_left
    ·intro wz hSw
     obtain⟨hs1,hs2⟩:=hSw
     go_simp
     try with_reducible rfl
    dsimp only [Act.put,i7,g7,g8]
    simp only [f8,i8,i9]
    refine wpAnyH_take (i:=7) (oi:=_) (v:=?_) rfl (by kernel_rfl) (by kernel_rfl) (by kernel_rfl) (fun _ _ _ h=>h) (Or.inl ⟨by rfl,?_⟩) (by assumption) ?_
    rotate_left
    ·intro wz hSw
     obtain⟨hs1,hs2⟩:=hSw
     go_simp
     try with_reducible rfl
    dsimp only [Act.put,i7,g7,g8]
    simp only [f8,i8,i9]
    refine wpAnyH_take (i:=8) (oi:=_) (v:=?_) rfl (by kernel_rfl) (by kernel_rfl) (by kernel_rfl) (fun _ _ _ h=>h) (Or.inl ⟨by rfl,?_⟩) (by assumption) ?_
    rotate_left
    ·intro wz hSw
     obtain⟨hs1,hs2⟩:=hSw
     go_simp
     try with_reducible rfl
    dsimp only [Act.put,i7,g7,g8]
    simp only [f8,i8,i9]
    refine wpAnyH_take (i:=9) (oi:=_) (v:=?_) rfl (by kernel_rfl) (by kernel_rfl) (by kernel_rfl) (fun _ _ _ h=>h) (Or.inl ⟨by rfl,?_⟩) (by assumption) ?_
    rotate_left
    ·intro wz hSw
     obtain⟨hs1,hs2⟩:=hSw
     go_simp
     try with_reducible rfl
    dsimp only [Act.put,i7,g7,g8]
    simp only [f8,i8,i9]
    refine wpAnyH_take (i:=10) (oi:=_) (v:=?_) rfl (by kernel_rfl) (by kernel_rfl) (by kernel_rfl) (fun _ _ _ h=>h) (Or.inl ⟨by rfl,?_⟩) (by assumption) ?_
    rotate_left
    ·intro wz hSw
     obtain⟨hs1,hs2⟩:=hSw
     go_simp
     try with_reducible rfl
    dsimp only [Act.put,i7,g7,g8]
    simp only [f8,i8,i9]
    refine wpAnyH_take (i:=11) (oi:=_) (v:=?_) rfl (by kernel_rfl) (by kernel_rfl) (by kernel_rfl) (fun _ _ _ h=>h) (Or.inl ⟨by rfl,?_⟩) (by assumption) ?_
    rotate_left
    ·intro wz hSw
     obtain⟨hs1,hs2⟩:=hSw
     go_simp
     try with_reducible rfl
    dsimp only [Act.put,i7,g7,g8]
    simp only [f8,i8,i9]
    refine wpAnyH_done (by kernel_rfl) ?_ _
    cases hu:H.L.u N with
    | false=>
     have G6:Hid (EG12 H w2 rs wk x z.1.2.f.n (some ⟨gm,0,none⟩) mc m a a m' oq oc out rs3 wk5 mu5 wr.drew):=aA (G5.out.below ((Below.refl wr.heap.size wr).drew))
     have HGS:Hid (eI H.L z.1.2.f.n x t=t):=aA (by unfold eI;rw [if_neg (by unfold kep;rw [hN,Int.toNat_natCast,hu];simp)])
     have HY10:=H10
     clear hS0 u1 hu
     have RV:=aA (G6.out.ml.get HT'.out)
     have PU:=aA (gF (x:=t) G6.out.es.wm G6.out.cr G6.out.es.f.size HB2.out HTN.out HY10.out G6.out.n G6.out.nw)
     go_upto_region 37 with first
      |((with_reducible refine fF ?_);refine bN rfl _ rfl gm (a*21) rfl t RV.out ?_)
      |(go_at_call 51;(with_reducible refine(PU.out).mono ?_);rintro e w9 ⟨q9,c9,l9,wk9,mu9,rfl,hp9⟩;have M9:Hid (mu9=false->mu3=false):=fun e=>M5.out (by cases h2:mu5 with | false=>rfl | true=>have:=hp9.mo h2;rw [e] at this;cases this);have I9:=aA (G6.out.put (by omega) HT.out (by rw [HGS.out];exact hp9));clear hp9)
     go_wp2
     go_roundw
     case rel=>exact⟨a+1,q9,c9,l9,_,wk9,mu9,by omega,rfl,by go_num,M9.out,I9.out⟩
     case measure=>simp only [intOf];omega
    | true=>
     have DD:Hid (Below wr.heap.size wr wr.drew.drew):=aA (((Below.refl wr.heap.size wr).drew).drew)
     have G55:Hid (EG12 H w2 rs wk x z.1.2.f.n (some ⟨gm,0,none⟩) mc m a a m' oq oc out rs3 wk5 mu5 wr.drew.drew):=aA (G5.out.below DD.out)
     have r1:=(HNX.out _ _ _ _ G55.out.es).six.2.1
     rw [hN,m7] at r1
     have r2:=(HBX.out _ _ _ _ G55.out.es).p
     have r3:wr.drew.drew.cell? ⟨gm,a*21,none⟩=some (.int .i64 (t.p:Int)):=by
      have:=G55.out.ml.get HT'.out 0 _ rfl
      rwa [aAJ] at this
     have r4:wr.drew.drew.cell? ⟨gm,a*21+(1+N*2),none⟩=some (.int .i64 (ga t N)):=G55.out.ml.get HT'.out (1+N*2) _ (aT4 t hT)
     have r5:wr.drew.drew.cell? ⟨gm,a*21+(1+N*2+1),none⟩=some (.int .i64 (gb t N)):=G55.out.ml.get HT'.out (1+N*2+1) _ (aT3 t hT)
     obtain⟨rcs,hrow0⟩:=gm3
     have hrow:=(DD.out.block _ gm1).trans hrow0
     have r6:wr.drew.drew.frozen? ⟨gm,a*21+(1+N*2),none⟩=false:=aK hrow _
     have r7:wr.drew.drew.frozen? ⟨gm,a*21+(1+N*2+1),none⟩=false:=aK hrow _
     rw [<- aAU] at r4 r6
     rw [<- aAU,<- aAU] at r5 r7
     have G6:Hid (EG12 H w2 rs wk x z.1.2.f.n (some ⟨gm,0,none⟩) mc m a (a+1) (m'.set a ⟨t.p,t.g.set N ((x.p:Int),(t.p:Int))⟩) oq oc out rs3 wk5 mu5 ((wr.drew.drew.setCell ⟨gm,a*21+1+N*2,none⟩ (.int .i64 (x.p:Int))).setCell ⟨gm,a*21+1+N*2+1,none⟩ (.int .i64 (t.p:Int)))):=aA (by
      have:=G55.out.set HB2.out HT'.out H10.out hT (x.p:Int) (t.p:Int)
      simpa only [aAU] using this)
     have HGS:Hid (eI H.L z.1.2.f.n x t=⟨t.p,t.g.set N ((x.p:Int),(t.p:Int))⟩):=aA (by unfold eI;rw [if_pos (by unfold kep;rw [hN,Int.toNat_natCast,hu];simp [i1]),hN,Int.toNat_natCast])
     have HY10:Hid ((t.g.set N ((x.p:Int),(t.p:Int))).length=10):=aA (by rw [aAQ];exact H10.out)
     have HS2:Hid ((m'.set a ⟨t.p,t.g.set N ((x.p:Int),(t.p:Int))⟩)[a]?=some ⟨t.p,t.g.set N ((x.p:Int),(t.p:Int))⟩):=aA (by rw [aAZ,if_pos rfl,if_pos (m8.1 HT'.out).1])
     go_upto_region 39 with fail
     refine wp_region_held_drew (S:=fun w'=>w'.cell? ⟨nb,1,none⟩=some (.int .i64 (N:Int))/\w'.cell? ⟨w.heap.size,0,none⟩=some (.int .i64 (x.p:Int))/\w'.cell? ⟨gm,a*21,none⟩=some (.int .i64 (t.p:Int))) (by kernel_rfl) ⟨r1,r2,r3⟩ ?_
     intro hS1
     clear G55 DD hrow r1 r2 r3
     generalize wr.drew.drew=w7 at hS1 r4 r5 r6 r7 G6 ⊢
     refine wpAnyH_take (i:=0) (oi:=_) (v:=?_) rfl (by kernel_rfl) (by kernel_rfl) (by kernel_rfl) (fun _ _ _ h=>h) (Or.inl ⟨by rfl,?_⟩) (by assumption) ?_
     rotate_left
     ·intro wz hSw
      obtain⟨hs1,hs2,hs3⟩:=hSw
      go_simp
      try with_reducible rfl
     dsimp only [Act.put,i7,g7,g8]
     simp only [f8,i8,i9]
     refine wpAnyH_take (i:=1) (oi:=_) (v:=?_) rfl (by kernel_rfl) (by kernel_rfl) (by kernel_rfl) (fun _ _ _ h=>h) (Or.inl ⟨by rfl,?_⟩) (by assumption) ?_
     rotate_left
     ·intro wz hSw
      obtain⟨hs1,hs2,hs3⟩:=hSw
      go_simp
      try with_reducible rfl
     dsimp only [Act.put,i7,g7,g8]
     simp only [f8,i8,i9]
     refine wpAnyH_take (i:=2) (oi:=_) (v:=?_) rfl (by kernel_rfl) (by kernel_rfl) (by kernel_rfl) (fun _ _ _ h=>h) (Or.inl ⟨by rfl,?_⟩) (by assumption) ?_
     rotate_left
     ·intro wz hSw
      obtain⟨hs1,hs2,hs3⟩:=hSw
      go_simp
      try with_reducible rfl
     dsimp only [Act.put,i7,g7,g8]
     simp only [f8,i8,i9]
     refine wpAnyH_take (i:=3) (oi:=_) (v:=?_) rfl (by kernel_rfl) (by kernel_rfl) (by kernel_rfl) (fun _ _ _ h=>h) (Or.inl ⟨by rfl,?_⟩) (by assumption) ?_
     rotate_left
     ·intro wz hSw
      obtain⟨hs1,hs2,hs3⟩:=hSw
      go_simp
      try with_reducible rfl
     dsimp only [Act.put,i7,g7,g8]
     simp only [f8,i8,i9]
     refine wpAnyH_take (i:=4) (oi:=_) (v:=?_) rfl (by kernel_rfl) (by kernel_rfl) (by kernel_rfl) (fun _ _ _ h=>h) (Or.inl ⟨by rfl,?_⟩) (by assumption) ?_
     rotate_left
     ·intro wz hSw
      obtain⟨hs1,hs2,hs3⟩:=hSw
      go_simp
      try with_reducible rfl
     dsimp only [Act.put,i7,g7,g8]
     simp only [f8,i8,i9]
     refine wpAnyH_take (i:=5) (oi:=_) (v:=?_) rfl (by kernel_rfl) (by kernel_rfl) (by kernel_rfl) (fun _ _ _ h=>h) (Or.inl ⟨by rfl,?_⟩) (by assumption) ?_
     rotate_left
     ·intro wz hSw
      obtain⟨hs1,hs2,hs3⟩:=hSw
      go_simp
      try with_reducible rfl
     dsimp only [Act.put,i7,g7,g8]
     simp only [f8,i8,i9]
     refine wpAnyH_take (i:=6) (oi:=_) (v:=?_) rfl (by kernel_rfl) (by kernel_rfl) (by kernel_rfl) (fun _ _ _ h=>h) (Or.inl ⟨by rfl,?_⟩) (by assumption) ?_
     rotate_left
     ·intro wz hSw
      obtain⟨hs1,hs2,hs3⟩:=hSw
      go_simp
      try with_reducible rfl
     dsimp only [Act.put,i7,g7,g8]
     simp only [f8,i8,i9]
     refine wpAnyH_take (i:=7) (oi:=_) (v:=?_) rfl (by kernel_rfl) (by kernel_rfl) (by kernel_rfl) (fun _ _ _ h=>h) (Or.inl ⟨by rfl,?_⟩) (by assumption) ?_
     rotate_left
     ·intro wz hSw
      obtain⟨hs1,hs2,hs3⟩:=hSw
      go_simp
      try with_reducible rfl
     dsimp only [Act.put,i7,g7,g8]
     simp only [f8,i8,i9]
     refine wpAnyH_take (i:=8) (oi:=_) (v:=?_) rfl (by kernel_rfl) (by kernel_rfl) (by kernel_rfl) (fun _ _ _ h=>h) (Or.inl ⟨by rfl,?_⟩) (by assumption) ?_
     rotate_left
     ·intro wz hSw
      obtain⟨hs1,hs2,hs3⟩:=hSw
      go_simp
      try with_reducible rfl
     dsimp only [Act.put,i7,g7,g8]
     simp only [f8,i8,i9]
     refine wpAnyH_take (i:=9) (oi:=_) (v:=?_) rfl (by kernel_rfl) (by kernel_rfl) (by kernel_rfl) (fun _ _ _ h=>h) (Or.inl ⟨by rfl,?_⟩) (by assumption) ?_
     rotate_left
     ·intro wz hSw
      obtain⟨hs1,hs2,hs3⟩:=hSw
      go_simp
      try with_reducible rfl
     dsimp only [Act.put,i7,g7,g8]
     simp only [f8,i8,i9]
     refine wpAnyH_take (i:=10) (oi:=_) (v:=?_) rfl (by kernel_rfl) (by kernel_rfl) (by kernel_rfl) (fun _ _ _ h=>h) (Or.inl ⟨by rfl,?_⟩) (by assumption) ?_
     rotate_left
     ·intro wz hSw
      obtain⟨hs1,hs2,hs3⟩:=hSw
      go_simp
      try with_reducible rfl
     dsimp only [Act.put,i7,g7,g8]
     simp only [f8,i8,i9]
     refine wpAnyH_take (i:=11) (oi:=_) (v:=?_) rfl (by kernel_rfl) (by kernel_rfl) (by kernel_rfl) (fun _ _ _ h=>h) (Or.inl ⟨by rfl,?_⟩) (by assumption) ?_
     rotate_left
     ·intro wz hSw
      obtain⟨hs1,hs2,hs3⟩:=hSw
      go_simp
      try with_reducible rfl
     dsimp only [Act.put,i7,g7,g8]
     simp only [f8,i8,i9]
     refine wpAnyH_take (i:=12) (oi:=_) (v:=?_) rfl (by kernel_rfl) (by kernel_rfl) (by kernel_rfl) (fun _ _ _ h=>h) (Or.inl ⟨by rfl,?_⟩) (by assumption) ?_
     rotate_left
     ·intro wz hSw
      obtain⟨hs1,hs2,hs3⟩:=hSw
      go_simp
      try with_reducible rfl
     dsimp only [Act.put,i7,g7,g8]
     simp only [f8,i8,i9]
     refine wpAnyH_take (i:=13) (oi:=_) (v:=?_) rfl (by kernel_rfl) (by kernel_rfl) (by kernel_rfl) (fun _ _ _ h=>h) (Or.inl ⟨by rfl,?_⟩) (by assumption) ?_
     rotate_left
     ·intro wz hSw
      obtain⟨hs1,hs2,hs3⟩:=hSw
      go_simp
      try with_reducible rfl
     dsimp only [Act.put,i7,g7,g8]
     simp only [f8,i8,i9]
     refine wpAnyH_take (i:=14) (oi:=_) (v:=?_) rfl (by kernel_rfl) (by kernel_rfl) (by kernel_rfl) (fun _ _ _ h=>h) (Or.inl ⟨by rfl,?_⟩) (by assumption) ?_
     rotate_left
     ·intro wz hSw
      obtain⟨hs1,hs2,hs3⟩:=hSw
      go_simp
      try with_reducible rfl
     dsimp only [Act.put,i7,g7,g8]
     simp only [f8,i8,i9]
     refine wpAnyH_ready (rs:=[15]) (by kernel_rfl) (by simp) ?_
     refine AllReadyH.cons rfl (fun K hK=>?_) AllReadyH.nil
     go_simp
     generalize ((w7.setCell ⟨gm,a*21+1+N*2,none⟩ (.int .i64 (x.p:Int))).setCell ⟨gm,a*21+1+N*2+1,none⟩ (.int .i64 (t.p:Int)))=w8 at G6 ⊢
     have t1:=(HNX.out _ _ _ _ G6.out.es).six.2.1
     rw [hN,m7] at t1
     have t2:=(HBX.out _ _ _ _ G6.out.es).p
     have t3:w8.cell? ⟨gm,a*21,none⟩=some (.int .i64 (t.p:Int)):=by
      have:=G6.out.ml.get HS2.out 0 _ rfl
      rwa [aAJ] at this
     refine hK.out _ _ ⟨t1,t2,t3⟩ (fun hS2=>?_)
     clear hK K
     refine wpAnyH_done (by kernel_rfl) ?_ _
     clear hS0 hS1 hS2 u1 r4 r5 r6 r7 n1 t1 t2 t3 hu
     have RV:=aA (G6.out.ml.get HS2.out)
     have PU:=aA (gF (x:=⟨t.p,t.g.set N ((x.p:Int),(t.p:Int))⟩) G6.out.es.wm G6.out.cr G6.out.es.f.size HB2.out HTN.out HY10.out G6.out.n G6.out.nw)
     go_upto_region 37 with first
      |((with_reducible refine fF ?_);refine bN rfl _ rfl gm (a*21) rfl ⟨t.p,t.g.set N ((x.p:Int),(t.p:Int))⟩ RV.out ?_)
      |(go_at_call 51;(with_reducible refine(PU.out).mono ?_);rintro e w9 ⟨q9,c9,l9,wk9,mu9,rfl,hp9⟩;have M9:Hid (mu9=false->mu3=false):=fun e=>M5.out (by cases h2:mu5 with | false=>rfl | true=>have:=hp9.mo h2;rw [e] at this;cases this);have I9:=aA (G6.out.put (by omega) HT.out (by rw [HGS.out];exact hp9));clear hp9)
     go_wp2
     go_roundw
     case rel=>exact⟨a+1,q9,c9,l9,_,wk9,mu9,by omega,rfl,by go_num,M9.out,I9.out⟩
     case measure=>simp only [intOf];omega
   ·have i1:¬ (N:Int)<10:=by omega
    go_upto_region 38 with fail
    refine wp_region_held_drew (S:=fun w'=>w'.cell? ⟨nb,1,none⟩=some (.int .i64 (N:Int))/\True) (by kernel_rfl) ⟨n1,trivial⟩ ?_
    intro hS0
    refine wpAnyH_take (i:=0) (oi:=_) (v:=?_) rfl (by kernel_rfl) (by kernel_rfl) (by kernel_rfl) (fun _ _ _ h=>h) (Or.inl ⟨by rfl,?_⟩) (by assumption) ?_
    rotate_left
    ·intro wz hSw
     obtain⟨hs1,hs2⟩:=hSw
     go_simp
     try with_reducible rfl
    dsimp only [Act.put,i7,g7,g8]
    simp only [f8,i8,i9]
    refine wpAnyH_take (i:=1) (oi:=_) (v:=?_) rfl (by kernel_rfl) (by kernel_rfl) (by kernel_rfl) (fun _ _ _ h=>h) (Or.inl ⟨by rfl,?_⟩) (by assumption) ?_
    rotate_left
    ·intro wz hSw
     obtain⟨hs1,hs2⟩:=hSw
     go_simp
     try with_reducible rfl
    dsimp only [Act.put,i7,g7,g8]
    simp only [f8,i8,i9]
    refine wpAnyH_take (i:=2) (oi:=_) (v:=?_) rfl (by kernel_rfl) (by kernel_rfl) (by kernel_rfl) (fun _ _ _ h=>h) (Or.inl ⟨by rfl,?_⟩) (by assumption) ?_
    rotate_left
    ·intro wz hSw
     obtain⟨hs1,hs2⟩:=hSw
     go_simp
     try with_reducible rfl
    dsimp only [Act.put,i7,g7,g8]
    simp only [f8,i8,i9]
    refine wpAnyH_take (i:=3) (oi:=_) (v:=?_) rfl (by kernel_rfl) (by kernel_rfl) (by kernel_rfl) (fun _ _ _ h=>h) (Or.inl ⟨by rfl,?_⟩) (by assumption) ?_
    rotate_left
    ·intro wz hSw
     obtain⟨hs1,hs2⟩:=hSw
     go_simp
     try with_reducible rfl
    dsimp only [Act.put,i7,g7,g8]
    simp only [f8,i8,i9]
    refine wpAnyH_take (i:=4) (oi:=_) (v:=undef) rfl (by kernel_rfl) (by kernel_rfl) (by kernel_rfl) (fun _ _ _ h=>h) (Or.inr ⟨by rfl,rfl⟩) (by assumption) ?_
    dsimp only [Act.put,i7,g7,g8]
    simp only [f8,i8,i9]
    refine wpAnyH_take (i:=5) (oi:=_) (v:=undef) rfl (by kernel_rfl) (by kernel_rfl) (by kernel_rfl) (fun _ _ _ h=>h) (Or.inr ⟨by rfl,rfl⟩) (by assumption) ?_
    dsimp only [Act.put,i7,g7,g8]
    simp only [f8,i8,i9]
    refine wpAnyH_take (i:=6) (oi:=_) (v:=undef) rfl (by kernel_rfl) (by kernel_rfl) (by kernel_rfl) (fun _ _ _ h=>h) (Or.inr ⟨by rfl,rfl⟩) (by assumption) ?_
    dsimp only [Act.put,i7,g7,g8]
    simp only [f8,i8,i9]
    refine wpAnyH_take (i:=7) (oi:=_) (v:=undef) rfl (by kernel_rfl) (by kernel_rfl) (by kernel_rfl) (fun _ _ _ h=>h) (Or.inr ⟨by rfl,rfl⟩) (by assumption) ?_
    dsimp only [Act.put,i7,g7,g8]
    simp only [f8,i8,i9]
    refine wpAnyH_take (i:=8) (oi:=_) (v:=undef) rfl (by kernel_rfl) (by kernel_rfl) (by kernel_rfl) (fun _ _ _ h=>h) (Or.inr ⟨by rfl,rfl⟩) (by assumption) ?_
    dsimp only [Act.put,i7,g7,g8]
    simp only [f8,i8,i9]
    refine wpAnyH_take (i:=9) (oi:=_) (v:=undef) rfl (by kernel_rfl) (by kernel_rfl) (by kernel_rfl) (fun _ _ _ h=>h) (Or.inr ⟨by rfl,rfl⟩) (by assumption) ?_
    dsimp only [Act.put,i7,g7,g8]
    simp only [f8,i8,i9]
    refine wpAnyH_take (i:=10) (oi:=_) (v:=undef) rfl (by kernel_rfl) (by kernel_rfl) (by kernel_rfl) (fun _ _ _ h=>h) (Or.inr ⟨by rfl,rfl⟩) (by assumption) ?_
    dsimp only [Act.put,i7,g7,g8]
    simp only [f8,i8,i9]
    refine wpAnyH_take (i:=11) (oi:=_) (v:=?_) rfl (by kernel_rfl) (by kernel_rfl) (by kernel_rfl) (fun _ _ _ h=>h) (Or.inl ⟨by rfl,?_⟩) (by assumption) ?_
    rotate_left
    ·intro wz hSw
     obtain⟨hs1,hs2⟩:=hSw
     go_simp
     try with_reducible rfl
    dsimp only [Act.put,i7,g7,g8]
    simp only [f8,i8,i9]
    refine wpAnyH_done (by kernel_rfl) ?_ _
    have G6:Hid (EG12 H w2 rs wk x z.1.2.f.n (some ⟨gm,0,none⟩) mc m a a m' oq oc out rs3 wk5 mu5 wr.drew):=aA (G5.out.below ((Below.refl wr.heap.size wr).drew))
    have HGS:Hid (eI H.L z.1.2.f.n x t=t):=aA (by unfold eI;rw [if_neg (by unfold kep;rw [hN];simp;omega)])
    have HY10:=H10
    clear hS0
    have RV:=aA (G6.out.ml.get HT'.out)
    have PU:=aA (gF (x:=t) G6.out.es.wm G6.out.cr G6.out.es.f.size HB2.out HTN.out HY10.out G6.out.n G6.out.nw)
    go_upto_region 37 with first
     |((with_reducible refine fF ?_);refine bN rfl _ rfl gm (a*21) rfl t RV.out ?_)
     |(go_at_call 51;(with_reducible refine(PU.out).mono ?_);rintro e w9 ⟨q9,c9,l9,wk9,mu9,rfl,hp9⟩;have M9:Hid (mu9=false->mu3=false):=fun e=>M5.out (by cases h2:mu5 with | false=>rfl | true=>have:=hp9.mo h2;rw [e] at this;cases this);have I9:=aA (G6.out.put (by omega) HT.out (by rw [HGS.out];exact hp9));clear hp9)
    go_wp2
    go_roundw
    case rel=>exact⟨a+1,q9,c9,l9,_,wk9,mu9,by omega,rfl,by go_num,M9.out,I9.out⟩
    case measure=>simp only [intOf];omega
  ·have i0:¬ (a:Int)<(m.length:Int):=by omega
   have HT:Hid (m.take a=m):=aA (o4 (by omega))
   go_wp2
   go_ret
   refine⟨oq,oc,out,rs3,wk5,mu5,rfl,bI G5.out.cr E2.out.f.size,aBL G5.out.n,fun y hy=>?_,fun e y hy=>?_,E2.out.then G5.out.es.wm G5.out.es.g G5.out.es.f (fun _ e=>e.elim) (fun e=>by cases e) G5.out.es.wkm⟩
   ·obtain⟨t,h1,h2⟩:=G5.out.s y hy
    rw [HT.out] at h1
    exact(HMT.out y).2 ⟨t,MS.out t h1,h2⟩
   ·obtain⟨t,h1,h2⟩:=(HMT.out y).1 hy
    rw [h2]
    refine G5.out.c e t ?_
    rw [HT.out]
    exact MC.out (M5.out e) t h1
end
section
attribute [local go_sem] Oper.semAt_some
variable {H:Gh} {rs:List (Option Nat)} {wk:Int} {x:Cf}
theorem aG2{w:World}(hw:WM H w rs wk true)(i:Nat)(R:Cf->Prop) :
  Calls Tryz.prog 27 #[.pointer (some ⟨H.b,0,none⟩),.int .i64 (i:Int),.agg (cfA x)] w (EnP H w rs wk true w.heap.size R):=by
 have B0:Hid (Below w.heap.size w (w.alloc (.cells (cfA x) 69))):=bz9
 have E0:=aA ((ES.refl hw).below B0.out)
 clear hw
 go_enter Tryz.func27,Tryz.ntmps27
 go_upto_region 1 with fail
 generalize (w.alloc (.cells (cfA x) 69))=w1 at B0 E0 ⊢
 have c17:=E0.out.wm.cell (i:=17) (v:=.bool true) rfl
 go_wp2
 go_ret
 exact⟨none,0,[],rs,wk,true,rfl,CR12.nil _ _,by simp,fun y hy=>(by cases hy),fun e=>(by cases e),E0.out⟩
end
section
variable {H:Gh} {V V':World} {rs rs' rs'':List (Option Nat)} {wk wk':Int} {mu mu' mu'':Bool} {x:Cf} {w:World}
theorem CR12.one(W:World)(y:Cf){base:Nat}(h:base<=W.heap.size):CR12 base (W.alloc (.cells (cfA y) 69)) (some ⟨W.heap.size,0,none⟩) 1 [y]:=by
 refine⟨by simp [cN],.inr ⟨W.heap.size,1,cfA y,rfl,h,aD W _,t8 _,by decide,by rw [jU],?_⟩⟩
 rw [vU,o4 (by rw [cN];exact t8 _)]
 simp
theorem yR{L:Ln}{R:Cf->Cf->Prop}{mn:Nat}(hR:∀ a b,R a b->Vf L a->Vf L b){x:Cf}(hx:Vf L x):∀ (k:Nat) (y:Cf),Tn R mn k x y->Vf L y
 | 0,y,h=>by rw [show y=x from h];exact hx
 | k+1,y,h=>by
  obtain⟨z,h1,h2,-⟩:=h
  exact hR z y h2 (yR hR hx k z h1)
structure TI12(H:Gh)(w:World)(rs:List (Option Nat))(wk:Int)(R:Cf->Cf->Prop)(mn:Nat)(mx:Int)(x:Cf)(t:Nat)(nb:Nat)(f:Fl)(oq:Option Addr)(oc:Nat)(out:List Cf)(nq:Option Addr)(nc:Nat)(now:List Cf)(rs':List (Option Nat))(wk':Int)(mu':Bool)(V:World):Prop where
 es:ES H w rs wk false V rs' wk' mu'
 bx:BoxN V nb f
 cr:CR12 w.heap.size V oq oc out
 nr:CR12 w.heap.size V nq nc now
 ap:∀ g,(Value.slice nq now.length nc).ownBlock=some g->(Value.slice oq out.length oc).ownBlock≠some g
 n:out.length<=20000
 nl:now.length<=20001
 wl:mu'=false->(out.length:Int)<=wk'
 ts:TS R mn mx x t (·∈out) (·∈now)
 tc:mu'=false->TC R mn mx x t (·∈out) (·∈now)
variable {R:Cf->Cf->Prop} {mn:Nat} {mx:Int} {t nb:Nat} {f:Fl} {oq nq:Option Addr} {oc nc:Nat} {out now l:List Cf}
theorem TI12.far(h:TI12 H w rs wk R mn mx x t nb f oq oc out nq nc now rs' wk' mu' V)(hR:∀ a b,R a b->Vf H.L a->Vf H.L b)(hx:Vf H.L x)(hn:0<now.length):t<=mn+H.L.s.size:=by
 obtain⟨y,hy⟩:∃ y,now[0]?=some y:=⟨_,g9 hn⟩
 have h1:=(h.ts.n y (n8 hy)).1
 have h2:=aI9 h1
 have h3:=(yR hR hx t y h1).p
 omega
theorem TI12.valid(h:TI12 H w rs wk R mn mx x t nb f oq oc out nq nc now rs' wk' mu' V)(hR:∀ a b,R a b->Vf H.L a->Vf H.L b)(hx:Vf H.L x):∀ y∈now,Vf H.L y:=fun y hy=>yR hR hx t y (h.ts.n y hy).1
theorem rT{q6:Option Addr}{c6:Nat}{l6:List Cf}{rs6:List (Option Nat)}{wk6:Int}{mu6:Bool}{W6:World}{fu:Bool}
  (hes:ES H w rs wk false V rs' wk' mu') (hbx:BoxN V nb f) (hcr:CR12 w.heap.size V oq oc out) (hn:out.length<=20000) (hwl:mu'=false->(out.length:Int)<=wk')
  (hts:∀ N':Cf->Prop,(∀ z,N' z->∃ y∈l,R y z/\fuP fu y.p z.p)->TS R mn mx x (t+1) (·∈out) N')
  (htc:mu'=false->∀ N':Cf->Prop,(∀ z,N' z->∃ y∈l,R y z/\fuP fu y.p z.p)->(∀ y∈l,∀ z,R y z->fuP fu y.p z.p->N' z)->TC R mn mx x (t+1) (·∈out) N')
  (h1:CR12 V.heap.size W6 q6 c6 l6) (h2:l6.length<=20001) (h3:∀ y∈l6,∃ v∈l,R v y/\fuP fu v.p y.p) (h4:mu6=false->∀ y,(∃ v∈l,R v y/\fuP fu v.p y.p)->y∈l6) (h5:ES H V rs' wk' mu' W6 rs6 wk6 mu6) :
  TI12 H w rs wk R mn mx x (t+1) nb f oq oc out q6 c6 l6 rs6 wk6 mu6 W6:=by
 have hmu:mu6=false->mu'=false:=fun e=>by
  cases h2:mu' with
  | false=>rfl
  | true=>have:=h5.mo h2;rw [e] at this;cases this
 refine⟨hes.then h5.wm h5.g h5.f (fun _ e=>e.elim) h5.mo h5.wkm,fR hes.wm h5.f hbx ⟨by decide,by decide,by decide⟩ (fun e=>e),cT hcr hes.wm h5.f (fun _ _ e=>e) ⟨by decide,by decide,by decide⟩,bI h1 hes.f.size,fun g hg e=>?_,hn,h2,fun e=>Int.le_trans (hwl (hmu e)) (h5.wkm e),hts _ h3,fun e=>htc (hmu e) _ h3 (fun y hy z a b=>h4 e z ⟨y,hy,a,b⟩)⟩
 have a1:=(aF h1 hg).1
 have a2:=(aF hcr e).2.1
 omega
end
section
attribute [local go_sem] Oper.semAt_some
variable {H:Gh} {V V':World} {rs rs' rs'':List (Option Nat)} {wk wk':Int} {mu mu' mu'':Bool} {x:Cf}
theorem CR12.cap{base c:Nat}{q:Option Addr}{l:List Cf}(h:CR12 base V q c l):l.length<=c:=by
 rcases h.2 with⟨e,h0⟩ | ⟨g,cap,cur,e,-,-,hc,-⟩
 ·omega
 ·injection e with _ _ e3
  omega
theorem CR12.behind{base c:Nat}{q:Option Addr}{l8 out ad:List Cf}(h:CR12 base V q c l8)(e:l8=out++ad):ArgC V (if c=out.length then q else q.map (·.add (out.length*21))) ad:=fun i y hy=>by
 have hi:=(m8.1 hy).1
 have hl:l8.length=out.length+ad.length:=by rw [e,o5]
 have hc:=h.cap
 have h8:l8[out.length+i]?=some y:=by rw [e,aAA (by omega),Nat.add_sub_cancel_left];exact hy
 obtain⟨g,rfl,h1,h2,h3⟩:=h.at (by omega)
 rw [if_neg (by omega)]
 have hg:=h.get h8
 rw [Nat.add_mul] at hg
 refine⟨g,out.length*21,?_,h3,hg⟩
 simp only [Option.map_some,Addr.add]
 split
 ·next h=>rw [h]
 ·rw [m7]
theorem aB0{n:Nat}(hE:EnC H n)(hk:Gk H){w:World}(hw:WM H w rs wk false){i:Nat}{z:Zl}(hz:H.Z[i]?=some z)(hn:z.1.2.sz<=n+1)(hx:Vf H.L x)(hkd:z.1.2.f.k=9) :
  Calls Tryz.prog 55 #[.pointer (some ⟨H.b,0,none⟩),.int .i64 (i:Int),.agg (cfA x)] w (EnP H w rs wk false w.heap.size (Mt H.L z.1.2 x)):=by
 have HWW:=aA hw
 have HKD:=aA hkd
 have HEC:=aA hE
 have HSZ:=aA hn
 have HK:=aA hk
 have B0:Hid (Below w.heap.size w (w.alloc (.cells (cfA x) 69))):=bz9
 have X0:Hid (BoxC (w.alloc (.cells (cfA x) 69)) w.heap.size x):=aD w _
 have W0:=aA (hw.below B0.out)
 have hil:=(m8.1 hz).1
 have iil:(i:Int)<(H.Z.length:Int):=by omega
 have hlen:=hk.len
 have hsm:=hk.sm
 have HZ:=aA hz
 have HX:=aA hx
 have HNP:=aA (((aI z.1.2).1 (hk.npz hz)).1)
 have HBS:Hid (H.base<=w.heap.size):=aA (aBC (aBA hw.bb hw.b_lt))
 clear hw hk hz hx hE hn hkd
 go_enter Tryz.func55,Tryz.ntmps55
 go_upto_region 1 with fail
 generalize (w.alloc (.cells (cfA x) 69))=w1 at B0 X0 W0 ⊢
 have E1:Hid (ES H w rs wk false w1 rs wk false):=⟨W0.out,Grw.refl _ _,Fr.of_below B0.out,fun e=>(by cases e),fun _=>aAW _⟩
 have c0:=W0.out.cell (i:=0) rfl
 have y0:=W0.out.z.cells HZ.out (j:=0) (v:=.int .i64 z.1.2.f.k) rfl
 have y1:=W0.out.z.cells HZ.out (j:=1) (v:=.int .i64 z.1.2.f.n) rfl
 have y2:=W0.out.z.cells HZ.out (j:=2) (v:=.int .i64 z.1.2.f.mn) rfl
 have y3:=W0.out.z.cells HZ.out (j:=3) (v:=.int .i64 z.1.2.f.mx) rfl
 have y4:=W0.out.z.cells HZ.out (j:=4) (v:=.slice z.1.2.f.rq z.1.2.f.rs.length z.1.2.f.rc) rfl
 have y5:=W0.out.z.cells HZ.out (j:=5) (v:=.slice z.1.2.f.kq z.1.2.f.kl z.1.2.f.kc) rfl
 rw [aAJ] at y0
 go_upto_region 3 with fail
 have B2:Hid (Below w1.heap.size w1 (w1.alloc (.cells #[.int .i64 z.1.2.f.k,.int .i64 z.1.2.f.n,.int .i64 z.1.2.f.mn,.int .i64 z.1.2.f.mx,.slice z.1.2.f.rq z.1.2.f.rs.length z.1.2.f.rc,.slice z.1.2.f.kq z.1.2.f.kl z.1.2.f.kc] 25))):=bz9
 have N2:Hid (BoxN (w1.alloc (.cells #[.int .i64 z.1.2.f.k,.int .i64 z.1.2.f.n,.int .i64 z.1.2.f.mn,.int .i64 z.1.2.f.mx,.slice z.1.2.f.rq z.1.2.f.rs.length z.1.2.f.rc,.slice z.1.2.f.kq z.1.2.f.kl z.1.2.f.kc] 25)) w1.heap.size z.1.2.f):=aD w1 _
 have E2:=aA (E1.out.below B2.out)
 have X2:=aA (X0.out.kept B2.out)
 generalize (w1.alloc (.cells #[.int .i64 z.1.2.f.k,.int .i64 z.1.2.f.n,.int .i64 z.1.2.f.mn,.int .i64 z.1.2.f.mx,.slice z.1.2.f.rq z.1.2.f.rs.length z.1.2.f.rc,.slice z.1.2.f.kq z.1.2.f.kl z.1.2.f.kc] 25))=w2 at B2 E2 X2 N2 ⊢
 clear B2 c0 y0 y1 y2 y3 y4 y5 E1 X0 W0
 generalize w1.heap.size=nb at N2 ⊢
 have RX:=aA X2.out.get
 have HX2:Hid (w.heap.size<w2.heap.size):=aA X2.out.lt
 go_upto_region 4 with first
  |((with_reducible refine fF ?_);refine bN rfl _ rfl w.heap.size 0 rfl x RX.out ?_)
  |((with_reducible refine tJ ?_);refine iJ rfl _ rfl x rfl ?_)
 have B3:Hid (Below w2.heap.size w2 (w2.alloc (.cells (cfA x) 69))):=bz9
 have C3:Hid (CR12 w.heap.size (w2.alloc (.cells (cfA x) 69)) (some ⟨w2.heap.size,0,none⟩) 1 [x]):=aA (CR12.one w2 x (aBC HX2.out))
 have E3:=aA (E2.out.below B3.out)
 have N3:Hid (BoxN (w2.alloc (.cells (cfA x) 69)) nb z.1.2.f):=aA ((B3.out.block _ (aC N2.out)).trans N2.out)
 generalize w2.heap.size=g3 at C3 ⊢
 generalize (w2.alloc (.cells (cfA x) 69))=w3 at C3 E3 N3 ⊢
 clear B3 N2 X2 RX E2
 obtain⟨v,hv⟩:=xT HNP.out (.inr HKD.out)
 have hbd:=aN8 HNP.out HKD.out
 obtain⟨M,hM⟩:∃ M:Nat,z.1.2.f.mn=(M:Int):=⟨z.1.2.f.mn.toNat,by omega⟩
 obtain⟨X,hX⟩:∃ X:Int,z.1.2.f.mx=X:=⟨_,rfl⟩
 have HM:=aA hM
 have HXX:=aA hX
 rw [hM,hX] at hbd
 clear hM hX
 have HMT:Hid (∀ y,Mt H.L z.1.2 x y↔Rp (Mt H.L v) (M:Int) X x y):=fun y=>by
  rw [cH,if_neg (by have:=HKD.out;omega),if_neg (by have:=HKD.out;omega),if_neg (by have:=HKD.out;omega),if_neg (by have:=HKD.out;omega),if_pos HKD.out,hv,HM.out,HXX.out]
  have:(fun x y=>MtA H.L [v] x y)=Mt H.L v:=by
   funext a b
   refine propext ⟨fun h=>?_,fun h=>(cF _ _ _).2 ⟨v,by simp,h⟩⟩
   obtain⟨u,hu,h⟩:=(cF _ _ _).1 h
   rw [s9.1 hu] at h
   exact h
  rw [this]
 have HVR:Hid (∀ a b,Mt H.L v a b->Vf H.L a->Vf H.L b):=fun a b h ha=>(dV v a b h ha).1
 have hv0:z.1.2.ks[0]?=some v:=by rw [hv];rfl
 obtain⟨y,q1,q2,q3'⟩:=HK.out.kid HZ.out hv0
 rw [aAL,show szs ([]:List Tr)=0 from rfl,aAJ] at q1
 have hi1:=(m8.1 q1).1
 have hwi:IntKind.wrap .i64 ((i:Int)+1)=(i:Int)+1:=wrap_small _ (by omega) (by omega)
 have EC:Hid (∀ (W:World) (rs5:List (Option Nat)) (wk5:Int) (mu5:Bool) (q:Option Addr) (c k:Nat) (l:List Cf) (fu:Bool),WM H W rs5 wk5 mu5->ArgC W q l->(∀ x∈l,Vf H.L x)->l.length<=20001->k=l.length ->
   Calls Tryz.prog 53 #[.pointer (some ⟨H.b,0,none⟩),.slice q k c,.int .i64 ((i:Int)+1),.bool fu] W (EnP H W rs5 wk5 mu5 W.heap.size (fun y=>∃ x∈l,Mt H.L v x y/\fuP fu x.p y.p))):=aA fun W rs5 wk5 mu5 q c k l fu hW ha hq hl hkl=>by
  rw [hkl]
  have:=vL HEC.out hW q1 (by rw [q2];have:=bW (n8 hv0);have:=HSZ.out;omega) (c:=c) ha hq hl fu
  rw [q2] at this
  exact this
 clear q1 q2 q3' hv0
 have I3:Hid (TI12 H w rs wk (Mt H.L v) M X x 0 nb z.1.2.f none 0 [] (some ⟨g3,0,none⟩) 1 [x] rs wk false w3):=aA ⟨E3.out,N3.out,CR12.nil _ _,C3.out,fun g _ e=>(by cases e),by simp,by simp,fun _=>by simpa using (E3.out.wm.wk rfl).1,by
   have:=yP (R:=Mt H.L v) (mn:=M) (mx:=X) (x:=x) (by omega)
   refine⟨fun y hy=>this.n y (s9.1 hy),fun y hy=>(by cases hy),fun _ y hy=>(by cases hy)⟩,fun _=>by
   have:=yV (R:=Mt H.L v) (mn:=M) (mx:=X) (x:=x)
   have e1:(fun y:Cf=>y∈([]:List Cf))=fun _=>False:=by funext y;simp
   have e2:(fun y:Cf=>y∈[x])=fun y=>y=x:=by funext y;simp
   rw [e1,e2]
   exact this⟩
 clear C3 E3 N3
 go_upto_region 5 with fail
 go_loopw [8,9,10] (fun ov nv tv wr=>∃ (t:Nat) (oq:Option Addr) (oc:Nat) (out:List Cf) (nq:Option Addr) (nc:Nat) (now:List Cf) (rs':List (Option Nat)) (wk':Int) (mu':Bool),t<=2000/\ov=.slice oq out.length oc/\nv=.slice nq now.length nc/\tv=.int .i64 (t:Int)/\TI12 H w rs wk (Mt H.L v) M X x t nb z.1.2.f oq oc out nq nc now rs' wk' mu' wr) (fun _ _ tv _=>2001-(intOf tv).toNat)
 case atStart=>exact⟨0,none,0,[],some ⟨g3,0,none⟩,1,[x],rs,wk,false,by omega,rfl,rfl,rfl,I3.out⟩
 case round=>
  obtain⟨t,oq,oc,out,nq,nc,now,rs5,wk5,mu5,ht,rfl,rfl,rfl,h5⟩:=hrel
  have I5:=aA h5
  clear h5 I3
  have c17:=I5.out.es.wm.cell (i:=17) (v:=.bool mu5) rfl
  by_cases hnl:0<now.length
  ·have i0:(0:Int)<(now.length:Int):=by omega
   cases mu5 with
   | true=>
    go_wp2
    go_ret
    exact⟨oq,oc,out,rs5,wk5,true,rfl,I5.out.cr,aBL I5.out.n,fun y hy=>(HMT.out y).2 (I5.out.ts.o y hy),fun e=>(by cases e),I5.out.es⟩
   | false=>
    have hfar:=I5.out.far HVR.out HX.out hnl
    have htl:t<=1260:=by omega
    have hw2:IntKind.wrap .i64 ((t:Int)+1)=(t:Int)+1:=wrap_small _ (by omega) (by omega)
    have n2:=I5.out.bx.six.2.2.1
    have n3:=I5.out.bx.six.2.2.2.1
    rw [m7,HM.out] at n2
    rw [m7,HXX.out] at n3
    by_cases hge:M<=t
    ·have i1:(M:Int)<=(t:Int):=by omega
     have S5:Hid (EB12 H w rs wk false out (fun a b=>b=a) out.length (fun _=>True) nq nc now 0 oq oc out rs5 wk5 false wr):=aA ⟨I5.out.es,I5.out.cr,I5.out.nr,I5.out.ap,I5.out.n,I5.out.wl,fun y hy=>.inl ⟨y,by rw [aBQ];exact hy,rfl⟩,fun _=>⟨fun a ha b hb=>by rw [aBQ] at ha;rw [hb];exact ha,fun y hy=>by rw [aAL] at hy;cases hy⟩⟩
     have HTS:=aA I5.out.ts
     have HTC:=aA (I5.out.tc rfl)
     have HVN:=aA (I5.out.valid HVR.out HX.out)
     have HNL:=aA I5.out.nl
     have hnl2:now.length<=20001:=I5.out.nl
     have BX5:=aA I5.out.bx
     have HVO:Hid (∀ y∈out,Vf H.L y):=aA fun y hy=>by
      obtain⟨k,-,-,h⟩:=I5.out.ts.o y hy
      exact yR HVR.out HX.out k y (by simpa using h)
     go_upto_region 10 with fail
     clear n2 n3 c17 I5
     go_loopw [8,12] (fun ov av wr=>∃ (b:Nat) (oq:Option Addr) (oc:Nat) (l8:List Cf) (wk':Int) (mu':Bool),b<=now.length/\ov=.slice oq l8.length oc/\av=.int .i64 (b:Int)/\(∃ ad,l8=out++ad/\∀ y∈ad,y∈now.take b)/\BoxN wr nb z.1.2.f/\EB12 H w rs wk false out (fun a b=>b=a) out.length (fun _=>True) nq nc now b oq oc l8 rs5 wk' mu' wr) (fun _ av _=>now.length-(intOf av).toNat)
     case atStart=>exact⟨0,oq,oc,out,wk5,false,o9 _,rfl,rfl,⟨[],by rw [t9],fun y hy=>(by cases hy)⟩,BX5.out,S5.out⟩
     case round=>
      obtain⟨b,oq8,oc8,l8,wk8,mu8,hb8,rfl,rfl,had,hbx8,h8⟩:=hrel
      have I8:=aA h8
      have A8:=aA had
      have BX8:=aA hbx8
      clear h8 had hbx8 S5 BX5
      by_cases hbl:b<now.length
      ·have i3:(b:Int)<(now.length:Int):=by omega
       have hw4:IntKind.wrap .i64 ((b:Int)+1)=(b:Int)+1:=wrap_small _ (by omega) (by omega)
       obtain⟨u,hu⟩:∃ u,now[b]?=some u:=⟨_,g9 hbl⟩
       have HV:=aA hu
       obtain⟨gm,rfl,gm1,gm2,gm3⟩:=I8.out.ml.at (by omega)
       have RV:=aA (I8.out.ml.get hu)
       have HVG:Hid (u.g.length=10):=aA (HVN.out u (n8 hu)).g
       have hten:Hid (Ten l8):=fun y hy=>by
        obtain⟨ad,e,had⟩:=A8.out
        rw [e] at hy
        rcases o3.1 hy with h | h
        ·exact(HVO.out y h).g
        ·exact(HVN.out y (aAS (had y h))).g
       have PU:=aA (gF I8.out.es.wm I8.out.cr I8.out.es.f.size HBS.out hten.out HVG.out I8.out.n I8.out.nw)
       clear hu
       go_upto_region 11 with first
        |((with_reducible refine fF ?_);refine bN rfl _ rfl gm (b*21) rfl u RV.out ?_)
        |(go_at_call 51;(with_reducible refine(PU.out).mono ?_);rintro e w9 ⟨q9,c9,l9,wk9,mu9,rfl,hp9⟩;have BX9:=aA (bK5 BX8.out I8.out.es.wm I8.out.cr hp9);have I9:=aA (I8.out.put HV.out trivial hp9);have IS9:=aA hp9.is;clear hp9)
       have D9:Hid (∃ ad9,l9=out++ad9/\∀ y∈ad9,y∈now.take (b+1)):=aA (by
        have hk:now.take (b+1)=now.take b++[u]:=by rw [s7,HV.out];rfl
        obtain⟨ad,e0,had⟩:=A8.out
        rcases IS9.out with e | e
        ·exact⟨ad,e.trans e0,fun y hy=>by rw [hk];exact o3.2 (.inl (had y hy))⟩
        ·refine⟨ad++[u],by rw [e,e0,r8],fun y hy=>?_⟩
         rw [hk]
         rcases o3.1 hy with h | h
         ·exact o3.2 (.inl (had y h))
         ·exact o3.2 (.inr h))
       clear IS9
       go_wp2
       go_roundw
       case rel=>exact⟨b+1,q9,c9,l9,wk9,mu9,by omega,rfl,by go_num,D9.out,BX9.out,I9.out⟩
       case measure=>simp only [intOf];omega
      ·have i3:¬ (b:Int)<(now.length:Int):=by omega
       have HT:Hid (now.take b=now):=aA (o4 (by omega))
       have HAD:Hid (∃ ad,l8=out++ad/\∀ y∈ad,y∈now):=aA (by
        obtain⟨ad,e,had⟩:=A8.out
        exact⟨ad,e,fun y hy=>by have:=had y hy;rwa [HT.out] at this⟩)
       have HO1:Hid (∀ y,y∈out->y∈l8):=aA fun y hy=>by
        obtain⟨ad,e,-⟩:=HAD.out
        rw [e]
        exact o3.2 (.inl hy)
       have HO3:Hid (∀ y,y∈l8->y∈out\/(M<=t/\y∈now)):=aA fun y hy=>by
        obtain⟨ad,e,had⟩:=HAD.out
        rw [e] at hy
        exact(o3.1 hy).imp id fun h=>⟨hge,had y h⟩
       have HO2:Hid (mu8=false->∀ y∈now,y∈l8):=aA fun e y hy=>(I8.out.c e).2 y (by rw [HT.out];exact hy) trivial
       have m2:=BX8.out.six.2.2.1
       have m3:=BX8.out.six.2.2.2.1
       rw [m7,HM.out] at m2
       rw [m7,HXX.out] at m3
       by_cases hmx:(t:Int)=X
       ·go_wp2
        go_ret
        refine⟨oq8,oc8,l8,rs5,wk8,mu8,rfl,I8.out.cr,aBL I8.out.n,fun y hy=>(HMT.out y).2 ?_,fun e y hy=>?_,I8.out.es⟩
        ·rcases HO3.out y hy with h | ⟨-,h⟩
         ·exact HTS.out.o y h
         ·obtain⟨a,c⟩:=HTS.out.n y h
          exact⟨t,by simpa using hge,c,by simpa using a⟩
        ·rcases (aW0 HTS.out HTC.out hmx hge y).2 ((HMT.out y).1 hy) with h | h
         ·exact HO1.out y h
         ·exact HO2.out e y h
       ·by_cases hinf:X=-1
        ·subst hinf
         obtain⟨ad,hl8,had⟩:=HAD.out
         have HA:=aA hl8
         have HD:=aA had
         have hle:(out.length:Int)<=(l8.length:Int):=by rw [hl8,o5];omega
         have hll:l8.length-out.length=ad.length:=by rw [hl8,o5];omega
         have hal:ad.length<=20001:=by have:=I8.out.n;omega
         clear hl8 had
         have CE:=aA (EC.out wr rs5 wk8 mu8 _ (oc8-out.length) (l8.length-out.length) ad true I8.out.es.wm (I8.out.cr.behind HA.out) (fun y hy=>HVN.out y (HD.out y hy)) hal hll)
         clear hll hal
         go_upto_region 16 with fail
         generalize (if oc8=out.length then oq8 else Option.map (fun x=>x.add (out.length*21)) oq8)=qd at CE ⊢
         go_upto_region 6 with (go_at_call 53;(with_reducible refine(CE.out).mono ?_);rintro e w6 ⟨q6,c6,l6,rs6,wk6,mu6,rfl,h61,h62,h63,h64,h65⟩;have I6:Hid (TI12 H w rs wk (Mt H.L v) M (-1) x (t+1) nb z.1.2.f oq8 oc8 l8 q6 c6 l6 rs6 wk6 mu6 w6):=aA (rT I8.out.es BX8.out I8.out.cr I8.out.n I8.out.nw (fun N' hN=>oJ HTS.out HO3.out (fun z hz=>by obtain⟨y,a,b,c⟩:=hN z hz;exact⟨hmx,y,HD.out y a,b,fun _=>c rfl⟩)) (fun e N' _ hN=>oM HTS.out HTC.out (fun y hy=>HO1.out y hy) (fun _ y hy=>HO2.out e y hy) HO3.out (fun y z a b c _=>by have h9:=HO2.out e y a;rw [HA.out] at h9;exact(o3.1 h9).elim (fun h=>.inr ⟨rfl,hge,.inr h⟩) (fun h=>.inl (hN y h z b (fun _=>c hge))))) h61 h62 h63 h64 h65);clear h61 h62 h63 h64 h65)
         go_wp2
         go_roundw
         case rel=>exact⟨t+1,oq8,oc8,l8,q6,c6,l6,rs6,wk6,mu6,by omega,rfl,rfl,by go_num,I6.out⟩
         case measure=>simp only [intOf];omega
        ·have CE:=aA (EC.out wr rs5 wk8 mu8 nq nc _ now true I8.out.es.wm I8.out.ml.arg HVN.out hnl2 rfl)
         go_upto_region 6 with (go_at_call 53;(with_reducible refine(CE.out).mono ?_);rintro e w6 ⟨q6,c6,l6,rs6,wk6,mu6,rfl,h61,h62,h63,h64,h65⟩;have I6:Hid (TI12 H w rs wk (Mt H.L v) M X x (t+1) nb z.1.2.f oq8 oc8 l8 q6 c6 l6 rs6 wk6 mu6 w6):=aA (rT I8.out.es BX8.out I8.out.cr I8.out.n I8.out.nw (fun N' hN=>oJ HTS.out HO3.out (fun z hz=>by obtain⟨y,a,b,c⟩:=hN z hz;exact⟨hmx,y,a,b,fun _=>c rfl⟩)) (fun e N' _ hN=>oM HTS.out HTC.out (fun y hy=>HO1.out y hy) (fun _ y hy=>HO2.out e y hy) HO3.out (fun y z a b c _=>.inl (hN y a z b (fun _=>c hge)))) h61 h62 h63 h64 h65);clear h61 h62 h63 h64 h65)
         go_wp2
         go_roundw
         case rel=>exact⟨t+1,oq8,oc8,l8,q6,c6,l6,rs6,wk6,mu6,by omega,rfl,rfl,by go_num,I6.out⟩
         case measure=>simp only [intOf];omega
    ·have i1:¬ (M:Int)<=(t:Int):=by omega
     have i2:¬ (t:Int)=X:=by omega
     have CE:=aA (EC.out wr rs5 wk5 false nq nc _ now false I5.out.es.wm I5.out.nr.arg (I5.out.valid HVR.out HX.out) I5.out.nl rfl)
     go_upto_region 6 with (go_at_call 53;(with_reducible refine(CE.out).mono ?_);rintro e w6 ⟨q6,c6,l6,rs6,wk6,mu6,rfl,h61,h62,h63,h64,h65⟩;have I6:Hid (TI12 H w rs wk (Mt H.L v) M X x (t+1) nb z.1.2.f oq oc out q6 c6 l6 rs6 wk6 mu6 w6):=aA (rT I5.out.es I5.out.bx I5.out.cr I5.out.n I5.out.wl (fun N' hN=>oJ I5.out.ts (fun y hy=>.inl hy) (fun z hz=>by obtain⟨y,a,b,_⟩:=hN z hz;exact⟨by omega,y,a,b,fun e=>absurd e hge⟩)) (fun _ N' _ hN=>oM I5.out.ts (I5.out.tc rfl) (fun y hy=>hy) (fun e=>absurd e hge) (fun y hy=>.inl hy) (fun y z a b _ _=>.inl (hN y a z b (fun e=>by cases e)))) h61 h62 h63 h64 h65);clear h61 h62 h63 h64 h65)
     go_wp2
     go_roundw
     case rel=>exact⟨t+1,oq,oc,out,q6,c6,l6,rs6,wk6,mu6,by omega,rfl,rfl,by go_num,I6.out⟩
     case measure=>simp only [intOf];omega
  ·have i0:¬ (0:Int)<(now.length:Int):=by omega
   have HNIL:Hid (∀ y,¬ y∈now):=aA fun y hy=>by
    have:=List.length_pos_of_mem hy
    omega
   go_wp2
   go_ret
   exact⟨oq,oc,out,rs5,wk5,mu5,rfl,I5.out.cr,aBL I5.out.n,fun y hy=>(HMT.out y).2 (I5.out.ts.o y hy),fun e y hy=>(aJ6 I5.out.ts (I5.out.tc e) HNIL.out y).2 ((HMT.out y).1 hy),I5.out.es⟩
end
section
attribute [local go_sem] Oper.semAt_some
variable {H:Gh} {V V':World} {rs rs' rs'':List (Option Nat)} {wk wk':Int} {mu mu' mu'':Bool} {x:Cf}
structure aU9(H:Gh)(w:World)(rs:List (Option Nat))(wk:Int)(kq:Option Addr)(kc i:Nat)(ks:List Tr)(R:Cf->Prop)(oq:Option Addr)(oc:Nat)(out:List Cf)(rs':List (Option Nat))(wk':Int)(mu':Bool)(V:World):Prop where
 es:ES H w rs wk false V rs' wk' mu'
 kl:Ls12 w.heap.size V kq kc (fM i ks)
 cr:CR12 w.heap.size V oq oc out
 n:out.length<=20001
 s:∀ y∈out,R y
 c:mu'=false->∀ y,R y->y∈out
theorem bB7{w w6:World}{kq oq q6:Option Addr}{kc i oc c6:Nat}{ks:List Tr}{R R':Cf->Prop}{out l6:List Cf}{rs5 rs6:List (Option Nat)}{wk5 wk6:Int}{mu5 mu6:Bool}{W:World}{T:Cf->Cf->Prop}(h:aU9 H w rs wk kq kc i ks R oq oc out rs5 wk5 mu5 W)
  (h1:CR12 W.heap.size w6 q6 c6 l6) (h2:l6.length<=20001) (h3:∀ y∈l6,∃ v∈out,T v y/\fuP false v.p y.p) (h4:mu6=false->∀ y,(∃ v∈out,T v y/\fuP false v.p y.p)->y∈l6) (h5:ES H W rs5 wk5 mu5 w6 rs6 wk6 mu6) (hR:∀ y,R' y ↔ ∃ v,R v/\T v y):aU9 H w rs wk kq kc i ks R' q6 c6 l6 rs6 wk6 mu6 w6:=by
 refine⟨h.es.then h5.wm h5.g h5.f (fun _ e=>e.elim) h5.mo h5.wkm,h.kl.wmf h.es.wm h5.f (fun _ e=>e.elim),bI h1 h.es.f.size,h2,fun y hy=>?_,fun e y hy=>?_⟩
 ·obtain⟨v,hv,hh⟩:=h3 y hy
  exact(hR y).2 ⟨v,h.s v hv,hh.1⟩
 ·obtain⟨v,hv,ht⟩:=(hR y).1 hy
  have hmu:mu5=false:=by
   cases h2:mu5 with
   | false=>rfl
   | true=>have:=h5.mo h2;rw [e] at this;cases this
  exact h4 e y ⟨v,h.c hmu v hv,ht,fun e=>by cases e⟩
theorem aS2{n:Nat}(hE:EnC H n)(hk:Gk H){w:World}(hw:WM H w rs wk false){i:Nat}{z:Zl}(hz:H.Z[i]?=some z)(hn:z.1.2.sz<=n+1)(hx:Vf H.L x)(hpl:¬ PlT H.L z.1.2)(hkd:z.1.2.f.k=5) :
  Calls Tryz.prog 27 #[.pointer (some ⟨H.b,0,none⟩),.int .i64 (i:Int),.agg (cfA x)] w (EnP H w rs wk false w.heap.size (Mt H.L z.1.2 x)):=by
 have HKD:=aA hkd
 have HEC:=aA hE
 have HSZ:=aA hn
 have HK:=aA hk
 have B0:Hid (Below w.heap.size w (w.alloc (.cells (cfA x) 69))):=bz9
 have X0:Hid (BoxC (w.alloc (.cells (cfA x) 69)) w.heap.size x):=aD w _
 have W0:=aA (hw.below B0.out)
 have hil:=(m8.1 hz).1
 have iil:(i:Int)<(H.Z.length:Int):=by omega
 have hlen:=hk.len
 have hsm:=hk.sm
 have HZ:=aA hz
 have HX:=aA hx
 have HNP:=aA (((aI z.1.2).1 (hk.npz hz)).1)
 have HPB:Hid (plB H.L z.1.2=false):=aA (by unfold plB;simpa using hpl)
 have HBS:Hid (H.base<=w.heap.size):=aA (aBC (aBA hw.bb hw.b_lt))
 have hk2:z.1.2.ks.length<=2000:=by
  have h1:=eY z.1.2.ks
  have h2:=dA z.1.2
  obtain⟨r,hr⟩:=seg H.t [] i z.1 (hk.at hz)
  have h5:=congrArg List.length hr
  rw [o5,bL,aAR] at h5
  have h4:=congrArg List.length hk.mp
  rw [aAC] at h4
  omega
 clear hw hk hz hx hpl hE hn hkd
 go_enter Tryz.func27,Tryz.ntmps27
 go_upto_region 1 with fail
 generalize (w.alloc (.cells (cfA x) 69))=w1 at B0 X0 W0 ⊢
 have E1:Hid (ES H w rs wk false w1 rs wk false):=⟨W0.out,Grw.refl _ _,Fr.of_below B0.out,fun e=>(by cases e),fun _=>aAW _⟩
 have c0:=W0.out.cell (i:=0) rfl
 have c14:=W0.out.cell (i:=14) rfl
 have c17:=W0.out.cell (i:=17) (v:=.bool false) rfl
 have y0:=W0.out.z.cells HZ.out (j:=0) (v:=.int .i64 z.1.2.f.k) rfl
 have y1:=W0.out.z.cells HZ.out (j:=1) (v:=.int .i64 z.1.2.f.n) rfl
 have y2:=W0.out.z.cells HZ.out (j:=2) (v:=.int .i64 z.1.2.f.mn) rfl
 have y3:=W0.out.z.cells HZ.out (j:=3) (v:=.int .i64 z.1.2.f.mx) rfl
 have y4:=W0.out.z.cells HZ.out (j:=4) (v:=.slice z.1.2.f.rq z.1.2.f.rs.length z.1.2.f.rc) rfl
 have y5:=W0.out.z.cells HZ.out (j:=5) (v:=.slice z.1.2.f.kq z.1.2.f.kl z.1.2.f.kc) rfl
 rw [aAJ] at y0
 go_upto_region 5 with fail
 have B2:Hid (Below w1.heap.size w1 (w1.alloc (.cells #[.int .i64 z.1.2.f.k,.int .i64 z.1.2.f.n,.int .i64 z.1.2.f.mn,.int .i64 z.1.2.f.mx,.slice z.1.2.f.rq z.1.2.f.rs.length z.1.2.f.rc,.slice z.1.2.f.kq z.1.2.f.kl z.1.2.f.kc] 25))):=bz9
 have N2:Hid (BoxN (w1.alloc (.cells #[.int .i64 z.1.2.f.k,.int .i64 z.1.2.f.n,.int .i64 z.1.2.f.mn,.int .i64 z.1.2.f.mx,.slice z.1.2.f.rq z.1.2.f.rs.length z.1.2.f.rc,.slice z.1.2.f.kq z.1.2.f.kl z.1.2.f.kc] 25)) w1.heap.size z.1.2.f):=aD w1 _
 have E2:=aA (E1.out.below B2.out)
 have X2:=aA (X0.out.kept B2.out)
 have HNB:Hid (w.heap.size<w1.heap.size):=aA X0.out.lt
 generalize (w1.alloc (.cells #[.int .i64 z.1.2.f.k,.int .i64 z.1.2.f.n,.int .i64 z.1.2.f.mn,.int .i64 z.1.2.f.mx,.slice z.1.2.f.rq z.1.2.f.rs.length z.1.2.f.rc,.slice z.1.2.f.kq z.1.2.f.kl z.1.2.f.kc] 25))=w2 at B2 E2 X2 N2 ⊢
 clear B2
 generalize w1.heap.size=nb at N2 HNB ⊢
 have d14:=E2.out.wm.cell (i:=14) rfl
 have p0:w2.cell? ⟨H.pb,i,none⟩=some (.bool false):=by
  have:=aP E2.out.wm.pl (j:=i) (u:=.bool (plB H.L z.1.2)) (by simp [HZ.out])
  rw [this,HPB.out]
 clear c0 c14 c17 y0 y1 y2 y3 y4 y5 E1 X0 W0
 obtain⟨n0,n1,n2,n3,n4,n5⟩:=N2.out.six
 simp only [m7] at n1 n2 n3 n4 n5
 have e5:(z.1.2.f.k==5)=true:=by rw [HKD.out];rfl
 have HMT:Hid (∀ y,Mt H.L z.1.2 x y↔MtC H.L z.1.2.ks x y):=fun y=>by rw [cH,if_pos HKD.out]
 go_upto_region 17 with fail
 obtain⟨t0,hi,hz0,hz1,hz2⟩:=aR nK
 have RX:=aA X2.out.get
 have Y7:Hid ((w2.alloc (.cells (cfA x) 69)).ownsRow (w.heap.size+1) 69 21 (.slice none 0 0) 0 []):=aAY _ _ _ _
 have HNEW:Hid (∀ j u,(cfC x)[j]?=some u->(w2.alloc (.cells (cfA x) 69)).cell? ((⟨w2.heap.size,0,none⟩:Addr).add j)=some u):=fU w2 (cfC x) _
 have HB8:Hid (w.heap.size+1<=(w2.alloc (.cells (cfA x) 69)).heap.size):=aA (o0 (Nat.succ_le_of_lt X2.out.lt) (by simp))
 go_upto_region 18 with first
  |((with_reducible refine fF ?_);refine bN rfl _ rfl w.heap.size 0 rfl x RX.out ?_)
  |((with_reducible refine tJ ?_);refine iJ rfl _ rfl x rfl ?_)
  |(at_builtin;refine wpList_append_own_at _ rfl _ _ 63 rfl (w.heap.size+1) 69 t0 tN 21 168 nG hi hz0 hz1 hz2 kY (by decide) (.slice none 0 0) 0 [] rfl Y7.out ⟨w2.heap.size,0,none⟩ 1 1 (cfC x) rfl (cN x) HNEW.out (oY x) (by unfold maxLen;omega) (by omega) HB8.out ?_;intro v' w3 hown' hgrow _ hmv;obtain⟨q3,c3,rfl⟩:=aQ hown';have O3:=aA hown';have G3:=aA hgrow;clear hown' hgrow hmv)
 have B3:Hid (Below w2.heap.size w2 w3):=((Below.refl w2.heap.size w2).alloc lz9 (.cells (cfA x) 69)).trans (((Fr.refl (fun _=>False) _).grown G3.out (fun k e=>by cases e)).below (by simp) (fun _ e=>e.elim))
 have C3:Hid (CR12 w.heap.size w3 q3 c3 [x]):=bI (by simpa using O3.out) (aCA _)
 have E3:=aA (E2.out.below B3.out)
 have KC:=aA (jP HK.out E3.out.wm HZ.out)
 clear n0 n1 n2 n3 n4 n5 d14 p0 Y7 HNEW HB8 O3 G3 RX
 go_upto_region 20 with (go_at_call 52;(with_reducible refine(KC.out).mono ?_);rintro e w4 ⟨kq,kc,rfl,h41,h42⟩;have K4:=aA h41;have B4:=aA h42;clear h41 h42)
 have hkl:(fM i z.1.2.ks).length=z.1.2.ks.length:=dI i z.1.2.ks
 have I4:Hid (aU9 H w rs wk kq kc i z.1.2.ks (fun y=>MtC H.L (z.1.2.ks.take 0) x y) q3 c3 [x] rs wk false w4):=⟨E3.out.below B4.out,K4.out.mono E3.out.f.size,C3.out.kept B4.out,by simp,fun y hy=>by rw [aAL,cE];exact s9.1 hy,fun _ y hy=>by rw [aAL,cE] at hy;rw [hy];simp⟩
 rw [hkl]
 clear hkl E3 K4 B4 C3 B3
 go_loopw [7,13] (fun ov jv wr=>∃ (j:Nat) (oq:Option Addr) (oc:Nat) (out:List Cf) (rs':List (Option Nat)) (wk':Int) (mu':Bool),j<=z.1.2.ks.length/\ov=.slice oq out.length oc/\jv=.int .i64 (j:Int)/\aU9 H w rs wk kq kc i z.1.2.ks (fun y=>MtC H.L (z.1.2.ks.take j) x y) oq oc out rs' wk' mu' wr) (fun _ jv _=>z.1.2.ks.length-(intOf jv).toNat)
 case atStart=>exact⟨0,q3,c3,[x],rs,wk,false,o9 _,rfl,rfl,I4.out⟩
 case round=>
  obtain⟨j,oq,oc,out,rs5,wk5,mu5,hj,rfl,rfl,h5⟩:=hrel
  have I5:=aA h5
  clear h5 I4
  by_cases hjl:j<z.1.2.ks.length
  ·have i0:(j:Int)<(z.1.2.ks.length:Int):=by omega
   have hw2:IntKind.wrap .i64 ((j:Int)+1)=(j:Int)+1:=wrap_small _ (by omega) (by omega)
   obtain⟨u,hu⟩:∃ u,z.1.2.ks[j]?=some u:=⟨_,g9 hjl⟩
   obtain⟨y,q1,q2,q3'⟩:=HK.out.kid HZ.out hu
   have HSN:Hid (∀ v,MtC H.L (z.1.2.ks.take (j+1)) x v ↔ ∃ v',MtC H.L (z.1.2.ks.take j) x v'/\Mt H.L y.1.2 v' v):=fun v=>by rw [q2,s7,hu,aBH,uP]
   have hval:∀ v∈out,Vf H.L v:=fun v hv=>by
    have key:∀ (ks:List Tr) (a b:Cf),MtC H.L ks a b->Vf H.L a->Vf H.L b:=by
     intro ks
     induction ks with
     | nil=>intro a b h ha;rw [cE] at h;rw [h];exact ha
     | cons t ts ih=>
      intro a b h ha
      obtain⟨c,h1,h2⟩:=(bO _ _ _ _).1 h
      exact ih c b h2 (dV t a c h1 ha).1
    exact key _ _ _ (I5.out.s v hv) HX.out
   obtain⟨gk,rfl,gk1,gk2,gk3⟩:=I5.out.kl.at (by rw [dI];omega)
   have x0:=I5.out.kl.cell (iA (i:=i) hjl)
   have EA:=aA (vL HEC.out I5.out.es.wm q1 (by rw [q2];have:=bW (n8 hu);have:=HSZ.out;omega) (c:=oc) I5.out.cr.arg hval I5.out.n false)
   have hkpl:i+1+szs (z.1.2.ks.take j)<2000:=by have:=(m8.1 q1).1;omega
   generalize i+1+szs (z.1.2.ks.take j)=kp at x0 EA hkpl
   clear q1 q2 q3' hu hval
   go_upto_region 21 with (go_at_call 53;(with_reducible refine(EA.out).mono ?_);rintro e w6 ⟨q6,c6,l6,rs6,wk6,mu6,rfl,h61,h62,h63,h64,h65⟩;have I6:Hid (aU9 H w rs wk (some ⟨gk,0,none⟩) kc i z.1.2.ks (fun y=>MtC H.L (z.1.2.ks.take (j+1)) x y) q6 c6 l6 rs6 wk6 mu6 w6):=(bB7 I5.out h61 h62 h63 h64 h65 HSN.out);clear h61 h62 h63 h64 h65)
   go_wp2
   go_roundw
   case rel=>exact⟨j+1,q6,c6,l6,rs6,wk6,mu6,by omega,rfl,by go_num,I6.out⟩
   case measure=>simp only [intOf];omega
  ·have i0:¬ (j:Int)<(z.1.2.ks.length:Int):=by omega
   have HT:Hid (z.1.2.ks.take j=z.1.2.ks):=aA (o4 (by omega))
   go_wp2
   go_ret
   refine⟨oq,oc,out,rs5,wk5,mu5,rfl,I5.out.cr,I5.out.n,fun y hy=>?_,fun e y hy=>?_,I5.out.es⟩
   ·have:=I5.out.s y hy
    rw [HT.out] at this
    exact(HMT.out y).2 this
   ·refine I5.out.c e y ?_
    rw [HT.out]
    exact(HMT.out y).1 hy
end
section
attribute [local go_sem] Oper.semAt_some
variable {H:Gh} {V V':World} {rs rs' rs'':List (Option Nat)} {wk wk':Int} {mu mu' mu'':Bool} {x:Cf}
theorem aS0{n:Nat}(hE:EnC H n)(hk:Gk H){w:World}(hw:WM H w rs wk false){i:Nat}{z:Zl}(hz:H.Z[i]?=some z)(hn:z.1.2.sz<=n+1)(hx:Vf H.L x)(hpl:¬ PlT H.L z.1.2)(hkd:z.1.2.f.k=9) :
  Calls Tryz.prog 27 #[.pointer (some ⟨H.b,0,none⟩),.int .i64 (i:Int),.agg (cfA x)] w (EnP H w rs wk false w.heap.size (Mt H.L z.1.2 x)):=by
 have HKD:=aA hkd
 have HEC:=aA hE
 have HSZ:=aA hn
 have HK:=aA hk
 have B0:Hid (Below w.heap.size w (w.alloc (.cells (cfA x) 69))):=bz9
 have X0:Hid (BoxC (w.alloc (.cells (cfA x) 69)) w.heap.size x):=aD w _
 have W0:=aA (hw.below B0.out)
 have hil:=(m8.1 hz).1
 have iil:(i:Int)<(H.Z.length:Int):=by omega
 have hlen:=hk.len
 have hsm:=hk.sm
 have HZ:=aA hz
 have HX:=aA hx
 have HNP:=aA (((aI z.1.2).1 (hk.npz hz)).1)
 have HPB:Hid (plB H.L z.1.2=false):=aA (by unfold plB;simpa using hpl)
 have HBS:Hid (H.base<=w.heap.size):=aA (aBC (aBA hw.bb hw.b_lt))
 have hk2:z.1.2.ks.length<=2000:=by
  have h1:=eY z.1.2.ks
  have h2:=dA z.1.2
  obtain⟨r,hr⟩:=seg H.t [] i z.1 (hk.at hz)
  have h5:=congrArg List.length hr
  rw [o5,bL,aAR] at h5
  have h4:=congrArg List.length hk.mp
  rw [aAC] at h4
  omega
 clear hw hk hz hx hpl hE hn hkd
 go_enter Tryz.func27,Tryz.ntmps27
 go_upto_region 1 with fail
 generalize (w.alloc (.cells (cfA x) 69))=w1 at B0 X0 W0 ⊢
 have E1:Hid (ES H w rs wk false w1 rs wk false):=⟨W0.out,Grw.refl _ _,Fr.of_below B0.out,fun e=>(by cases e),fun _=>aAW _⟩
 have c0:=W0.out.cell (i:=0) rfl
 have c14:=W0.out.cell (i:=14) rfl
 have c17:=W0.out.cell (i:=17) (v:=.bool false) rfl
 have y0:=W0.out.z.cells HZ.out (j:=0) (v:=.int .i64 z.1.2.f.k) rfl
 have y1:=W0.out.z.cells HZ.out (j:=1) (v:=.int .i64 z.1.2.f.n) rfl
 have y2:=W0.out.z.cells HZ.out (j:=2) (v:=.int .i64 z.1.2.f.mn) rfl
 have y3:=W0.out.z.cells HZ.out (j:=3) (v:=.int .i64 z.1.2.f.mx) rfl
 have y4:=W0.out.z.cells HZ.out (j:=4) (v:=.slice z.1.2.f.rq z.1.2.f.rs.length z.1.2.f.rc) rfl
 have y5:=W0.out.z.cells HZ.out (j:=5) (v:=.slice z.1.2.f.kq z.1.2.f.kl z.1.2.f.kc) rfl
 rw [aAJ] at y0
 go_upto_region 5 with fail
 have B2:Hid (Below w1.heap.size w1 (w1.alloc (.cells #[.int .i64 z.1.2.f.k,.int .i64 z.1.2.f.n,.int .i64 z.1.2.f.mn,.int .i64 z.1.2.f.mx,.slice z.1.2.f.rq z.1.2.f.rs.length z.1.2.f.rc,.slice z.1.2.f.kq z.1.2.f.kl z.1.2.f.kc] 25))):=bz9
 have N2:Hid (BoxN (w1.alloc (.cells #[.int .i64 z.1.2.f.k,.int .i64 z.1.2.f.n,.int .i64 z.1.2.f.mn,.int .i64 z.1.2.f.mx,.slice z.1.2.f.rq z.1.2.f.rs.length z.1.2.f.rc,.slice z.1.2.f.kq z.1.2.f.kl z.1.2.f.kc] 25)) w1.heap.size z.1.2.f):=aD w1 _
 have E2:=aA (E1.out.below B2.out)
 have X2:=aA (X0.out.kept B2.out)
 have HNB:Hid (w.heap.size<w1.heap.size):=aA X0.out.lt
 generalize (w1.alloc (.cells #[.int .i64 z.1.2.f.k,.int .i64 z.1.2.f.n,.int .i64 z.1.2.f.mn,.int .i64 z.1.2.f.mx,.slice z.1.2.f.rq z.1.2.f.rs.length z.1.2.f.rc,.slice z.1.2.f.kq z.1.2.f.kl z.1.2.f.kc] 25))=w2 at B2 E2 X2 N2 ⊢
 clear B2
 generalize w1.heap.size=nb at N2 HNB ⊢
 have d14:=E2.out.wm.cell (i:=14) rfl
 have p0:w2.cell? ⟨H.pb,i,none⟩=some (.bool false):=by
  have:=aP E2.out.wm.pl (j:=i) (u:=.bool (plB H.L z.1.2)) (by simp [HZ.out])
  rw [this,HPB.out]
 clear c0 c14 c17 y0 y1 y2 y3 y4 y5 E1 X0 W0
 obtain⟨n0,n1,n2,n3,n4,n5⟩:=N2.out.six
 simp only [m7] at n1 n2 n3 n4 n5
 have e5:(z.1.2.f.k==5)=false:=by rw [HKD.out];rfl
 have e6:(z.1.2.f.k==6)=false:=by rw [HKD.out];rfl
 have e7:(z.1.2.f.k==7)=false:=by rw [HKD.out];rfl
 have e8:(z.1.2.f.k==8)=false:=by rw [HKD.out];rfl
 have RX:=aA X2.out.get
 have TU:=aA (aB0 HEC.out HK.out E2.out.wm HZ.out HSZ.out HX.out HKD.out)
 go_wp2_with first
  |((with_reducible refine fF ?_);refine bN rfl _ rfl w.heap.size 0 rfl x RX.out ?_)
  |(go_at_call 55;(with_reducible refine(TU.out).mono ?_);rintro e w6 ⟨q6,c6,l6,rs6,wk6,mu6,rfl,h61,h62,h63,h64,h65⟩;have I6:Hid (EnP H w rs wk false w.heap.size (Mt H.L z.1.2 x) (.returned (.slice q6 l6.length c6)) w6):=aA ⟨q6,c6,l6,rs6,wk6,mu6,rfl,bI h61 E2.out.f.size,h62,h63,h64,E2.out.then h65.wm h65.g h65.f (fun _ e=>e.elim) h65.mo h65.wkm⟩;clear h61 h62 h63 h64 h65)
 go_ret
 exact I6.out
theorem vK(hk:Gk H):∀ n,EnC H n
 | 0=>fun i x z W rs wk mu _ hn=>absurd (dO z.1.2) (by omega)
 | n+1=>fun i x z W rs wk mu hz hn hx hw=>by
  cases mu with
  | true=>exact aG2 hw i _
  | false=>
   by_cases hpl:PlT H.L z.1.2
   ·exact yH hk hw hz hx hpl
   ·have hE:=vK hk n
    have hnp:=((aI z.1.2).1 (hk.npz hz)).1
    have leaf:z.1.2.ks=[]->z.1.2.f.k≠8->z.1.2.f.k≠7->False:=fun h0 h8 h7=>hpl ((aI z.1.2).2 ⟨⟨h8,fun e=>absurd e h7⟩,(aT _).2 fun u hu=>by rw [h0] at hu;cases hu⟩)
    rcases zH hnp with k | k | k | k | k | k | k | k | k
    ·exact(leaf (oT hnp (.inl k)) (by omega) (by omega)).elim
    ·exact(leaf (oT hnp (.inr (.inl k))) (by omega) (by omega)).elim
    ·exact(leaf (oT hnp (.inr (.inr (.inl k)))) (by omega) (by omega)).elim
    ·exact(leaf (oT hnp (.inr (.inr (.inr (.inl k))))) (by omega) (by omega)).elim
    ·exact aS2 hE hk hw hz hn hx hpl k
    ·exact aS3 hE hk hw hz hn hx hpl k
    ·exact aS1 hE hk hw hz hn hx hpl k
    ·exact aG3 hE hk hw hz hn hx hpl k
    ·exact aS0 hE hk hw hz hn hx hpl k
end
section
attribute [local go_sem] Oper.semAt_some
variable {H:Gh} {V V':World} {rs rs' rs'':List (Option Nat)} {wk wk':Int} {mu mu' mu'':Bool}
theorem BoxC.putG{b:Nat}{x:Cf}(h:BoxC V b x)(h10:x.g.length=10){n:Nat}(hn:n<10)(A B:Int):BoxC ((V.setCell ⟨b,1+n*2,none⟩ (.int .i64 A)).setCell ⟨b,1+n*2+1,none⟩ (.int .i64 B)) b ⟨x.p,x.g.set n (A,B)⟩:=by
 have:=aJ (aJ h (1+n*2) (.int .i64 A)) (1+n*2+1) (.int .i64 B)
 unfold BoxC
 rw [this]
 unfold cfA
 rw [f8,f8,<- aT2 x.p x.g h10 hn A B]
def cfQ(a k:Nat):Cf:=⟨a,List.replicate k (-1,-1)++List.replicate (10-k) (0,0)⟩
theorem aT5{a k:Nat}(h:k<10):(⟨(cfQ a k).p,(cfQ a k).g.set k (-1,-1)⟩:Cf)=cfQ a (k+1):=by
 rcases k with _ | _ | _ | _ | _ | _ | _ | _ | _ | _ | k
 all_goals first | rfl | omega
theorem bC4(a:Nat):cfQ a 10=cf0 a:=rfl
theorem bC3{a k:Nat}(h:k<=10):(cfQ a k).g.length=10:=by simp [cfQ];omega
theorem bJ0{R:Ending->World->Prop}{a:Act}{W:World}{b:Nat}{x:Cf}(h:BoxC W b x)(ha:a.tmps[2]?.getD undef=.pointer (some ⟨b,0,none⟩))(hd:a.defers=[])(hR:R (.returned (.agg (cfA x))) W):bodyPost Tryz.prog Tryz.f28 R .ret a W:=by
 refine bodyPost_ret (v:=.agg (cfA x)) ?_ hd hR
 have hl:=run_loadVar_mid (P:=Tryz.prog) W b 0 69 (cfC x) _ h.get pD rfl (by rw [lW,cN])
 have hg:a.tmps.getD 2 undef=.pointer (some ⟨b,0,none⟩):=by rw [Array.getD_eq_getD_getElem?];exact ha
 simp only [results,Tryz.results28,List.mapM_toArray,List.mapM_cons,List.mapM_nil,bind_assoc,pure_bind,map_eq_pure_bind,hg,asAddr,Sem.run_bind,Sem.run_pure,hl,Result.andThen_ok]
 rfl
theorem aG5(a:Nat)(w:World):Calls Tryz.prog 28 #[.int .i64 (a:Int)] w fun e w'=>e=.returned (.agg (cfA (cf0 a)))/\Below w.heap.size w w':=by
 have B0:Hid (Below w.heap.size w (w.alloc (.cells #[.int .i64 0,.int .i64 0,.int .i64 0,.int .i64 0,.int .i64 0,.int .i64 0,.int .i64 0,.int .i64 0,.int .i64 0,.int .i64 0,.int .i64 0,.int .i64 0,.int .i64 0,.int .i64 0,.int .i64 0,.int .i64 0,.int .i64 0,.int .i64 0,.int .i64 0,.int .i64 0,.int .i64 0] 69))):=bz9
 have Z0:Hid ((w.alloc (.cells #[.int .i64 0,.int .i64 0,.int .i64 0,.int .i64 0,.int .i64 0,.int .i64 0,.int .i64 0,.int .i64 0,.int .i64 0,.int .i64 0,.int .i64 0,.int .i64 0,.int .i64 0,.int .i64 0,.int .i64 0,.int .i64 0,.int .i64 0,.int .i64 0,.int .i64 0,.int .i64 0,.int .i64 0] 69)).heap[w.heap.size]?=some (.cells #[.int .i64 0,.int .i64 0,.int .i64 0,.int .i64 0,.int .i64 0,.int .i64 0,.int .i64 0,.int .i64 0,.int .i64 0,.int .i64 0,.int .i64 0,.int .i64 0,.int .i64 0,.int .i64 0,.int .i64 0,.int .i64 0,.int .i64 0,.int .i64 0,.int .i64 0,.int .i64 0,.int .i64 0] 69 (0,0))):=aA (aD w _)
 go_enter Tryz.func28,Tryz.ntmps28
 go_upto_region 1 with fail
 generalize (w.alloc (.cells #[.int .i64 0,.int .i64 0,.int .i64 0,.int .i64 0,.int .i64 0,.int .i64 0,.int .i64 0,.int .i64 0,.int .i64 0,.int .i64 0,.int .i64 0,.int .i64 0,.int .i64 0,.int .i64 0,.int .i64 0,.int .i64 0,.int .i64 0,.int .i64 0,.int .i64 0,.int .i64 0,.int .i64 0] 69))=w1 at B0 Z0 ⊢
 obtain⟨b0,hb0⟩:∃ b0,w.heap.size=b0:=⟨_,rfl⟩
 rw [hb0] at Z0 ⊢
 have hb1:=aC Z0.out
 go_upto_region 2 with ((with_reducible refine yM ?_);refine kZ rfl _ _ rfl w1.heap.size (cfQ a 0) rfl rfl (aD _ _) rfl ?_;intro w2 hb2 hf2;have X2:=aA hb2;have B2:Hid (Below w1.heap.size w1 w2):=bB ((Below.refl _ w1).alloc lz9 _) hf2 lz9 (fun k e=>by omega);clear hb2 hf2)
 have Z2:=aA ((B2.out.block _ hb1).trans Z0.out)
 have BW2:=aA (aG B0.out B2.out lz9)
 have hwb:w.heap.size<=w1.heap.size:=B0.out.size
 clear B0 B2 Z0
 generalize w1.heap.size=b at X2 hwb hb1 ⊢
 go_upto_region 3 with fail
 go_loopw [4] (fun iv wr=>∃ i:Nat,i<=10/\iv=.int .i64 (i:Int)/\BoxC wr b (cfQ a i)/\wr.heap[b0]?=some (.cells #[.int .i64 0,.int .i64 0,.int .i64 0,.int .i64 0,.int .i64 0,.int .i64 0,.int .i64 0,.int .i64 0,.int .i64 0,.int .i64 0,.int .i64 0,.int .i64 0,.int .i64 0,.int .i64 0,.int .i64 0,.int .i64 0,.int .i64 0,.int .i64 0,.int .i64 0,.int .i64 0,.int .i64 0] 69 (0,0))/\Below w.heap.size w wr) (fun iv _=>10-(intOf iv).toNat)
 case atStart=>exact⟨0,by omega,rfl,X2.out,Z2.out,BW2.out⟩
 case round=>
  obtain⟨i,hi,rfl,hx,hz,hb⟩:=hrel
  have X3:=aA hx
  have Z3:=aA hz
  have B3:=aA hb
  clear hx hz hb X2 Z2 BW2
  by_cases hil:i<10
  ·have i0:(i:Int)<10:=by omega
   have i1:(0:Int)<=(i:Int):=by omega
   have hw2:IntKind.wrap .i64 ((i:Int)+1)=(i:Int)+1:=wrap_small _ (by omega) (by omega)
   have X4:=aA (X3.out.putG (bC3 (by omega)) hil (-1) (-1))
   rw [aT5 hil] at X4
   have fz:=fun j=>X3.out.frz j
   have g0:∃ v0,wr.cell? ⟨b,1+i*2,none⟩=some v0:=⟨_,aB X3.out (by unfold cfA;rw [List.getElem?_toArray,g9 (by rw [cN];omega)])⟩
   have g1:∃ v1,wr.cell? ⟨b,1+i*2+1,none⟩=some v1:=⟨_,aB X3.out (by unfold cfA;rw [List.getElem?_toArray,g9 (by rw [cN];omega)])⟩
   obtain⟨v0,g0⟩:=g0
   obtain⟨v1,g1⟩:=g1
   go_wp2
   go_roundw
   case rel=>exact⟨i+1,by omega,by go_num,X4.out,(Below.heap_setCell _ _ _ _ (by simp;omega)).trans ((Below.heap_setCell _ _ _ _ (by simp;omega)).trans Z3.out),B3.out.trans (((Fr.refl (fun k=>k=b) wr).setCell (p:=⟨b,1+i*2,none⟩) rfl _ |>.setCell (p:=⟨b,1+i*2+1,none⟩) rfl _).below B3.out.size (fun k e=>by omega))⟩
   case measure=>simp only [intOf];omega
  ·have i0:¬ (i:Int)<10:=by omega
   obtain rfl:i=10:=by omega
   rw [bC4] at X3
   have RX:=aA X3.out.get
   go_wp2_with first
    |((with_reducible refine fF ?_);refine bN rfl _ rfl b 0 rfl (cf0 a) RX.out ?_)
    |((with_reducible refine yM ?_);refine kZ rfl _ _ rfl b0 (cf0 a) rfl rfl Z3.out rfl ?_;intro w5 hb5 hf5;have X5:=aA hb5;have B5:=aA (B3.out.trans (hf5.below B3.out.size (fun k e=>by omega)));clear hb5 hf5)
   refine bJ0 X5.out rfl rfl ⟨rfl,?_⟩
   first | exact B5.out |(rw [<- hb0];exact B5.out)
def EdP(H:Gh)(W:World)(rs:List (Option Nat))(wk:Int)(mu:Bool)(a:Nat)(e:Ending)(W':World):Prop:=∃ (q:Option Addr) (c:Nat) (l:List Nat) (rs':List (Option Nat)) (wk':Int) (mu':Bool),
 e=.returned (.slice q l.length c)/\Ls12 W.heap.size W' q c l/\l.Pairwise (· < ·)/\(∀ j∈l,∃ y,Mt H.L H.t (cf0 a) y/\y.p=j)/\(mu'=false->∀ y,Mt H.L H.t (cf0 a) y->y.p∈l)/\ES H W rs wk mu W' rs' wk' mu'
theorem wG(hk:Gk H){w:World}(hw:WM H w rs wk mu){a:Nat}(ha:a<=H.L.s.size) :
  Calls Tryz.prog 11 #[.pointer (some ⟨H.b,0,none⟩),.int .i64 (a:Int)] w (EdP H w rs wk mu a):=by
 obtain⟨z,hz,hzt⟩:=hk.get (i:=0) (x:=([],H.t)) (by rw [bX];rfl)
 have hzt2:z.1.2=H.t:=by rw [hzt]
 have HMV:Hid (∀ y,Mt H.L H.t (cf0 a) y->y.p<=H.L.s.size):=fun y h=>(dV H.t (cf0 a) y h (nW ha)).1.p
 have EM:=aA (aG5 a w)
 have EN:Hid (∀ W,WM H W rs wk mu->Calls Tryz.prog 27 #[.pointer (some ⟨H.b,0,none⟩),.int .i64 0,.agg (cfA (cf0 a))] W (EnP H W rs wk mu W.heap.size (Mt H.L H.t (cf0 a)))):=fun W hW=>by
  have:=vK hk z.1.2.sz 0 (cf0 a) z W rs wk mu hz lz9 (nW ha) hW
  rw [hzt2] at this
  exact this
 have HW:=aA hw
 have hsm:=hk.sm
 obtain⟨N,hN⟩:∃ N,H.L.s.size+1=N:=⟨_,rfl⟩
 have hwN:IntKind.wrap .i64 ((H.L.s.size:Int)+1)=(N:Int):=by rw [wrap_small _ (by omega) (by omega)];omega
 have MB:=eA N (by omega)
 have HN:=aA hN
 have hN1:N<=1001:=by omega
 have HLE:=aA (o0 hw.bb (aBC hw.b_lt))
 clear hN hw hz hzt hzt2
 go_enter Tryz.func11,Tryz.ntmps11
 go_upto_region 2 with first
  |(go_at_call 28;(with_reducible refine(EM.out).mono ?_);rintro e w1 ⟨rfl,h1⟩;have B1:=aA h1;have W1:=aA (HW.out.below h1);clear h1)
  |(go_at_call 27;(with_reducible refine(EN.out _ W1.out).mono ?_);rintro e w2 ⟨q2,c2,l,rs2,wk2,mu2,rfl,h21,h22,h23,h24,h25⟩;have L2:=aA h21;have hll:=h22;have S2:=aA h23;have C2:=aA h24;have E2:Hid (ES H w rs wk mu w2 rs2 wk2 mu2):=aA (((ES.refl HW.out).below B1.out).then h25.wm h25.g h25.f (fun _ e=>e.elim) h25.mo h25.wkm);have hs12:=h25.f.size;clear h21 h22 h23 h24 h25)
 have d1:=E2.out.wm.cell (i:=1) rfl
 have hs01:w.heap.size<=w2.heap.size:=o0 B1.out.size hs12
 go_upto_region 3 with fail
 have B3:Hid (Below w2.heap.size w2 (w2.alloc (.cells (noC N) 4))):=bz9
 have R3:Hid (BR w.heap.size (w2.alloc (.cells (noC N) 4)) w2.heap.size N (cJ N)):=iW hs01 (by omega)
 have E3:=aA (E2.out.below B3.out)
 have L3:=aA (L2.out.kept B3.out)
 have hpb:=E2.out.wm.pb_lt
 generalize (w2.alloc (.cells (noC N) 4))=w3 at R3 E3 L3 ⊢
 generalize w2.heap.size=g at R3 hpb hs01 ⊢
 clear d1 B3 E2 L2 B1 W1 hs12
 have HNL:Hid ((cJ N).length=N):=aA (cZ N)
 have M3:Hid (MkI w.heap.size g N w3 (cJ N) (fun _=>True) ((l.map Cf.p).take 0) (cJ N) w3):=⟨R3.out,rfl,fun j=>by simp,Fr.refl _ _⟩
 go_upto_region 4 with fail
 go_loopw [7] (fun iv wr=>∃ (k:Nat) (is':List Bool),k<=l.length/\iv=.int .i64 (k:Int)/\MkI w.heap.size g N w3 (cJ N) (fun _=>True) ((l.map Cf.p).take k) is' wr) (fun iv _=>l.length-(intOf iv).toNat)
 case atStart=>exact⟨0,cJ N,o9 _,rfl,M3.out⟩
 case round=>
  obtain⟨k,is',hkl,rfl,hm⟩:=hrel
  have HM:=aA hm
  clear hm M3
  by_cases hlt:k<l.length
  ·have i0:(k:Int)<(l.length:Int):=by omega
   have hw2:IntKind.wrap .i64 ((k:Int)+1)=(k:Int)+1:=wrap_small _ (by omega) (by omega)
   obtain⟨y,hy⟩:∃ y,l[k]?=some y:=⟨_,g9 hlt⟩
   have hyp:y.p<=H.L.s.size:=HMV.out y (S2.out y (n8 hy))
   obtain⟨gm,rfl,gm1,gm2,cs,gm3⟩:=L3.out.at (by omega)
   have hne:gm≠g:=by
    obtain⟨cs',hc⟩:=R3.out.ty
    exact bD gm3 hc (by decide)
   have HT:Hid ((l.map Cf.p).take (k+1)=(l.map Cf.p).take k++[y.p]):=aA (by rw [s7,aAO,hy];rfl)
   have y0:wr.cell? ⟨gm,k*21,none⟩=some (.int .i64 (y.p:Int)):=by
    have e:=HM.out.f.block gm gm1 hne
    have h1:=L3.out.get hy 0 _ rfl
    rw [aAJ] at h1
    unfold World.cell? at h1 ⊢
    rw [e]
    exact h1
   obtain⟨x,hx⟩:∃ x,y.p=x:=⟨_,rfl⟩
   rw [hx] at y0 HT hyp
   clear hx hy
   have hxN:(x:Int)<(N:Int):=by have:=HN.out;omega
   have hfz:=HM.out.r.frz x
   have hc:∃ b,wr.cell? ⟨g,x,none⟩=some (.bool b):=⟨_,HM.out.r.cell (g9 (by rw [HM.out.n,HNL.out];omega))⟩
   obtain⟨b0,hb0⟩:=hc
   have HNX:=aA (HM.out.snoc (x:=x) (by rw [HNL.out];omega) trivial)
   go_wp2
   go_roundw
   case rel=>exact⟨k+1,_,by omega,by go_num,by rw [HT.out];exact HNX.out⟩
   case measure=>simp only [intOf];omega
  ·have i0:¬ (k:Int)<(l.length:Int):=by omega
   have HT:Hid ((l.map Cf.p).take k=l.map Cf.p):=aA (o4 (by simp;omega))
   have hil:is'.length=N:=by rw [HM.out.n,HNL.out]
   have RI:=aA (dD (w:=wr) HM.out.r (by omega))
   rw [hil] at RI
   have HIL:=aA hil
   clear hil
   go_wp2_with (go_at_call 29;(with_reducible refine(RI.out).mono ?_);rintro e w5 ⟨q5,c5,rfl,h51,h52⟩;have L5:=aA h51;have B5:=aA h52;clear h51 h52)
   go_ret
   have hmem:∀ j,j∈eG is' N ↔ ∃ y∈l,y.p=j:=fun j=>by
    have h1:j∈eG is' is'.length↔is'[j]?=some true:=hQ
    rw [HIL.out] at h1
    rw [h1,HM.out.m j,HT.out]
    constructor
    ·rintro (q | ⟨q,-⟩)
     ·exact absurd q dW
     ·exact s4.1 q
    ·rintro ⟨y,hy,e⟩
     exact .inr ⟨s4.2 ⟨y,hy,e⟩,trivial⟩
   have E4:ES H w rs wk mu wr rs2 wk2 mu2:=⟨E3.out.wm.mark R3.out HM.out.f (o0 HLE.out hs01) (by omega),E3.out.g,mS E3.out.f E3.out.g (HM.out.f.mono (fun k e=>Or.inr e):Fr (fun k=>wmf H rs2 k\/k=g) w3 wr) (fun i e=>.inr (by omega)),E3.out.mo,E3.out.wkm⟩
   refine⟨q5,c5,eG is' N,rs2,wk2,mu2,rfl,L5.out.mono E4.f.size,zF _ _,fun j hj=>?_,fun e y hy=>?_,E4.below B5.out⟩
   ·obtain⟨y,hy,e⟩:=(hmem j).1 hj
    exact⟨y,S2.out y hy,e⟩
   ·exact(hmem y.p).2 ⟨y,C2.out e y hy,rfl⟩
end
theorem aO5(most:Nat):∀ (a:List El) (k j:Nat) (z:Zl),(tl most k a)[j]?=some z->z.2=min (k+j+z.1.2.sz) most
 | [],k,j,z,h=>by simp [tl] at h
 | x :: a,k,0,z,h=>by
  rw [tl] at h
  simp at h
  subst h
  rfl
 | x :: a,k,j+1,z,h=>by
  rw [tl,aAP] at h
  have:=aO5 most a (k+1) j z h
  omega
theorem bL3{most:Nat}{t:Tr}{j:Nat}{z:Zl}(h:(gM most t)[j]?=some z):z.2=min (j+z.1.2.sz) most:=by
 have h':((tl most 0 (pp [] t)).take most)[j]?=some z:=by
  unfold gM jM at h
  rw [aAI,List.length_nil,Nat.sub_zero] at h
  exact h
 have hj:(tl most 0 (pp [] t))[j]?=some z:=by
  obtain⟨hl,hv⟩:=m8.1 h'
  rw [aAG] at hl
  rw [List.getElem_take] at hv
  exact m8.2 ⟨by omega,hv⟩
 have:=aO5 _ _ _ _ _ hj
 omega
def uB(Z:List Zl)(m:Nat):Bool:=Z.any fun z=>z.1.2.f.k==8&&z.1.2.f.n==(m:Int)
theorem aV4{Z:List Zl}{i:Nat}{z:Zl}(h:Z[i]?=some z)(m:Nat):uB (Z.take (i+1)) m=(uB (Z.take i) m ||(z.1.2.f.k==8&&z.1.2.f.n==(m:Int))):=by
 rw [s7,h]
 simp [uB]
def bdB(L:Ln)(f:Fl):Bool:=f.k==8 ||(f.k==7&&kep L f.n)
def okR(L:Ln)(l:List Zl):Bool:=l.all fun z=>!bdB L z.1.2.f
theorem aN7{L:Ln}{Z:List Zl}{i k:Nat}{z:Zl}(hik:i<=k)(h:Z[k]?=some z):okR L ((Z.drop i).take (k+1-i))=(okR L ((Z.drop i).take (k-i)) && !bdB L z.1.2.f):=by
 have:k+1-i=(k-i)+1:=by omega
 rw [this,s7,aBV,show i+(k-i)=k by omega,h]
 simp [okR]
theorem aZ1{L:Ln}{t:Tr}{Z:List Zl}(hm:Z.map (·.1)=pp [] t){i:Nat}{z:Zl}(hz:Z[i]?=some z):okR L ((Z.drop i).take z.1.2.sz)=plB L z.1.2:=by
 have hi:(pp [] t)[i]?=some z.1:=by rw [<- hm,aAO,hz];rfl
 obtain⟨r,hr⟩:=seg t [] i z.1 hi
 have hs:((Z.drop i).take z.1.2.sz).map (·.1)=pp z.1.1 z.1.2:=by
  rw [List.map_take,List.map_drop,hm,hr,List.take_append_of_le_length (by rw [bL];exact t8 _),o4 (by rw [bL];exact t8 _)]
 have hall:okR L ((Z.drop i).take z.1.2.sz)=true ↔ ∀ x∈pp z.1.1 z.1.2,bdB L x.2.f=false:=by
  rw [<- hs]
  unfold okR
  rw [List.all_eq_true]
  constructor
  ·intro h x hx
   obtain⟨y,hy,rfl⟩:=s4.1 hx
   simpa using h y hy
  ·intro h y hy
   simpa using h y.1 (s4.2 ⟨y,hy,rfl⟩)
 have hbd:∀ f:Fl,bdB L f=false↔(f.k≠8/\(f.k=7->kep L f.n=false)):=fun f=>by
  unfold bdB
  by_cases h8:f.k=8
  ·simp [h8]
  ·by_cases h7:f.k=7
   ·simp [h7]
   ·simp [h8,h7]
 have hp:(∀ x∈pp z.1.1 z.1.2,bdB L x.2.f=false)↔PlT L z.1.2:=by
  constructor
  ·intro h
   exact vI z.1.2 z.1.1 fun x hx=>(hbd _).1 (h x hx)
  ·intro h x hx
   exact(hbd _).2 ((aI x.2).1 (fD z.1.2 z.1.1 h x hx)).1
 rw [Bool.eq_iff_iff,hall,hp]
 unfold plB
 simp
def nwA(v:Value)(s:ByteArray)(c o:Bool)(u:Nat->Bool)(p r:Value):Array Value:=#[v,.string s,.bool c,.bool o,.bool (u 0),.bool (u 1),.bool (u 2),.bool (u 3),.bool (u 4),.bool (u 5),.bool (u 6),.bool (u 7),.bool (u 8),.bool (u 9),p,r,.int .i64 0,.bool false]
theorem aZ6{v:Value}{s:ByteArray}{c o:Bool}{u:Nat->Bool}{p r:Value}{n:Nat}(hn:n<10):(nwA v s c o u p r).setIfInBounds (4+n) (.bool true)=nwA v s c o (fun m=>if m=n then true else u m) p r:=by
 rcases n with _ | _ | _ | _ | _ | _ | _ | _ | _ | _ | n
 all_goals first | rfl | omega
theorem bE4{v:Value}{s:ByteArray}{c o:Bool}{u:Nat->Bool}{p r:Value}{n:Nat}(hn:n<10):(nwA v s c o u p r)[4+n]?=some (.bool (u n)):=by
 rcases n with _ | _ | _ | _ | _ | _ | _ | _ | _ | _ | n
 all_goals first | rfl | omega
theorem aB3:(Tryz.prog.info? 110).map (fun i=>(i.zero,i.size,i.bytes))=some (some (.slice none 0 0),1,24):=by kernel_rfl
theorem aI4:Tryz.prog.underlying 41=some (.slice 110):=by kernel_rfl
def rzC(n:Nat):Array Value:=(List.replicate n (Value.slice none 0 0)).toArray
theorem aE3(n:Nat)(h:n<=1000000)(w:World) :
  (Instr.makeSlice 41 (.int .i64 (n:Int)) (.int .i64 (n:Int))).run Tryz.prog w=.ok (.slice (some ⟨w.heap.size,0,none⟩) n n) (w.alloc (.cells (rzC n) 110)):=by
 obtain⟨i0,hi,hz0,hz1,hz2⟩:=aR aB3
 have:=run_make (P:=Tryz.prog) w 41 110 i0 (.slice none 0 0) aI4 hi hz0 .i64 .i64 (n:Int) (n:Int) (by omega) (by omega) (by rw [hz2];omega) (by omega)
 rw [hz1] at this
 have e:madeCells #[.slice none 0 0] n=rzC n:=by
  unfold rzC
  apply Array.ext
  ·simp [madeCells]
  intro i h1 h2
  simp [madeCells,Nat.mod_one]
 rw [<- e]
 simpa [Value.cells] using this
def bQ4(w:World)(t:Tr)(s:ByteArray)(c o:Bool)(e:Ending)(w':World):Prop:=∃ (H:Gh) (rs:List (Option Nat)),e=.returned (.pointer (some ⟨H.b,0,none⟩))/\WM H w' rs 0 false/\Gk H/\H.t=t/\H.L.s=s/\H.L.c=c/\H.L.o=o/\H.base=w.heap.size/\H.L.u=uB H.Z/\Below w.heap.size w w'
inductive Sgn where
 | lf (k n:Int) (rs:List (Int×Int))
 | op (n:Nat)
 | cl
 | al
 | rp (a b:Int)
inductive Ps where
 | lf (k n:Int) (rs:List (Int×Int))
 | grp (n:Nat) (x:Ps)
 | rep (a b:Int) (x:Ps)
 | row (l:List Ps)
 | alt (l:List Ps)
mutual
def Ps.sz:Ps->Nat
 | .lf _ _ _=>1
 | .grp _ x=>x.sz+1
 | .rep _ _ x=>x.sz+1
 | .row l=>bU l+1
 | .alt l=>bU l+1
def bU:List Ps->Nat
 | []=>0
 | x :: l=>x.sz+bU l
end
mutual
def Ps.dp:Ps->Nat
 | .lf _ _ _=>1
 | .grp _ x=>x.dp+1
 | .rep _ _ x=>x.dp+1
 | .row l=>gK l+1
 | .alt l=>gK l+1
def gK:List Ps->Nat
 | []=>0
 | x :: l=>max x.dp (gK l)
end
mutual
def pfl:Ps->List Sgn
 | .lf k n rs=>[.lf k n rs]
 | .grp n x=>.op n :: (pfl x++[.cl])
 | .rep a b x=>pfl x++[.rp a b]
 | .row l=>eK l
 | .alt l=>lH l
def eK:List Ps->List Sgn
 | []=>[]
 | x :: l=>pfl x++eK l
def lH:List Ps->List Sgn
 | []=>[]
 | x :: l=>pfl x++eH l
def eH:List Ps->List Sgn
 | []=>[]
 | x :: l=>.al :: (pfl x++eH l)
end
mutual
def te:Ps->Er
 | .lf k n rs=>.mk k n 0 0 rs []
 | .grp n x=>.mk 7 n 0 0 [] [te x]
 | .rep a b x=>.mk 9 0 a b [] [te x]
 | .row l=>if l.isEmpty then .mk 1 0 0 0 [] [] else .mk 5 0 0 0 [] (tes l)
 | .alt l=>.mk 6 0 0 0 [] (tes l)
def tes:List Ps->List Er
 | []=>[]
 | x :: l=>te x :: tes l
end
theorem bP(l:List Ps):tes l=l.map te:=by
 induction l with
 | nil=>rw [tes];rfl
 | cons x l ih=>rw [tes,ih];rfl
def Ps.kd:Ps->Int
 | .lf k _ _=>k
 | .grp _ _=>7
 | .rep _ _ _=>9
 | .row l=>if l.isEmpty then 1 else 5
 | .alt _=>6
def iB:Ps->Bool
 | .row _=>false
 | .alt _=>false
 | _=>true
def kQ:Ps->Bool
 | .alt _=>false
 | _=>true
def fW:Ps->Bool
 | .lf k _ _=>k==2||k==8
 | .grp _ _=>true
 | .rep _ _ _=>true
 | _=>false
def bN4(l:List Ps):Prop:=∀ (i:Nat) (x:Ps),l[i]?=some x->iB x=true/\(x.kd=3->i=0)/\(x.kd=4->i+1=l.length)
mutual
def wf:Ps->Prop
 | .lf k _ _=>k=2\/k=3\/k=4\/k=8
 | .grp _ x=>wf x
 | .rep _ _ x=>fW x=true/\wf x
 | .row l=>l.length≠1/\bN4 l/\wfs l
 | .alt l=>2<=l.length/\(∀ x∈l,kQ x=true)/\wfs l
def wfs:List Ps->Prop
 | []=>True
 | x :: l=>wf x/\wfs l
end
theorem dC(l:List Ps):wfs l ↔ ∀ x∈l,wf x:=by
 induction l with
 | nil=>rw [wfs];simp
 | cons x l ih=>rw [wfs,ih];simp
theorem aN3(x:Ps):eK [x]=pfl x:=by rw [eK,eK,t9]
theorem gG(x:Ps):1<=x.sz:=by cases x <;> simp [Ps.sz]
theorem bH(x:Ps)(l:List Ps):bU (x :: l)=x.sz+bU l:=by rw [bU]
theorem gZ:bU []=0:=by rw [bU]
theorem zC{x:Ps}{l:List Ps}(h:x∈l):x.sz<=bU l:=by
 induction l with
 | nil=>cases h
 | cons y l ih=>
  rw [bH]
  rcases u0.1 h with rfl | h
  ·omega
  ·have:=ih h;omega
def Ps.kids:Ps->List Ps
 | .lf _ _ _=>[]
 | .grp _ x=>[x]
 | .rep _ _ x=>[x]
 | .row l=>l
 | .alt l=>l
theorem zD{x y:Ps}(h:y∈x.kids):y.sz<x.sz:=by
 cases x with
 | lf=>cases h
 | grp n k=>simp [Ps.kids] at h;subst h;simp [Ps.sz]
 | rep a b k=>simp [Ps.kids] at h;subst h;simp [Ps.sz]
 | row l=>have:=zC (show y∈l from h);simp [Ps.sz];omega
 | alt l=>have:=zC (show y∈l from h);simp [Ps.sz];omega
theorem Ps.ind{P:Ps->Prop}(h:∀ x,(∀ y∈x.kids,P y)->P x)(x:Ps):P x:=by
 have:∀ (m:Nat) (x:Ps),x.sz<=m->P x:=by
  intro m
  induction m with
  | zero=>intro x hx;have:=gG x;omega
  | succ m ih=>intro x hx;exact h x fun y hy=>ih y (by have:=zD hy;omega)
 exact this x.sz x lz9
theorem eJ{x y:Ps}(h:wf x)(hy:y∈x.kids):wf y:=by
 cases x with
 | lf=>cases hy
 | grp n k=>simp [Ps.kids] at hy;subst hy;rw [wf] at h;exact h
 | rep a b k=>simp [Ps.kids] at hy;subst hy;rw [wf] at h;exact h.2
 | row l=>rw [wf] at h;exact(dC l).1 h.2.2 y hy
 | alt l=>rw [wf] at h;exact(dC l).1 h.2.2 y hy
def hk:Nat->List Nat->List Nat->List Sgn->Prop
 | _,o,_,[]=>o=[]
 | g,o,e,.op n :: l=>n=g+1/\g<30/\hk (g+1) (n :: o) e l
 | g,o,e,.cl :: l=>∃ n o',o=n :: o'/\hk g o' (n :: e) l
 | g,o,e,.lf k n _ :: l=>(k=8->∃ i∈e,n=(i:Int))/\hk g o e l
 | g,o,e,_ :: l=>hk g o e l
def mkB(l:List Ps):Ps:=match l with
 | [x]=>x
 | l=>.row l
def mkP(l:List Ps):Ps:=match l with
 | [x]=>x
 | l=>.alt l
theorem uS(l:List Ps):pfl (mkB l)=eK l:=by
 unfold mkB
 split
 ·rw [aN3]
 ·rw [pfl]
section
mutual
def grs:Ps->Nat
 | .lf _ _ _=>0
 | .grp _ x=>grs x+1
 | .rep _ _ x=>grs x
 | .row l=>bT l
 | .alt l=>bT l
def bT:List Ps->Nat
 | []=>0
 | x :: l=>grs x+bT l
end
def isE:Ps->Bool
 | .row []=>true
 | _=>false
theorem oV(x:Ps):isE x=true↔x=.row []:=by
 cases x with
 | row l=>cases l <;> simp [isE]
 | lf=>simp [isE]
 | grp=>simp [isE]
 | rep=>simp [isE]
 | alt=>simp [isE]
def kS:Ps->Bool
 | .rep a b _=>a==0&&b==-1
 | _=>false
def isS:Ps->Bool
 | .lf k _ _=>k==2
 | _=>false
def rsP:Ps->List (Int×Int)
 | .lf _ _ rs=>rs
 | _=>[]
def iL(a b:Int)(x:Ps):Ps:=if a=1/\b=1 then x else if a=0/\b=-1/\kS x=true then x else if b=0/\grs x=0 then .row [] else if isE x then .row [] else .rep a b x
def jC(l:List Ps):Ps:=if l.any isE then mkB (l.filter fun x=>!isE x) else .row l
def bV(u:List (Int×Int)):Bool->List Ps->List Ps
 | _,[]=>[]
 | s,x :: l=>if isS x then (if s then bV u s l else .lf 2 0 u :: bV u true l) else x :: bV u s l
def bG(un:List (Int×Int)->List (Int×Int))(l:List Ps):List Ps:=if 2<=(l.filter isS).length then bV (un ((l.filter isS).flatMap rsP)) false l else l
open Classical in
noncomputable def aW:List Ps->List Ps->List Ps
 | acc,[]=>acc
 | acc,x :: l=>if x∈acc then aW acc l else aW (acc++[x]) l
noncomputable def kO (un:List (Int×Int)->List (Int×Int)) (l:List Ps):Ps:=mkP (aW [] (bG un l))
variable (un:List (Int×Int)->List (Int×Int))
mutual
noncomputable def sim:Ps->Ps
 | .lf k n rs=>.lf k n rs
 | .grp n x=>.grp n (sim x)
 | .rep a b x=>iL a b (sim x)
 | .row l=>jC (cC l)
 | .alt l=>kO un (cC l)
noncomputable def cC:List Ps->List Ps
 | []=>[]
 | x :: l=>sim x :: cC l
end
theorem cY(l:List Ps):cC un l=l.map (sim un):=by
 induction l with
 | nil=>rw [cC];rfl
 | cons x l ih=>rw [cC,ih];rfl
theorem cX(l:List Ps):∀ (acc:List Ps) (x:Ps),x∈aW acc l↔x∈acc\/x∈l:=by
 induction l with
 | nil=>intro acc x;rw [aW];simp
 | cons y l ih=>
  intro acc x
  rw [aW]
  split
  ·rename_i h
   rw [ih,u0]
   constructor
   ·rintro (q | q)
    ·exact .inl q
    ·exact .inr (.inr q)
   ·rintro (q | q | q)
    ·exact .inl q
    ·rw [q];exact .inl h
    ·exact .inr q
  ·rw [ih,o3,s9,u0,or_assoc]
theorem jF(l:List Ps):∀ (acc:List Ps),acc.Nodup->(aW acc l).Nodup:=by
 induction l with
 | nil=>intro acc h;rw [aW];exact h
 | cons y l ih=>
  intro acc h
  rw [aW]
  split
  ·exact ih acc h
  ·rename_i hy
   exact ih _ (List.nodup_append.2 ⟨h,List.nodup_cons.2 ⟨fun q=>(by cases q),List.nodup_nil⟩,fun a ha b hb=>by rw [s9.1 hb];intro e;exact hy (e ▸ ha)⟩)
theorem fP(u:List (Int×Int))(l:List Ps):∀ (s:Bool) (x:Ps),x∈bV u s l->x=.lf 2 0 u\/(x∈l/\isS x=false):=by
 induction l with
 | nil=>intro s x h;rw [bV] at h;cases h
 | cons y l ih=>
  intro s x h
  rw [bV] at h
  split at h
  ·split at h
   ·exact(ih _ x h).imp id (fun q=>⟨m9 _ q.1,q.2⟩)
   ·rcases u0.1 h with e | e
    ·exact .inl e
    ·exact(ih _ x e).imp id (fun q=>⟨m9 _ q.1,q.2⟩)
  ·rename_i hy
   rcases u0.1 h with e | e
   ·exact .inr ⟨by rw [e];exact n9 ..,by rw [e];simpa using hy⟩
   ·exact(ih _ x e).imp id (fun q=>⟨m9 _ q.1,q.2⟩)
theorem kH{l:List Ps}{x:Ps}(h:x∈bG un l):(∃ u,x=.lf 2 0 u)\/x∈l:=by
 unfold bG at h
 split at h
 ·rcases fP _ _ _ _ h with e | e
  ·exact .inl ⟨_,e⟩
  ·exact .inr e.1
 ·exact .inr h
theorem oL(x:Ps):wf x->fW x=true->fW (sim un x)=true\/sim un x=.row []:=by
 refine Ps.ind (P:=fun x=>wf x->fW x=true->fW (sim un x)=true\/sim un x=.row []) (fun x ih hw ht=>?_) x
 cases x with
 | lf k n rs=>rw [sim];exact .inl ht
 | grp n y=>rw [sim];exact .inl rfl
 | rep a b y=>
  rw [wf] at hw
  have hy:=ih y (by simp [Ps.kids]) hw.2 hw.1
  rw [sim]
  unfold iL
  split
  ·exact hy
  split
  ·exact hy
  split
  ·exact .inr rfl
  split
  ·exact .inr rfl
  ·exact .inl rfl
 | row l=>cases ht
 | alt l=>cases ht
theorem aB1{x:Ps}(h:fW x=true):iB x=true/\x.kd≠3/\x.kd≠4:=by
 cases x with
 | lf k n rs=>
  simp [fW] at h
  refine⟨rfl,?_,?_⟩ <;> simp [Ps.kd] <;> omega
 | grp n y=>exact⟨rfl,by simp [Ps.kd],by simp [Ps.kd]⟩
 | rep a b y=>exact⟨rfl,by simp [Ps.kd],by simp [Ps.kd]⟩
 | row l=>cases h
 | alt l=>cases h
theorem tA{x:Ps}(hw:wf x)(h:iB x=true):(iB (sim un x)=true/\((sim un x).kd=3->x.kd=3)/\((sim un x).kd=4->x.kd=4))\/sim un x=.row []:=by
 cases x with
 | lf k n rs=>rw [sim];exact .inl ⟨rfl,fun e=>e,fun e=>e⟩
 | grp n y=>rw [sim];exact .inl ⟨rfl,fun e=>(by simp [Ps.kd] at e),fun e=>(by simp [Ps.kd] at e)⟩
 | rep a b y=>
  rcases oL un (.rep a b y) hw rfl with e | e
  ·obtain⟨h1,h2,h3⟩:=aB1 e
   exact .inl ⟨h1,fun q=>absurd q h2,fun q=>absurd q h3⟩
  ·exact .inr e
 | row l=>cases h
 | alt l=>cases h
theorem bL0{l:List Ps}(h:∀ x∈l,iB x=true):kQ (mkB l)=true:=by
 match l,h with
 | [],_=>rfl
 | [x],h=>have:=h x (by simp);show kQ x=true;cases x <;> first | rfl | cases this
 | _ :: _ :: _,_=>rfl
theorem wB{l:List Ps}(h:∀ (i:Nat) (x:Ps),l[i]?=some x->isE x=false->iB x=true/\(x.kd=3->i=0)/\(x.kd=4->i+1=l.length)):bN4 (l.filter fun x=>!isE x):=by
 induction l with
 | nil=>intro i x hx;simp at hx
 | cons y l ih=>
  have ht:∀ (i:Nat) (x:Ps),l[i]?=some x->isE x=false->iB x=true/\(x.kd=3->False)/\(x.kd=4->i+1=l.length):=fun i x hx he=>by
   obtain⟨h1,h2,h3⟩:=h (i+1) x (by simpa using hx) he
   refine⟨h1,fun e=>by have:=h2 e;omega,fun e=>by have:=h3 e;simp at this;omega⟩
  have ih':=ih fun i x hx he=>⟨(ht i x hx he).1,fun e=>((ht i x hx he).2.1 e).elim,(ht i x hx he).2.2⟩
  have h3':∀ x∈l,isE x=false->x.kd≠3:=fun x hx he e=>by
   obtain⟨i,hi,e2⟩:=List.getElem_of_mem hx
   exact(ht i x (by rw [g9 hi,e2]) he).2.1 e
  rw [aAV]
  by_cases he:isE y=true
  ·rw [if_neg (by rw [he];simp)]
   exact ih'
  ·have he:isE y=false:=by simpa using he
   rw [if_pos (by rw [he];rfl)]
   intro i x hx
   cases i with
   | zero=>
    rw [List.getElem?_cons_zero] at hx
    cases hx
    obtain⟨h1,h2,h3⟩:=h 0 y rfl he
    refine⟨h1,fun _=>rfl,fun e=>?_⟩
    have:=h3 e
    simp at this
    subst this
    rfl
   | succ i=>
    rw [aAP] at hx
    obtain⟨h1,h2,h3⟩:=ih' i x hx
    have hm:=n8 hx
    rw [aAF] at hm
    refine⟨h1,fun e=>absurd e (h3' x hm.1 (by simpa using hm.2)),fun e=>by have:=h3 e;simp;omega⟩
theorem bF9{l:List Ps}(ha:bN4 l)(hw:∀ x∈l,wf x):wf (mkB l):=by
 match l,ha,hw with
 | [],ha,_=>show wf (.row []);rw [wf];exact⟨by simp,ha,(dC _).2 (fun _ h=>by cases h)⟩
 | [x],_,hw=>exact hw x (by simp)
 | x :: y :: r,ha,hw=>show wf (.row _);rw [wf];exact⟨by simp,ha,(dC _).2 hw⟩
theorem bF8{l:List Ps}(hn:l≠[])(hb:∀ x∈l,kQ x=true)(hw:∀ x∈l,wf x):wf (mkP l):=by
 match l,hn,hb,hw with
 | [],hn,_,_=>exact absurd rfl hn
 | [x],_,_,hw=>exact hw x (by simp)
 | x :: y :: r,_,hb,hw=>show wf (.alt _);rw [wf];exact⟨by simp,hb,(dC _).2 hw⟩
theorem tW(u:List (Int×Int))(l:List Ps):l≠[]->bV u false l≠[]:=by
 cases l with
 | nil=>intro h;exact absurd rfl h
 | cons x l=>
  intro _
  rw [bV]
  split <;> simp
theorem uY{l:List Ps}(h:l≠[]):bG un l≠[]:=by
 unfold bG
 split
 ·exact tW _ _ h
 ·exact h
theorem pG{l:List Ps}(h:l≠[]):aW [] l≠[]:=fun e=>by
 obtain⟨x,hx⟩:=List.exists_mem_of_ne_nil l h
 have:=(cX l [] x).2 (.inr hx)
 rw [e] at this
 cases this
theorem aT8(x:Ps)(hw:wf x)(h:kQ x=true)(hk:∀ y∈x.kids,wf y):kQ (sim un x)=true:=by
 cases x with
 | lf k n rs=>rw [sim];rfl
 | grp n y=>rw [sim];rfl
 | rep a b y=>
  rcases oL un (.rep a b y) hw rfl with e | e
  ·generalize sim un (.rep a b y)=z at e
   cases z <;> first | rfl | cases e
  ·rw [e];rfl
 | row l=>
  rw [sim]
  unfold jC
  split
  ·refine bL0 fun z hz=>?_
   rw [aAF,cY] at hz
   obtain⟨y,hy,e⟩:=s4.1 hz.1
   rw [wf] at hw
   obtain⟨i,hi,e2⟩:=List.getElem_of_mem hy
   have:=(hw.2.1 i y (by rw [g9 hi,e2])).1
   rcases tA un (hk y hy) this with q | q
   ·rw [<- e];exact q.1
   ·rw [<- e,q] at hz;simp [isE] at hz
  ·rfl
 | alt l=>cases h
theorem pB(x:Ps):wf x->wf (sim un x):=by
 refine Ps.ind (P:=fun x=>wf x->wf (sim un x)) (fun x ih hw=>?_) x
 have hk:∀ y∈x.kids,wf y:=fun y hy=>eJ hw hy
 cases x with
 | lf k n rs=>rw [sim];exact hw
 | grp n y=>
  rw [sim,wf]
  exact ih y (by simp [Ps.kids]) (hk y (by simp [Ps.kids]))
 | rep a b y=>
  have hy:=ih y (by simp [Ps.kids]) (hk y (by simp [Ps.kids]))
  have he:wf (.row []):=by rw [wf];exact⟨by simp,fun i x hx=>(by simp at hx),(dC _).2 (fun _ h=>by cases h)⟩
  have hw':=hw
  rw [wf] at hw'
  have ht:=oL un y hw'.2 hw'.1
  rw [sim]
  unfold iL
  split
  ·exact hy
  split
  ·exact hy
  split
  ·exact he
  split
  ·exact he
  ·rename_i hne
   rw [wf]
   refine⟨ht.resolve_right fun e=>?_,hy⟩
   rw [e] at hne
   exact hne rfl
 | row l=>
  have hl:∀ z∈cC un l,wf z:=fun z hz=>by
   rw [cY] at hz
   obtain⟨y,hy,e⟩:=s4.1 hz
   rw [<- e]
   exact ih y hy (hk y hy)
  have hw':=hw
  rw [wf] at hw'
  have hlen:(cC un l).length=l.length:=by rw [cY,aAC]
  have ha:∀ (i:Nat) (z:Ps),(cC un l)[i]?=some z->isE z=false->iB z=true/\(z.kd=3->i=0)/\(z.kd=4->i+1=(cC un l).length):=fun i z hz he=>by
   rw [cY,aAO] at hz
   cases hy:l[i]? with
   | none=>rw [hy] at hz;cases hz
   | some y=>
    rw [hy] at hz
    have e:sim un y=z:=aAE hz
    obtain⟨h1,h2,h3⟩:=hw'.2.1 i y hy
    rcases tA un (hk y (n8 hy)) h1 with q | q
    ·rw [e] at q
     exact⟨q.1,fun k=>h2 (q.2.1 k),fun k=>by rw [hlen];exact h3 (q.2.2 k)⟩
    ·rw [<- e,q] at he;cases he
  rw [sim]
  unfold jC
  split
  ·exact bF9 (wB ha) (fun z hz=>hl z (aAF.1 hz).1)
  ·rename_i hany
   rw [wf]
   refine⟨by rw [hlen];exact hw'.1,fun i z hz=>ha i z hz ?_,(dC _).2 hl⟩
   cases h:isE z with
   | false=>rfl
   | true=>exact absurd (aAX.2 ⟨z,n8 hz,h⟩) hany
 | alt l=>
  have hw':=hw
  rw [wf] at hw'
  have hl:∀ z∈cC un l,wf z/\kQ z=true:=fun z hz=>by
   rw [cY] at hz
   obtain⟨y,hy,e⟩:=s4.1 hz
   rw [<- e]
   exact⟨ih y hy (hk y hy),aT8 un y (hk y hy) (hw'.2.1 y hy) (fun v hv=>eJ (hk y hy) hv)⟩
  have hj:∀ z∈bG un (cC un l),wf z/\kQ z=true:=fun z hz=>by
   rcases kH un hz with⟨u,e⟩ | e
   ·rw [e];exact⟨by rw [wf];exact .inl rfl,rfl⟩
   ·exact hl z e
  have hne:cC un l≠[]:=fun e=>by
   have:=congrArg List.length e
   rw [cY,aAC] at this
   have:=hw'.1
   simp_all
  rw [sim]
  unfold kO
  have hm:∀ z∈aW [] (bG un (cC un l)),wf z/\kQ z=true:=fun z hz=>by
   rcases (cX _ _ _).1 hz with q | q
   ·cases q
   ·exact hj z q
  exact bF8 (pG (uY un hne)) (fun z hz=>(hm z hz).2) (fun z hz=>(hm z hz).1)
end
mutual
def gln:Ps->List Nat
 | .lf _ _ _=>[]
 | .grp n x=>n :: gln x
 | .rep _ _ x=>gln x
 | .row l=>cK l
 | .alt l=>cK l
def cK:List Ps->List Nat
 | []=>[]
 | x :: l=>cK l++gln x
end
mutual
def hp:Nat->List Nat->Ps->Prop
 | _,e,.lf k n _=>k=8->∃ i∈e,n=(i:Int)
 | g,e,.grp n x=>n=g+1/\g<30/\hp (g+1) e x
 | g,e,.rep _ _ x=>hp g e x
 | g,e,.row l=>hps g e l
 | g,e,.alt l=>hps g e l
def hps:Nat->List Nat->List Ps->Prop
 | _,_,[]=>True
 | g,e,x :: l=>hp g e x/\hps (g+grs x) (gln x++e) l
end
theorem aQ7(x:Ps):∀ (g:Nat) (o e:List Nat) (r:List Sgn),hk g o e (pfl x++r)↔hp g e x/\hk (g+grs x) o (gln x++e) r:=by
 refine Ps.ind (P:=fun x=>∀ (g:Nat) (o e:List Nat) (r:List Sgn),hk g o e (pfl x++r)↔hp g e x/\hk (g+grs x) o (gln x++e) r) (fun x ih g o e r=>?_) x
 have hrow:∀ l:List Ps,(∀ y∈l,y∈x.kids)->∀ (g:Nat) (o e:List Nat) (r:List Sgn),hk g o e (eK l++r)↔hps g e l/\hk (g+bT l) o (cK l++e) r:=by
  intro l
  induction l with
  | nil=>intro _ g o e r;rw [eK,hps,bT,cK];simp
  | cons y l ih2=>
   intro hs g o e r
   rw [eK,r8,ih y (hs y (n9 ..)),ih2 (fun z hz=>hs z (m9 _ hz)),hps,bT,cK,and_assoc,aAU,r8]
 have halt:∀ l:List Ps,(∀ y∈l,y∈x.kids)->∀ (g:Nat) (o e:List Nat) (r:List Sgn),hk g o e (eH l++r)↔hps g e l/\hk (g+bT l) o (cK l++e) r:=by
  intro l
  induction l with
  | nil=>intro _ g o e r;rw [eH,hps,bT,cK];simp
  | cons y l ih2=>
   intro hs g o e r
   rw [eH,t4,r8]
   show hk g o e (pfl y++(eH l++r))↔_
   rw [ih y (hs y (n9 ..)),ih2 (fun z hz=>hs z (m9 _ hz)),hps,bT,cK,and_assoc,aAU,r8]
 cases x with
 | lf k n rs=>rw [pfl,grs,gln,hp];rfl
 | grp n y=>
  rw [pfl,t4,r8]
  show (n=g+1/\g<30/\hk (g+1) (n :: o) e (pfl y++([.cl]++r)))↔_
  rw [ih y (by simp [Ps.kids]),hp,grs,gln]
  have h1:hk (g+1+grs y) (n :: o) (gln y++e) ([Sgn.cl]++r)↔hk (g+(grs y+1)) o (n :: gln y++e) r:=by
   show (∃ m o',n :: o=m :: o'/\hk (g+1+grs y) o' (m :: (gln y++e)) r)↔_
   rw [show g+1+grs y=g+(grs y+1) by omega]
   constructor
   ·rintro ⟨m,o',h,h2⟩
    cases h
    exact h2
   ·intro h
    exact⟨n,o,rfl,h⟩
  rw [h1]
  constructor
  ·rintro ⟨a,b,c,d⟩
   exact⟨⟨a,b,c⟩,d⟩
  ·rintro ⟨⟨a,b,c⟩,d⟩
   exact⟨a,b,c,d⟩
 | rep a b y=>
  rw [pfl,r8,ih y (by simp [Ps.kids]),hp,grs,gln]
  rfl
 | row l=>
  rw [pfl,hp,grs,gln]
  exact hrow l (fun _ h=>h) g o e r
 | alt l=>
  rw [pfl,hp,grs,gln]
  cases l with
  | nil=>rw [lH,hps,bT,cK];simp
  | cons y l=>
   rw [lH,r8,ih y (by simp [Ps.kids]),halt l (fun z hz=>m9 _ hz),hps,bT,cK,and_assoc,aAU,r8]
theorem bM2(x:Ps):∀ (g g':Nat) (e e':List Nat),hp g e x->hp g' e' x->0<grs x->g=g':=by
 refine Ps.ind (P:=fun x=>∀ (g g':Nat) (e e':List Nat),hp g e x->hp g' e' x->0<grs x->g=g') (fun x ih g g' e e' h h' hg=>?_) x
 have hrow:∀ l:List Ps,(∀ y∈l,y∈x.kids)->∀ (g g':Nat) (e e':List Nat),hps g e l->hps g' e' l->0<bT l->g=g':=by
  intro l
  induction l with
  | nil=>intro _ g g' e e' _ _ hg;rw [bT] at hg;omega
  | cons y l ih2=>
   intro hs g g' e e' h h' hg
   rw [hps] at h h'
   rw [bT] at hg
   by_cases hy:0<grs y
   ·exact ih y (hs y (n9 ..)) g g' e e' h.1 h'.1 hy
   ·have:=ih2 (fun z hz=>hs z (m9 _ hz)) _ _ _ _ h.2 h'.2 (by omega)
    omega
 cases x with
 | lf k n rs=>rw [grs] at hg;omega
 | grp n y=>
  rw [hp] at h h'
  omega
 | rep a b y=>
  rw [hp] at h h'
  rw [grs] at hg
  exact ih y (by simp [Ps.kids]) g g' e e' h h' hg
 | row l=>
  rw [hp] at h h'
  rw [grs] at hg
  exact hrow l (fun _ h=>h) g g' e e' h h' hg
 | alt l=>
  rw [hp] at h h'
  rw [grs] at hg
  exact hrow l (fun _ h=>h) g g' e e' h h' hg
end Go.Proofs.YtlamifbjklpdbaaGreat
