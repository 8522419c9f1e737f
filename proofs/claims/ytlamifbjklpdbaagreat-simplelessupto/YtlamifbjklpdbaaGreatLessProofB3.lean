/-
  Parts of the proof.
-/
import Derived.Test.YtlamifbjklpdbaaGreatLessProofA0
import Derived.Test.YtlamifbjklpdbaaGreatLessProofB0
import Derived.Test.YtlamifbjklpdbaaGreatLessProofB2
set_option linter.unusedSimpArgs false
set_option maxRecDepth 100000
set_option maxHeartbeats 8000000
namespace Go.Proofs.YtlamifbjklpdbaaGreat
open Go Go.RowKit
theorem nY{xs ys:List Tr}{j:Nat}{a b:Tr}(ha:xs[j]?=some a)(hb:ys[j]?=some b)(h:(xs.take j).map er=(ys.take j).map er)(he:er a=er b):(xs.take (j+1)).map er=(ys.take (j+1)).map er:=by
 rw [o7,o7,ha,hb,o4,o4,h]
 simp [he]
theorem aJ2{xs ys:List Tr}{j:Nat}{a b:Tr}(ha:xs[j]?=some a)(hb:ys[j]?=some b)(h:xs.map er=ys.map er):er a=er b:=by
 have h1:(xs.map er)[j]?=some (er a):=by simp [ha]
 have h2:(ys.map er)[j]?=some (er b):=by simp [hb]
 rw [h,h2] at h1
 injection h1 with h1
 exact h1.symm
theorem aC7{m:Nat}(ih:∀ (a b:Tr) (w:World),a.sz<=m->TB w a->TB w b->Calls Tryz.prog 91 #[.agg #[.int .i64 a.f.k,.int .i64 a.f.n,.int .i64 a.f.mn,.int .i64 a.f.mx,.slice a.f.rq a.f.rs.length a.f.rc,.slice a.f.kq a.f.kl a.f.kc],.agg #[.int .i64 b.f.k,.int .i64 b.f.n,.int .i64 b.f.mn,.int .i64 b.f.mx,.slice b.f.rq b.f.rs.length b.f.rc,.slice b.f.kq b.f.kl b.f.kc]] w fun e w'=>e=.returned (.bool (eA (er a) (er b)))/\Below w.heap.size w w')
  {w:World} {xs ys:List Tr} {q1 q2:Option Addr} {l1 l2 c1 c2:Nat} (hs:∀ a∈xs,a.sz<=m) (ha:ArgK w (.slice q1 l1 c1) xs) (hb:ArgK w (.slice q2 l2 c2) ys) (ta:∀ a∈xs,TB w a) (tb:∀ b∈ys,TB w b) :
  Calls Tryz.prog 104 #[.slice q1 l1 c1,.slice q2 l2 c2,.func (.func 91) #[] #[]] w fun e w'=>e=.returned (.bool (jS (xs.map er) (ys.map er)))/\Below w.heap.size w w':=by
 obtain⟨r,hr⟩:∃ r,jS (xs.map er) (ys.map er)=r:=⟨_,rfl⟩
 rw [hr]
 have HR:=aB hr
 clear hr
 obtain⟨q,cap,e1,hm1,hcp1,hx1⟩:=ha.slice
 injection e1 with e11 e12 e13
 subst e11 e12 e13
 obtain⟨q',cap',e2,hm2,hcp2,hx2⟩:=hb.slice
 injection e2 with e21 e22 e23
 subst e21 e22 e23
 have IH:=aB ih
 have HS:=aB hs
 have H1:=aB hx1
 have H2:=aB hx2
 have T1:=aB ta
 have T2:=aB tb
 clear ih hs hx1 hx2 ta tb ha hb
 have hm:xs.length<=9223372036854775807:=hm1
 have hmb:ys.length<=9223372036854775807:=hm2
 by_cases hlen:xs.length=ys.length
 ·have e0:((xs.length:Int) != (ys.length:Int))=false:=by simp;omega
  go_enter Tryz.func104,Tryz.ntmps104
  have HLN:=aB hlen
  clear hlen
  go_wp2
  go_loopw [17] (fun i wr=>∃ j:Nat,j<=xs.length/\i=.int .i64 (j:Int)/\(xs.take j).map er=(ys.take j).map er/\Below w.heap.size w wr) (fun i _=>xs.length-(intOf i).toNat)
  case atStart=>exact⟨0,m7 _,rfl,rfl,Below.refl _ _⟩
  case round=>
   obtain⟨j,hj,rfl,hpre,hbel⟩:=hrel
   have HP:=aB hpre
   have HB:=aB hbel
   clear hpre hbel
   by_cases hjl:j<xs.length
   ·have i0:(j:Int)<(xs.length:Int):=by omega
    have i1:(j:Int)<(ys.length:Int):=by have:=HLN.out;omega
    obtain⟨a,hga⟩:∃ a,xs[j]?=some a:=⟨_,b7 hjl⟩
    obtain⟨b,hgb⟩:∃ b,ys[j]?=some b:=⟨_,b7 (by have:=HLN.out;omega)⟩
    obtain⟨g1,o1,hq1,hl1,six1⟩:=H1.out j a hga
    obtain⟨g2,o2,hq2,hl2,six2⟩:=H2.out j b hgb
    have GA:=aB hga
    have GB:=aB hgb
    have CKw:=CK.of_below HB.out
    obtain⟨c0,c1,c2,c3,c4,c5⟩:=six1.ck CKw hl1
    have KA:Below wr.heap.size wr (wr.alloc (.cells #[.int .i64 a.f.k,.int .i64 a.f.n,.int .i64 a.f.mn,.int .i64 a.f.mx,.slice a.f.rq a.f.rs.length a.f.rc,.slice a.f.kq a.f.kl a.f.kc] 25)):=bz9
    obtain⟨d0,d1,d2,d3,d4,d5⟩:=(six2.ck CKw hl2).ck (CK.of_below KA) (j2 hl2 HB.out.size)
    have KB:Below wr.heap.size wr ((wr.alloc (.cells #[.int .i64 a.f.k,.int .i64 a.f.n,.int .i64 a.f.mn,.int .i64 a.f.mx,.slice a.f.rq a.f.rs.length a.f.rc,.slice a.f.kq a.f.kl a.f.kc] 25)).alloc (.cells #[.int .i64 b.f.k,.int .i64 b.f.n,.int .i64 b.f.mn,.int .i64 b.f.mx,.slice b.f.rq b.f.rs.length b.f.rc,.slice b.f.kq b.f.kl b.f.kc] 25)):=KA.alloc (by simp) _
    have NA1:BoxN ((wr.alloc (.cells #[.int .i64 a.f.k,.int .i64 a.f.n,.int .i64 a.f.mn,.int .i64 a.f.mx,.slice a.f.rq a.f.rs.length a.f.rc,.slice a.f.kq a.f.kl a.f.kc] 25)).alloc (.cells #[.int .i64 b.f.k,.int .i64 b.f.n,.int .i64 b.f.mn,.int .i64 b.f.mx,.slice b.f.rq b.f.rs.length b.f.rc,.slice b.f.kq b.f.kl b.f.kc] 25)) wr.heap.size a.f:=(Below.heap_alloc _ _ _ (by simp)).trans (aD wr _)
    have NB1:BoxN ((wr.alloc (.cells #[.int .i64 a.f.k,.int .i64 a.f.n,.int .i64 a.f.mn,.int .i64 a.f.mx,.slice a.f.rq a.f.rs.length a.f.rc,.slice a.f.kq a.f.kl a.f.kc] 25)).alloc (.cells #[.int .i64 b.f.k,.int .i64 b.f.n,.int .i64 b.f.mn,.int .i64 b.f.mx,.slice b.f.rq b.f.rs.length b.f.rc,.slice b.f.kq b.f.kl b.f.kc] 25)) (wr.heap.size+1) b.f:=(by
     have:=aD (wr.alloc (.cells #[.int .i64 a.f.k,.int .i64 a.f.n,.int .i64 a.f.mn,.int .i64 a.f.mx,.slice a.f.rq a.f.rs.length a.f.rc,.slice a.f.kq a.f.kl a.f.kc] 25)) (.cells #[.int .i64 b.f.k,.int .i64 b.f.n,.int .i64 b.f.mn,.int .i64 b.f.mx,.slice b.f.rq b.f.rs.length b.f.rc,.slice b.f.kq b.f.kl b.f.kc] 25)
     rwa [m8] at this)
    obtain⟨p0,p1,p2,p3,p4,p5⟩:=NA1.six
    obtain⟨r0,r1,r2,r3,r4,r5⟩:=NB1.six
    simp only [a7] at p1 p2 p3 p4 p5 r1 r2 r3 r4 r5
    have ina:a∈xs:=i5 hga
    have inb:b∈ys:=i5 hgb
    have BB:Hid (Below w.heap.size w ((wr.alloc (.cells #[.int .i64 a.f.k,.int .i64 a.f.n,.int .i64 a.f.mn,.int .i64 a.f.mx,.slice a.f.rq a.f.rs.length a.f.rc,.slice a.f.kq a.f.kl a.f.kc] 25)).alloc (.cells #[.int .i64 b.f.k,.int .i64 b.f.n,.int .i64 b.f.mn,.int .i64 b.f.mx,.slice b.f.rq b.f.rs.length b.f.rc,.slice b.f.kq b.f.kl b.f.kc] 25))):=aF HB.out KB lz9
    have HC:=aB (IH.out a b _ (HS.out a ina) ((T1.out a ina).kept BB.out) ((T2.out b inb).kept BB.out))
    obtain⟨sb,hsb⟩:∃ sb,eA (er a) (er b)=sb:=⟨_,rfl⟩
    rw [hsb] at HC
    have HSB:=aB hsb
    rw [hq1,hq2]
    clear six1 six2 hga hgb CKw KA KB NA1 NB1 hsb
    cases sb with
    | true=>
     have HN:=aB (nY GA.out GB.out HP.out ((dU _ _).1 HSB.out))
     go_wp2_with (go_at_call 91;(with_reducible refine(HC.out).mono ?_);rintro e w5 ⟨rfl,h5⟩;have B5:Hid (Below w.heap.size w w5):=aF BB.out h5 lz9;clear h5)
     go_roundw
     case rel=>exact⟨j+1,by omega,by go_num,HN.out,B5.out⟩
     case measure=>simp only [intOf];omega
    | false=>
     go_wp2_with (go_at_call 91;(with_reducible refine(HC.out).mono ?_);rintro e w5 ⟨rfl,h5⟩;have B5:Hid (Below w.heap.size w w5):=aF BB.out h5 lz9;clear h5)
     go_ret
     refine⟨?_,B5.out⟩
     rw [<- HR.out]
     cases hz:jS (xs.map er) (ys.map er) with
     | false=>rfl
     | true=>
      have:=aJ2 GA.out GB.out ((gX _ _).1 hz)
      have h2:=HSB.out
      rw [this,sY] at h2
      cases h2
   ·have i0:¬ (j:Int)<(xs.length:Int):=by omega
    go_wp2
    go_ret
    refine⟨?_,HB.out⟩
    have:=HP.out
    rw [j5 (by omega),j5 (by have:=HLN.out;omega)] at this
    rw [<- HR.out,(gX _ _).2 this]
    rfl
 ·have e0:((xs.length:Int) != (ys.length:Int))=true:=by simp;omega
  have HF:=aB (show r=false by
   rw [<- HR.out]
   cases hz:jS (xs.map er) (ys.map er) with
   | false=>rfl
   | true=>
    have:=congrArg List.length ((gX _ _).1 hz)
    simp at this
    exact absurd this hlen)
  clear hlen
  go_enter Tryz.func104,Tryz.ntmps104
  go_wp2
  go_ret
  exact⟨by rw [HF.out];rfl,Below.refl _ _⟩
theorem aG7:∀ (m:Nat) (a b:Tr) (w:World),a.sz<=m->TB w a->TB w b->Calls Tryz.prog 91 #[.agg #[.int .i64 a.f.k,.int .i64 a.f.n,.int .i64 a.f.mn,.int .i64 a.f.mx,.slice a.f.rq a.f.rs.length a.f.rc,.slice a.f.kq a.f.kl a.f.kc],.agg #[.int .i64 b.f.k,.int .i64 b.f.n,.int .i64 b.f.mn,.int .i64 b.f.mx,.slice b.f.rq b.f.rs.length b.f.rc,.slice b.f.kq b.f.kl b.f.kc]] w fun e w'=>e=.returned (.bool (eA (er a) (er b)))/\Below w.heap.size w w':=by
 intro m
 induction m with
 | zero=>intro a b w hm;exact absurd (dM a) (by omega)
 | succ m ih=>
  intro a b w hm ta tb
  have W2:Below w.heap.size w ((w.alloc (.cells #[.int .i64 a.f.k,.int .i64 a.f.n,.int .i64 a.f.mn,.int .i64 a.f.mx,.slice a.f.rq a.f.rs.length a.f.rc,.slice a.f.kq a.f.kl a.f.kc] 25)).alloc (.cells #[.int .i64 b.f.k,.int .i64 b.f.n,.int .i64 b.f.mn,.int .i64 b.f.mx,.slice b.f.rq b.f.rs.length b.f.rc,.slice b.f.kq b.f.kl b.f.kc] 25)):=(bz9).alloc (by simp) _
  have NA1:BoxN ((w.alloc (.cells #[.int .i64 a.f.k,.int .i64 a.f.n,.int .i64 a.f.mn,.int .i64 a.f.mx,.slice a.f.rq a.f.rs.length a.f.rc,.slice a.f.kq a.f.kl a.f.kc] 25)).alloc (.cells #[.int .i64 b.f.k,.int .i64 b.f.n,.int .i64 b.f.mn,.int .i64 b.f.mx,.slice b.f.rq b.f.rs.length b.f.rc,.slice b.f.kq b.f.kl b.f.kc] 25)) w.heap.size a.f:=(Below.heap_alloc _ _ _ (by simp)).trans (aD w _)
  have NB1:BoxN ((w.alloc (.cells #[.int .i64 a.f.k,.int .i64 a.f.n,.int .i64 a.f.mn,.int .i64 a.f.mx,.slice a.f.rq a.f.rs.length a.f.rc,.slice a.f.kq a.f.kl a.f.kc] 25)).alloc (.cells #[.int .i64 b.f.k,.int .i64 b.f.n,.int .i64 b.f.mn,.int .i64 b.f.mx,.slice b.f.rq b.f.rs.length b.f.rc,.slice b.f.kq b.f.kl b.f.kc] 25)) (w.heap.size+1) b.f:=(by
   have:=aD (w.alloc (.cells #[.int .i64 a.f.k,.int .i64 a.f.n,.int .i64 a.f.mn,.int .i64 a.f.mx,.slice a.f.rq a.f.rs.length a.f.rc,.slice a.f.kq a.f.kl a.f.kc] 25)) (.cells #[.int .i64 b.f.k,.int .i64 b.f.n,.int .i64 b.f.mn,.int .i64 b.f.mx,.slice b.f.rq b.f.rs.length b.f.rc,.slice b.f.kq b.f.kl b.f.kc] 25)
   rwa [m8] at this)
  obtain⟨p0,p1,p2,p3,p4,p5⟩:=NA1.six
  obtain⟨r0,r1,r2,r3,r4,r5⟩:=NB1.six
  simp only [a7] at p1 p2 p3 p4 p5 r1 r2 r3 r4 r5
  have BB:=aB W2
  have TA1:=aB (ta.kept W2)
  have TB1:=aB (tb.kept W2)
  obtain⟨r,hr⟩:∃ r,eA (er a) (er b)=r:=⟨_,rfl⟩
  rw [hr]
  have HR:=aB hr
  have HX:Hid (r=true↔a.f.k=b.f.k/\a.f.n=b.f.n/\a.f.mn=b.f.mn/\a.f.mx=b.f.mx/\a.f.rs=b.f.rs/\a.ks.map er=b.ks.map er):=(by show _↔_;rw [<- hr,dU,nO])
  have IH:=aB ih
  have HM:=aB hm
  clear hr ih hm ta tb W2
  cases e1:(a.f.k==b.f.k)
  ·have R:r=false:=by cases r with | false=>rfl | true=>exact absurd (HX.out.1 rfl).1 (by simpa using e1)
   subst R
   go_enter Tryz.func91,Tryz.ntmps91
   go_wp2
   go_ret
   exact⟨rfl,BB.out⟩
  ·cases e2:(a.f.n==b.f.n)
   ·have R:r=false:=by cases r with | false=>rfl | true=>exact absurd (HX.out.1 rfl).2.1 (by simpa using e2)
    subst R
    go_enter Tryz.func91,Tryz.ntmps91
    go_wp2
    go_ret
    exact⟨rfl,BB.out⟩
   ·cases e3:(a.f.mn==b.f.mn)
    ·have R:r=false:=by cases r with | false=>rfl | true=>exact absurd (HX.out.1 rfl).2.2.1 (by simpa using e3)
     subst R
     go_enter Tryz.func91,Tryz.ntmps91
     go_wp2
     go_ret
     exact⟨rfl,BB.out⟩
    ·cases e4:(a.f.mx==b.f.mx)
     ·have R:r=false:=by cases r with | false=>rfl | true=>exact absurd (HX.out.1 rfl).2.2.2.1 (by simpa using e4)
      subst R
      go_enter Tryz.func91,Tryz.ntmps91
      go_wp2
      go_ret
      exact⟨rfl,BB.out⟩
     ·have EQ:=aB (qC TA1.out.node.r TB1.out.node.r)
      obtain⟨q,hq⟩:∃ q,decide (a.f.rs=b.f.rs)=q:=⟨_,rfl⟩
      rw [hq] at EQ
      cases q with
      | false=>
       have R:r=false:=by cases r with | false=>rfl | true=>exact absurd (HX.out.1 rfl).2.2.2.2.1 (by simpa using hq)
       subst R
       clear hq
       go_enter Tryz.func91,Tryz.ntmps91
       go_wp2_with (go_at_call 103;(with_reducible refine(EQ.out).mono ?_);rintro e w5 ⟨rfl,h5⟩;have B5:Hid (Below w.heap.size w w5):=aF BB.out h5 lz9;clear h5)
       go_ret
       exact⟨rfl,B5.out⟩
      | true=>
       have R:=aB (show r=jS (a.ks.map er) (b.ks.map er) by
        rw [Bool.eq_iff_iff,HX.out,gX]
        exact⟨fun z=>z.2.2.2.2.2,fun z=>⟨by simpa using e1,by simpa using e2,by simpa using e3,by simpa using e4,by simpa using hq,z⟩⟩)
       clear hq
       go_enter Tryz.func91,Tryz.ntmps91
       go_wp2_with first |(go_at_call 103;(with_reducible refine(EQ.out).mono ?_);rintro e w5 ⟨rfl,h5⟩;have B5:Hid (Below w.heap.size w w5):=aF BB.out h5 lz9;have s5:w5.cell? ⟨w.heap.size,5,none⟩=some (.slice a.f.kq a.f.kl a.f.kc):=(h5.cell (p:=⟨w.heap.size,5,none⟩) (aC NA1)).trans p5;have u5:w5.cell? ⟨w.heap.size+1,5,none⟩=some (.slice b.f.kq b.f.kl b.f.kc):=(h5.cell (p:=⟨w.heap.size+1,5,none⟩) (aC NB1)).trans r5;have TA5:=aB (TA1.out.kept h5);have TB5:=aB (TB1.out.kept h5);clear h5) |(go_at_call 104;(with_reducible refine(aC7 (m:=m) IH.out (fun u hu=>(by have:=bW hu;have:=HM.out;omega)) TA5.out.node.k TB5.out.node.k (fun u hu=>TA5.out.kid hu) (fun u hu=>TB5.out.kid hu)).mono ?_);rintro e w6 ⟨rfl,h6⟩;have B6:Hid (Below w.heap.size w w6):=aF B5.out h6 lz9;clear h6)
       go_ret
       exact⟨by rw [R.out];rfl,B6.out⟩
theorem aG8{w:World}{a b:Tr}(ta:TB w a)(tb:TB w b):Calls Tryz.prog 75 #[.agg #[.int .i64 a.f.k,.int .i64 a.f.n,.int .i64 a.f.mn,.int .i64 a.f.mx,.slice a.f.rq a.f.rs.length a.f.rc,.slice a.f.kq a.f.kl a.f.kc],.agg #[.int .i64 b.f.k,.int .i64 b.f.n,.int .i64 b.f.mn,.int .i64 b.f.mx,.slice b.f.rq b.f.rs.length b.f.rc,.slice b.f.kq b.f.kl b.f.kc]] w fun e w'=>e=.returned (.bool (!decide (2000<(pp [] a).length) && !decide (2000<(pp [] b).length)&&eA (er a) (er b)))/\Below w.heap.size w w':=by
 have W2:Below w.heap.size w ((w.alloc (.cells #[.int .i64 a.f.k,.int .i64 a.f.n,.int .i64 a.f.mn,.int .i64 a.f.mx,.slice a.f.rq a.f.rs.length a.f.rc,.slice a.f.kq a.f.kl a.f.kc] 25)).alloc (.cells #[.int .i64 b.f.k,.int .i64 b.f.n,.int .i64 b.f.mn,.int .i64 b.f.mx,.slice b.f.rq b.f.rs.length b.f.rc,.slice b.f.kq b.f.kl b.f.kc] 25)):=(bz9).alloc (by simp) _
 have NA1:BoxN ((w.alloc (.cells #[.int .i64 a.f.k,.int .i64 a.f.n,.int .i64 a.f.mn,.int .i64 a.f.mx,.slice a.f.rq a.f.rs.length a.f.rc,.slice a.f.kq a.f.kl a.f.kc] 25)).alloc (.cells #[.int .i64 b.f.k,.int .i64 b.f.n,.int .i64 b.f.mn,.int .i64 b.f.mx,.slice b.f.rq b.f.rs.length b.f.rc,.slice b.f.kq b.f.kl b.f.kc] 25)) w.heap.size a.f:=(Below.heap_alloc _ _ _ (by simp)).trans (aD w _)
 have NB1:BoxN ((w.alloc (.cells #[.int .i64 a.f.k,.int .i64 a.f.n,.int .i64 a.f.mn,.int .i64 a.f.mx,.slice a.f.rq a.f.rs.length a.f.rc,.slice a.f.kq a.f.kl a.f.kc] 25)).alloc (.cells #[.int .i64 b.f.k,.int .i64 b.f.n,.int .i64 b.f.mn,.int .i64 b.f.mx,.slice b.f.rq b.f.rs.length b.f.rc,.slice b.f.kq b.f.kl b.f.kc] 25)) (w.heap.size+1) b.f:=(by
  have:=aD (w.alloc (.cells #[.int .i64 a.f.k,.int .i64 a.f.n,.int .i64 a.f.mn,.int .i64 a.f.mx,.slice a.f.rq a.f.rs.length a.f.rc,.slice a.f.kq a.f.kl a.f.kc] 25)) (.cells #[.int .i64 b.f.k,.int .i64 b.f.n,.int .i64 b.f.mn,.int .i64 b.f.mx,.slice b.f.rq b.f.rs.length b.f.rc,.slice b.f.kq b.f.kl b.f.kc] 25)
  rwa [m8] at this)
 obtain⟨p0,p1,p2,p3,p4,p5⟩:=NA1.six
 simp only [a7] at p1 p2 p3 p4 p5
 have BB:=aB W2
 have TA1:=aB (ta.kept W2)
 have TB1:=aB (tb.kept W2)
 have C1:=aB (lJ TA1.out)
 obtain⟨q1,h1⟩:∃ q,decide (2000<(pp [] a).length)=q:=⟨_,rfl⟩
 obtain⟨q2,h2⟩:∃ q,decide (2000<(pp [] b).length)=q:=⟨_,rfl⟩
 obtain⟨q3,h3⟩:∃ q,eA (er a) (er b)=q:=⟨_,rfl⟩
 rw [h1,h2,h3]
 rw [h1] at C1
 have C2:Hid (∀ W:World,TB W b->Calls Tryz.prog 86 #[.agg #[.int .i64 b.f.k,.int .i64 b.f.n,.int .i64 b.f.mn,.int .i64 b.f.mx,.slice b.f.rq b.f.rs.length b.f.rc,.slice b.f.kq b.f.kl b.f.kc]] W fun e w'=>e=.returned (.bool q2)/\Below W.heap.size W w'):=fun W hW=>(by have:=lJ hW;rw [h2] at this;exact this)
 have C3:Hid (∀ W:World,TB W a->TB W b->Calls Tryz.prog 91 #[.agg #[.int .i64 a.f.k,.int .i64 a.f.n,.int .i64 a.f.mn,.int .i64 a.f.mx,.slice a.f.rq a.f.rs.length a.f.rc,.slice a.f.kq a.f.kl a.f.kc],.agg #[.int .i64 b.f.k,.int .i64 b.f.n,.int .i64 b.f.mn,.int .i64 b.f.mx,.slice b.f.rq b.f.rs.length b.f.rc,.slice b.f.kq b.f.kl b.f.kc]] W fun e w'=>e=.returned (.bool q3)/\Below W.heap.size W w'):=fun W h4 h5=>(by have:=aG7 a.sz a b W lz9 h4 h5;rw [h3] at this;exact this)
 clear h1 h2 h3 ta tb W2
 cases q1 with
 | true=>
  go_enter Tryz.func75,Tryz.ntmps75
  go_wp2_with (go_at_call 86;(with_reducible refine(C1.out).mono ?_);rintro e w5 ⟨rfl,h5⟩;have B5:Hid (Below w.heap.size w w5):=aF BB.out h5 lz9;clear h5)
  go_ret
  exact⟨rfl,B5.out⟩
 | false=>
  cases q2 with
  | true=>
   go_enter Tryz.func75,Tryz.ntmps75
   go_wp2_with first |(go_at_call 86;(with_reducible refine(C1.out).mono ?_);rintro e w5 ⟨rfl,h5⟩;have B5:Hid (Below w.heap.size w w5):=aF BB.out h5 lz9;have NB5:BoxN w5 (w.heap.size+1) b.f:=(h5.block _ (aC NB1)).trans NB1;obtain⟨r0,r1,r2,r3,r4,r5⟩:=NB5.six;simp only [a7] at r1 r2 r3 r4 r5;have TB5:=aB (TB1.out.kept h5);clear h5 NB5 C1) |(go_at_call 86;(with_reducible refine(C2.out _ TB5.out).mono ?_);rintro e w6 ⟨rfl,h6⟩;have B6:Hid (Below w.heap.size w w6):=aF B5.out h6 lz9;clear h6)
   go_ret
   exact⟨rfl,B6.out⟩
  | false=>
   go_enter Tryz.func75,Tryz.ntmps75
   go_wp2_with first |(go_at_call 86;(with_reducible refine(C1.out).mono ?_);rintro e w5 ⟨rfl,h5⟩;have B5:Hid (Below w.heap.size w w5):=aF BB.out h5 lz9;have NA5:BoxN w5 w.heap.size a.f:=(h5.block _ (aC NA1)).trans NA1;have NB5:BoxN w5 (w.heap.size+1) b.f:=(h5.block _ (aC NB1)).trans NB1;obtain⟨r0,r1,r2,r3,r4,r5⟩:=NB5.six;simp only [a7] at r1 r2 r3 r4 r5;have TA5:=aB (TA1.out.kept h5);have TB5:=aB (TB1.out.kept h5);clear h5 C1) |(go_at_call 86;(with_reducible refine(C2.out _ TB5.out).mono ?_);rintro e w6 ⟨rfl,h6⟩;have B6:Hid (Below w.heap.size w w6):=aF B5.out h6 lz9;have NA6:BoxN w6 w.heap.size a.f:=(h6.block _ (aC NA5)).trans NA5;have NB6:BoxN w6 (w.heap.size+1) b.f:=(h6.block _ (aC NB5)).trans NB5;obtain⟨x0,x1,x2,x3,x4,x5⟩:=NA6.six;obtain⟨y0,y1,y2,y3,y4,y5⟩:=NB6.six;simp only [a7] at x1 x2 x3 x4 x5 y1 y2 y3 y4 y5;have TA6:=aB (TA5.out.kept h6);have TB6:=aB (TB5.out.kept h6);clear h6 NA6 NB6) |(go_at_call 91;(with_reducible refine(C3.out _ TA6.out TB6.out).mono ?_);rintro e w7 ⟨rfl,h7⟩;have B7:Hid (Below w.heap.size w w7):=aF B6.out h7 lz9;clear h7)
   go_ret
   exact⟨by simp,B7.out⟩
end Go.Proofs.YtlamifbjklpdbaaGreat
