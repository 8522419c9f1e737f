/-
  Parts of the proof.
-/
import Derived.Test.YtlamifbjklpdbaaGreatLessProofA0
import Derived.Test.YtlamifbjklpdbaaGreatLessProofB2
import Derived.Test.YtlamifbjklpdbaaGreatLessProofB3
set_option linter.unusedSimpArgs false
set_option maxRecDepth 100000
set_option maxHeartbeats 8000000
namespace Go.Proofs.YtlamifbjklpdbaaGreat
open Go Go.RowKit
section
attribute [local go_sem] Oper.semAt_some
theorem xK(f:Fl)(w:World):Calls Tryz.prog 70 #[.agg #[.int .i64 f.k,.int .i64 f.n,.int .i64 f.mn,.int .i64 f.mx,.slice f.rq f.rs.length f.rc,.slice f.kq f.kl f.kc]] w fun e w'=>e=.returned (.bool (f.k==1))/\Below w.heap.size w w':=by
 have B1:Hid (Below w.heap.size w (w.alloc (.cells #[.int .i64 f.k,.int .i64 f.n,.int .i64 f.mn,.int .i64 f.mx,.slice f.rq f.rs.length f.rc,.slice f.kq f.kl f.kc] 25))):=bz9
 have N1:Hid (BoxN (w.alloc (.cells #[.int .i64 f.k,.int .i64 f.n,.int .i64 f.mn,.int .i64 f.mx,.slice f.rq f.rs.length f.rc,.slice f.kq f.kl f.kc] 25)) w.heap.size f):=aD w _
 obtain⟨c0,-⟩:=N1.out.six
 go_enter Tryz.func70,Tryz.ntmps70
 go_wp2
 go_ret
 exact⟨rfl,B1.out⟩
theorem yE{a u:Tr}{b:Nat}{w:World}(hb:BoxN w b a.f)(ha:TB w a)(hu:TB w u)(la:(pp [] a).length<=2000)(lu:(pp [] u).length<=2000):Calls Tryz.prog 74 #[.agg #[.int .i64 u.f.k,.int .i64 u.f.n,.int .i64 u.f.mn,.int .i64 u.f.mx,.slice u.f.rq u.f.rs.length u.f.rc,.slice u.f.kq u.f.kl u.f.kc],.pointer (some ⟨b,0,none⟩)] w fun e w'=>e=.returned (.bool (eA (er a) (er u)))/\Below w.heap.size w w':=by
 have B1:Hid (Below w.heap.size w (w.alloc (.cells #[.int .i64 u.f.k,.int .i64 u.f.n,.int .i64 u.f.mn,.int .i64 u.f.mx,.slice u.f.rq u.f.rs.length u.f.rc,.slice u.f.kq u.f.kl u.f.kc] 25))):=bz9
 have N1:Hid (BoxN (w.alloc (.cells #[.int .i64 u.f.k,.int .i64 u.f.n,.int .i64 u.f.mn,.int .i64 u.f.mx,.slice u.f.rq u.f.rs.length u.f.rc,.slice u.f.kq u.f.kl u.f.kc] 25)) w.heap.size u.f):=aD w _
 have M1:Hid (BoxN (w.alloc (.cells #[.int .i64 u.f.k,.int .i64 u.f.n,.int .i64 u.f.mn,.int .i64 u.f.mx,.slice u.f.rq u.f.rs.length u.f.rc,.slice u.f.kq u.f.kl u.f.kc] 25)) b a.f):=(B1.out.block _ (aC hb)).trans hb
 obtain⟨c0,c1,c2,c3,c4,c5⟩:=N1.out.six
 obtain⟨d0,d1,d2,d3,d4,d5⟩:=M1.out.six
 simp only [a7] at c1 c2 c3 c4 c5 d1 d2 d3 d4 d5
 have SC:Hid (Calls Tryz.prog 75 #[.agg #[.int .i64 a.f.k,.int .i64 a.f.n,.int .i64 a.f.mn,.int .i64 a.f.mx,.slice a.f.rq a.f.rs.length a.f.rc,.slice a.f.kq a.f.kl a.f.kc],.agg #[.int .i64 u.f.k,.int .i64 u.f.n,.int .i64 u.f.mn,.int .i64 u.f.mx,.slice u.f.rq u.f.rs.length u.f.rc,.slice u.f.kq u.f.kl u.f.kc]] (w.alloc (.cells #[.int .i64 u.f.k,.int .i64 u.f.n,.int .i64 u.f.mn,.int .i64 u.f.mx,.slice u.f.rq u.f.rs.length u.f.rc,.slice u.f.kq u.f.kl u.f.kc] 25)) fun e w'=>e=.returned (.bool (eA (er a) (er u)))/\Below (w.alloc (.cells #[.int .i64 u.f.k,.int .i64 u.f.n,.int .i64 u.f.mn,.int .i64 u.f.mx,.slice u.f.rq u.f.rs.length u.f.rc,.slice u.f.kq u.f.kl u.f.kc] 25)).heap.size (w.alloc (.cells #[.int .i64 u.f.k,.int .i64 u.f.n,.int .i64 u.f.mn,.int .i64 u.f.mx,.slice u.f.rq u.f.rs.length u.f.rc,.slice u.f.kq u.f.kl u.f.kc] 25)) w'):=aB ((aG8 (ha.kept B1.out) (hu.kept B1.out)).mono fun e w' ⟨h1,h2⟩=>⟨by rw [h1,j8 (by omega),j8 (by omega)];rfl,h2⟩)
 obtain⟨r,hr⟩:∃ r,eA (er a) (er u)=r:=⟨_,rfl⟩
 rw [hr] at SC ⊢
 clear hr ha hu hb la lu
 go_enter Tryz.func74,Tryz.ntmps74
 go_wp2_with (go_at_call 75;(with_reducible refine SC.out.mono ?_);rintro e w5 ⟨rfl,h5⟩;have B5:=aB (aF B1.out h5 lz9);clear h5)
 go_ret
 exact⟨rfl,B5.out⟩
structure IxP(i:Int)(b:Bool):Prop where
 h:0<=i↔b=true
def rL(u:Tr):Bool:=u.f.k==1
noncomputable def twB (a u:Tr):Bool:=eA (er a) (er u)
theorem aB6{w:World}{xs:List Tr}{q:Option Addr}{l c:Nat}(hx:ArgK w (.slice q l c) xs){P:Tr->Bool}(cc:∀ u∈xs,∀ W,Below w.heap.size w W->Calls Tryz.prog 70 #[.agg #[.int .i64 u.f.k,.int .i64 u.f.n,.int .i64 u.f.mn,.int .i64 u.f.mx,.slice u.f.rq u.f.rs.length u.f.rc,.slice u.f.kq u.f.kl u.f.kc]] W fun e w'=>e=.returned (.bool (P u))/\Below W.heap.size W w') :
  Calls Tryz.prog 87 #[.slice q l c,.func (.func 70) #[] #[]] w fun e w'=>∃ i:Int,e=.returned (.int .i64 i)/\IxP i (xs.any P)/\Below w.heap.size w w':=by
 obtain⟨q',cap',e2,hm2,hcp2,hx2⟩:=hx.slice
 injection e2 with e21 e22 e23
 subst e21 e22 e23
 have H1:=aB hx2
 have CC:=aB cc
 have hm:xs.length<=9223372036854775807:=hm2
 clear hx2 hx hm2 cc
 go_enter Tryz.func87,Tryz.ntmps87
 go_wp2
 go_loopw [8] (fun i wr=>∃ j:Nat,j<=xs.length/\i=.int .i64 (j:Int)/\(xs.take j).any P=false/\Below w.heap.size w wr) (fun i _=>xs.length-(intOf i).toNat)
 case atStart=>exact⟨0,m7 _,rfl,rfl,Below.refl _ _⟩
 case round=>
  obtain⟨j,hj,rfl,hpre,hbel⟩:=hrel
  have HP:=aB hpre
  have HB:=aB hbel
  clear hpre hbel
  by_cases hjl:j<xs.length
  ·have i0:(j:Int)<(xs.length:Int):=by omega
   obtain⟨a9,hga⟩:∃ a,xs[j]?=some a:=⟨_,b7 hjl⟩
   obtain⟨g1,o1,hq1,hl1,six1⟩:=H1.out j a9 hga
   have GA:=aB hga
   obtain⟨c0,c1,c2,c3,c4,c5⟩:=six1.ck (CK.of_below HB.out) hl1
   have HC:=aB (CC.out a9 (i5 hga) wr HB.out)
   obtain⟨sb,hsb⟩:∃ sb,P a9=sb:=⟨_,rfl⟩
   have HSB:=aB hsb
   rw [hsb] at HC
   rw [hq1]
   clear six1 hga hsb
   cases sb with
   | true=>
    have HN:Hid (IxP (j:Int) (xs.any P)):=⟨⟨fun _=>s8.2 ⟨a9,i5 GA.out,HSB.out⟩,fun _=>by omega⟩⟩
    go_wp2_with (go_at_call 70;(with_reducible refine(HC.out).mono ?_);rintro e w5 ⟨rfl,h5⟩;have B5:Hid (Below w.heap.size w w5):=aF HB.out h5 lz9;clear h5)
    go_ret
    exact⟨_,rfl,HN.out,B5.out⟩
   | false=>
    have HN:=aB (show (xs.take (j+1)).any P=false by rw [o7,GA.out,List.any_append,HP.out];simpa using HSB.out)
    go_wp2_with (go_at_call 70;(with_reducible refine(HC.out).mono ?_);rintro e w5 ⟨rfl,h5⟩;have B5:Hid (Below w.heap.size w w5):=aF HB.out h5 lz9;clear h5)
    go_roundw
    case rel=>exact⟨j+1,by omega,by go_num,HN.out,B5.out⟩
    case measure=>simp only [intOf];omega
  ·have i0:¬ (j:Int)<(xs.length:Int):=by omega
   have HN:Hid (IxP (-1) (xs.any P)):=by
    have:=HP.out
    rw [j5 (by omega)] at this
    refine⟨⟨fun h=>by omega,fun h=>?_⟩⟩
    rw [this] at h
    cases h
   go_wp2
   go_ret
   exact⟨_,rfl,HN.out,HB.out⟩
theorem rR{w:World}{xs:List Tr}{q:Option Addr}{l c:Nat}(hx:ArgK w (.slice q l c) xs) :
  Calls Tryz.prog 69 #[.slice q l c,.func (.func 70) #[] #[]] w fun e w'=>e=.returned (.bool (xs.any rL))/\Below w.heap.size w w':=by
 have HI:=aB (aB6 hx (P:=rL) (fun u _ W _=>xK u.f W))
 obtain⟨r,hr⟩:∃ r,xs.any rL=r:=⟨_,rfl⟩
 rw [hr] at HI ⊢
 clear hr
 go_enter Tryz.func69,Tryz.ntmps69
 go_wp2_with (go_at_call 87;(with_reducible refine HI.out.mono ?_);rintro e w5 ⟨i,rfl,h4,h5⟩;have I5:=aB h4;have B5:=aB h5;clear h5 h4)
 go_ret
 refine⟨?_,B5.out⟩
 have:=I5.out.h
 cases r with
 | true=>have h:=this.2 rfl;simp [h]
 | false=>
  have h:¬ 0<=i:=fun q=>by have:=this.1 q;cases this
  simp only [h,decide_false];rfl
theorem aB5{w:World}{xs:List Tr}{q:Option Addr}{l c:Nat}(hx:ArgK w (.slice q l c) xs){b:Nat}{P:Tr->Bool}(cc:∀ u∈xs,∀ W,Below w.heap.size w W->Calls Tryz.prog 74 #[.agg #[.int .i64 u.f.k,.int .i64 u.f.n,.int .i64 u.f.mn,.int .i64 u.f.mx,.slice u.f.rq u.f.rs.length u.f.rc,.slice u.f.kq u.f.kl u.f.kc],.pointer (some ⟨b,0,none⟩)] W fun e w'=>e=.returned (.bool (P u))/\Below W.heap.size W w') :
  Calls Tryz.prog 87 #[.slice q l c,.func (.func 74) #[] #[.pointer (some ⟨b,0,none⟩)]] w fun e w'=>∃ i:Int,e=.returned (.int .i64 i)/\IxP i (xs.any P)/\Below w.heap.size w w':=by
 obtain⟨q',cap',e2,hm2,hcp2,hx2⟩:=hx.slice
 injection e2 with e21 e22 e23
 subst e21 e22 e23
 have H1:=aB hx2
 have CC:=aB cc
 have hm:xs.length<=9223372036854775807:=hm2
 clear hx2 hx hm2 cc
 go_enter Tryz.func87,Tryz.ntmps87
 go_wp2
 go_loopw [8] (fun i wr=>∃ j:Nat,j<=xs.length/\i=.int .i64 (j:Int)/\(xs.take j).any P=false/\Below w.heap.size w wr) (fun i _=>xs.length-(intOf i).toNat)
 case atStart=>exact⟨0,m7 _,rfl,rfl,Below.refl _ _⟩
 case round=>
  obtain⟨j,hj,rfl,hpre,hbel⟩:=hrel
  have HP:=aB hpre
  have HB:=aB hbel
  clear hpre hbel
  by_cases hjl:j<xs.length
  ·have i0:(j:Int)<(xs.length:Int):=by omega
   obtain⟨a9,hga⟩:∃ a,xs[j]?=some a:=⟨_,b7 hjl⟩
   obtain⟨g1,o1,hq1,hl1,six1⟩:=H1.out j a9 hga
   have GA:=aB hga
   obtain⟨c0,c1,c2,c3,c4,c5⟩:=six1.ck (CK.of_below HB.out) hl1
   have HC:=aB (CC.out a9 (i5 hga) wr HB.out)
   obtain⟨sb,hsb⟩:∃ sb,P a9=sb:=⟨_,rfl⟩
   have HSB:=aB hsb
   rw [hsb] at HC
   rw [hq1]
   clear six1 hga hsb
   cases sb with
   | true=>
    have HN:Hid (IxP (j:Int) (xs.any P)):=⟨⟨fun _=>s8.2 ⟨a9,i5 GA.out,HSB.out⟩,fun _=>by omega⟩⟩
    go_wp2_with (go_at_call 74;(with_reducible refine(HC.out).mono ?_);rintro e w5 ⟨rfl,h5⟩;have B5:Hid (Below w.heap.size w w5):=aF HB.out h5 lz9;clear h5)
    go_ret
    exact⟨_,rfl,HN.out,B5.out⟩
   | false=>
    have HN:=aB (show (xs.take (j+1)).any P=false by rw [o7,GA.out,List.any_append,HP.out];simpa using HSB.out)
    go_wp2_with (go_at_call 74;(with_reducible refine(HC.out).mono ?_);rintro e w5 ⟨rfl,h5⟩;have B5:Hid (Below w.heap.size w w5):=aF HB.out h5 lz9;clear h5)
    go_roundw
    case rel=>exact⟨j+1,by omega,by go_num,HN.out,B5.out⟩
    case measure=>simp only [intOf];omega
  ·have i0:¬ (j:Int)<(xs.length:Int):=by omega
   have HN:Hid (IxP (-1) (xs.any P)):=by
    have:=HP.out
    rw [j5 (by omega)] at this
    refine⟨⟨fun h=>by omega,fun h=>?_⟩⟩
    rw [this] at h
    cases h
   go_wp2
   go_ret
   exact⟨_,rfl,HN.out,HB.out⟩
theorem rQ{w:World}{xs:List Tr}{q:Option Addr}{l c:Nat}(hx:ArgK w (.slice q l c) xs){a:Tr}{b:Nat}(hb:BoxN w b a.f)(ha:TB w a)(hu:∀ u∈xs,TB w u)(la:(pp [] a).length<=2000)(lu:∀ u∈xs,(pp [] u).length<=2000) :
  Calls Tryz.prog 69 #[.slice q l c,.func (.func 74) #[] #[.pointer (some ⟨b,0,none⟩)]] w fun e w'=>e=.returned (.bool (xs.any (twB a)))/\Below w.heap.size w w':=by
 have HI:=aB (aB5 hx (P:=(twB a)) (fun u hu1 W hW=>yE ((hW.block _ (aC hb)).trans hb) (ha.kept hW) ((hu u hu1).kept hW) la (lu u hu1)))
 obtain⟨r,hr⟩:∃ r,xs.any (twB a)=r:=⟨_,rfl⟩
 rw [hr] at HI ⊢
 clear hr
 go_enter Tryz.func69,Tryz.ntmps69
 go_wp2_with (go_at_call 87;(with_reducible refine HI.out.mono ?_);rintro e w5 ⟨i,rfl,h4,h5⟩;have I5:=aB h4;have B5:=aB h5;clear h5 h4)
 go_ret
 refine⟨?_,B5.out⟩
 have:=I5.out.h
 cases r with
 | true=>have h:=this.2 rfl;simp [h]
 | false=>
  have h:¬ 0<=i:=fun q=>by have:=this.1 q;cases this
  simp only [h,decide_false];rfl
end
def dK(t:Tr):List Tr:=if t.f.k=1 then [] else if t.f.k=5 then t.ks else [t]
def eI(t:Tr):List Tr:=if t.f.k=6 then t.ks else [t]
theorem eN(a b:List Tr):szs (a++b)=szs a+szs b:=by
 induction a with
 | nil=>rw [dJ];simp
 | cons x a ih=>rw [l7,bK,bK,ih];omega
theorem gB{f:Tr->List Tr}(h:∀ t,szs (f t)<=t.sz)(l:List Tr):szs (l.flatMap f)<=szs l:=by
 induction l with
 | nil=>exact o5 _
 | cons x l ih=>rw [s4,eN,bK];have:=h x;omega
theorem qE(t:Tr):szs (dK t)<=t.sz:=by
 unfold dK
 split
 ·rw [dJ];omega
 ·split
  ·rw [dY];omega
  ·rw [bK,dJ];omega
theorem qI(t:Tr):szs (eI t)<=t.sz:=by
 unfold eI
 split
 ·rw [dY];omega
 ·rw [bK,dJ];omega
theorem fN(l:List Tr)(j:Nat):szs (l.take j)<=szs l:=by
 have:=eN (l.take j) (l.drop j)
 rw [u9] at this
 omega
theorem eD(l:List Tr):l.length<=szs l:=by
 induction l with
 | nil=>simp
 | cons x l ih=>rw [bK,i9];have:=dM x;omega
theorem aD5{W:World}{t u:Tr}(h:TA W t)(hu:u∈dK t):TA W u:=by
 unfold dK at hu
 split at hu
 ·cases hu
 ·split at hu
  ·exact h.kid hu
  ·simp at hu;subst hu;exact h
theorem aD9{W:World}{t u:Tr}(h:TA W t)(hu:u∈eI t):TA W u:=by
 unfold eI at hu
 split at hu
 ·exact h.kid hu
 ·simp at hu;subst hu;exact h
theorem fT{base:Nat}{w W W':World}{e:TypeId}{size n:Nat}{v:Value}{xs:List Value}(h:Below base w W)(hw:base<=w.heap.size)(ho:W.ownsRow base e size v n xs)(hg:W.grownBy W' v.ownBlock):Below base w W':=
 h.trans ⟨hg.os,hg.tape,hg.output,hg.size,fun k hk=>hg.block k (by have:=h.size;omega) (fun q=>by have:=(aG ho q.symm).1;omega)⟩
theorem kM{W:World}{base c:Nat}{q:Option Addr}{ks:List Tr}(h:W.ownsRow base 25 6 (.slice q ks.length c) ks.length (aQ ks)):ArgK W (.slice q ks.length c) ks:=by
 rcases h.2 with⟨e,hn⟩ | ⟨g,cap,cur,e,h1,h2,h3,h4,-⟩
 ·obtain rfl:=n8 hn
  injection e with e1 _ e3
  subst e1 e3
  exact .inl ⟨none,0,rfl,rfl,fun _=>rfl⟩
 ·injection e with e1 _ e3
  subst e1 e3
  exact(KR.of_row h).arg h3 h4
theorem eU{W:World}{b:Nat}{f:Fl}(h:BoxN W b f):∀ j u,f.cells[j]?=some u->W.cell? ((⟨b,0,none⟩:Addr).add j)=some u:=fun j u hj=>by rw [qK];exact h.six.at hj
theorem aH5{R:Ending->World->Prop}{a:Act}{W:World}{b:Nat}{f:Fl}(h:Six W b 0 f)(ha:a.tmps[2]?.getD undef=.pointer (some ⟨b,0,none⟩))(hd:a.defers=[])(hR:R (.returned (.agg #[.int .i64 f.k,.int .i64 f.n,.int .i64 f.mn,.int .i64 f.mx,.slice f.rq f.rs.length f.rc,.slice f.kq f.kl f.kc])) W):bodyPost Tryz.prog Tryz.f71 R .ret a W:=by
 obtain⟨z0,z1,z2,z3,z4,z5⟩:=h
 simp only [a7] at z1 z2 z3 z4 z5
 refine bodyPost_ret (v:=.agg #[.int .i64 f.k,.int .i64 f.n,.int .i64 f.mn,.int .i64 f.mx,.slice f.rq f.rs.length f.rc,.slice f.kq f.kl f.kc]) ?_ hd hR
 simp [results,Tryz.results71,go_sem,ha,z0,z1,z2,z3,z4,z5]
theorem aV2{w:World}{q:Option Addr}{c:Nat}{l:List Tr}(h:ArgK w (.slice q l.length c) l)(hta:∀ u∈l,TA w u)(hsz:szs l<1000000) :
  Calls Tryz.prog 71 #[.slice q l.length c] w (iV w (fR 5 ((l.flatMap dK).map er) (.mk 1 0 0 0 [] []))):=by
 obtain⟨t0,hi,hz0,hz1,hz2⟩:=aW fD
 have B0:Hid (Below w.heap.size w (w.alloc (.cells #[.int .i64 0,.int .i64 0,.int .i64 0,.int .i64 0,.slice none 0 0,.slice none 0 0] 25))):=bz9
 have R0:Hid ((w.alloc (.cells #[.int .i64 0,.int .i64 0,.int .i64 0,.int .i64 0,.slice none 0 0,.slice none 0 0] 25)).heap[w.heap.size]?=some (.cells #[.int .i64 0,.int .i64 0,.int .i64 0,.int .i64 0,.slice none 0 0,.slice none 0 0] 25 (0,0))):=aD w _
 obtain⟨X,hX⟩:∃ X,fR 5 ((l.flatMap dK).map er) (.mk 1 0 0 0 [] [])=X:=⟨_,rfl⟩
 rw [hX]
 have HX:=aB hX
 obtain⟨q',c',e,hml,-,hx⟩:=h.slice
 injection e with e1 _ e3
 subst e1 e3
 have hml':l.length<=9223372036854775807:=hml
 have HH:=aB hx
 have HT:=aB hta
 have hlz:=eD l
 clear hX h hta hx hml
 go_enter Tryz.func71,Tryz.ntmps71
 go_upto_region 1 with fail
 generalize (w.alloc (.cells #[.int .i64 0,.int .i64 0,.int .i64 0,.int .i64 0,.slice none 0 0,.slice none 0 0] 25))=W0 at B0 R0 ⊢
 have LZ:=aC R0.out
 go_upto_region 2 with fail
 go_wp2
 go_loopw [8,3] (fun i s wr=>∃ (j:Nat) (qq:Option Addr) (cc:Nat),j<=l.length/\i=.int .i64 (j:Int)/\s=.slice qq ((l.take j).flatMap dK).length cc/\wr.ownsRow W0.heap.size 25 6 (.slice qq ((l.take j).flatMap dK).length cc) ((l.take j).flatMap dK).length (aQ ((l.take j).flatMap dK))/\Below W0.heap.size W0 wr) (fun i _ _=>l.length-(intOf i).toNat)
 case atStart=>exact⟨0,none,0,m7 _,rfl,rfl,t4 _ _ _ _,Below.refl _ _⟩
 case round=>
  obtain⟨j,qq,cc,hj,rfl,rfl,hown,hbel⟩:=hrel
  have HO:=aB hown
  have HB:=aB hbel
  have HLE:((l.take j).flatMap dK).length<=1000000:=j4 (eD _) (j4 (gB qE _) (by have:=fN l j;omega))
  clear hown hbel
  by_cases hjl:j<l.length
  ·have i0:(j:Int)<(l.length:Int):=by omega
   obtain⟨u,hu⟩:∃ u,l[j]?=some u:=⟨_,b7 hjl⟩
   obtain⟨g,off,hq,hg,six⟩:=HH.out j u hu
   have hin:u∈l:=i5 hu
   have BW:Below w.heap.size w wr:=aF B0.out HB.out lz9
   obtain⟨c0,c1,c2,c3,c4,c5⟩:=six.ck (CK.of_below BW) hg
   have HN:(l.take (j+1)).flatMap dK=(l.take j).flatMap dK++dK u:=by rw [o7,hu,aAC];simp
   have HNX:=aB HN
   have K4:Below wr.heap.size wr (wr.alloc (.cells #[.int .i64 u.f.k,.int .i64 u.f.n,.int .i64 u.f.mn,.int .i64 u.f.mx,.slice u.f.rq u.f.rs.length u.f.rc,.slice u.f.kq u.f.kl u.f.kc] 25)):=bz9
   have N4:Hid (BoxN (wr.alloc (.cells #[.int .i64 u.f.k,.int .i64 u.f.n,.int .i64 u.f.mn,.int .i64 u.f.mx,.slice u.f.rq u.f.rs.length u.f.rc,.slice u.f.kq u.f.kl u.f.kc] 25)) wr.heap.size u.f):=aD wr _
   have B4:Hid (Below W0.heap.size W0 (wr.alloc (.cells #[.int .i64 u.f.k,.int .i64 u.f.n,.int .i64 u.f.mn,.int .i64 u.f.mx,.slice u.f.rq u.f.rs.length u.f.rc,.slice u.f.kq u.f.kl u.f.kc] 25))):=HB.out.alloc HB.out.size _
   have O4:=aB (aK HO.out (Fr.of_below (S:=fun _=>False) K4) (fun _ _ z=>z))
   have T4:=aB (((HT.out u hin).kept BW).kept K4)
   have hlu:((l.take (j+1)).flatMap dK).length<=1000000:=j4 (eD _) (j4 (gB qE _) (by have:=fN l (j+1);omega))
   rw [HN,j3] at hlu
   rw [hq]
   clear six hu K4 BW HN
   go_upto_region 5 with fail
   generalize (wr.alloc (.cells #[.int .i64 u.f.k,.int .i64 u.f.n,.int .i64 u.f.mn,.int .i64 u.f.mx,.slice u.f.rq u.f.rs.length u.f.rc,.slice u.f.kq u.f.kl u.f.kc] 25))=W4 at N4 B4 O4 T4 ⊢
   obtain⟨n0,n1,n2,n3,n4,n5⟩:=N4.out.six
   simp only [a7] at n1 n2 n3 n4 n5
   have hkl:=T4.out.node.kl
   rw [hkl] at n5
   have TK:=T4.out.node.k
   rw [hkl] at TK
   have HTK:=aB TK
   clear c0 c1 c2 c3 c4 c5 TK
   generalize hout:(l.take j).flatMap dK=out at *
   by_cases k1:u.f.k=1
   ·have e1:(u.f.k==1)=true:=by simpa using k1
    have hpk:=aB (show dK u=[] by unfold dK;simp [k1])
    clear k1
    go_wp2
    go_roundw
    case rel=>exact⟨j+1,qq,cc,by omega,by go_num,by rw [HNX.out,hpk.out,l9],by rw [HNX.out,hpk.out,l9];exact O4.out,B4.out⟩
    case measure=>simp only [intOf];omega
   ·have e1:(u.f.k==1)=false:=by simpa using k1
    by_cases k5:u.f.k=5
    ·have e5:(u.f.k==5)=true:=by simpa using k5
     have hpk:=aB (show dK u=u.ks by unfold dK;simp [k5])
     have hlu2:out.length+u.ks.length<=1000000:=by rw [<- hpk.out];exact hlu
     cases hkq:u.f.kq with
     | none=>
      rw [hkq] at n5 HTK
      have hks:u.ks=[]/\u.f.kc=0:=by
       rcases HTK.out with⟨p,cap,e,h1,h2⟩ | ⟨g',off',cap,e,-⟩
       ·injection e with e1 _ e3
        subst e1 e3
        exact⟨h1,h2 rfl⟩
       ·cases e
      rw [hks.1,hks.2,List.length_nil] at n5
      have HKS:=aB hks
      have HKQ:=aB hkq
      clear hks hkq hkl HTK k1 k5
      go_wp2_with (at_builtin;refine wpList_append_own_none rfl _ _ 23 rfl W0.heap.size 25 t0 6 bY hi (.slice qq out.length cc) out.length (aQ out) rfl O4.out rfl ?_)
      go_roundw
      case rel=>exact⟨j+1,qq,cc,by omega,by go_num,by rw [HNX.out,hpk.out,HKS.out.1,l9],by rw [HNX.out,hpk.out,HKS.out.1,l9];exact O4.out,B4.out⟩
      case measure=>simp only [intOf];omega
     | some ad=>
      rw [hkq] at n5 HTK
      have HKQ:=aB hkq
      clear hkq hkl k1 k5
      go_wp2_with (at_builtin;refine wpList_append_own_at _ rfl _ _ 23 rfl W0.heap.size 25 t0 (.agg #[.int .i64 0,.int .i64 0,.int .i64 0,.int .i64 0,.slice none 0 0,.slice none 0 0]) 6 80 bY hi hz0 hz1 hz2 rfl (by decide) (.slice qq out.length cc) out.length (aQ out) rfl O4.out ad u.ks.length u.f.kc (aQ u.ks) rfl (by rw [eS]) HTK.out.news (kA u.ks) (by unfold maxLen;omega) (by omega) B4.out.size ?_;intro v' w6 hown' hgrow _ _;obtain⟨q6,cap6,rfl⟩:=aR hown';have O6:=aB hown';have B6:Hid (Below W0.heap.size W0 w6):=fT B4.out lz9 O4.out hgrow;clear hown' hgrow)
      go_roundw
      case rel=>exact⟨j+1,q6,cap6,by omega,by go_num,by rw [HNX.out,hpk.out,j3],by rw [HNX.out,hpk.out,cO,j3];exact O6.out,B6.out⟩
      case measure=>simp only [intOf];omega
    ·have e5:(u.f.k==5)=false:=by simpa using k5
     have hpk:=aB (show dK u=[u] by unfold dK;simp [k1,k5])
     have hlu2:out.length+1<=1000000:=by have:=hlu;rw [hpk.out] at this;exact this
     have K5:Below W4.heap.size W4 (W4.alloc (.cells #[.int .i64 u.f.k,.int .i64 u.f.n,.int .i64 u.f.mn,.int .i64 u.f.mx,.slice u.f.rq u.f.rs.length u.f.rc,.slice u.f.kq u.f.kl u.f.kc] 25)):=bz9
     have N5:=aB (eU (aD W4 (.cells #[.int .i64 u.f.k,.int .i64 u.f.n,.int .i64 u.f.mn,.int .i64 u.f.mx,.slice u.f.rq u.f.rs.length u.f.rc,.slice u.f.kq u.f.kl u.f.kc] 25)))
     have O5:=aB (aK O4.out (Fr.of_below (S:=fun _=>False) K5) (fun _ _ z=>z))
     have B5:Hid (Below W0.heap.size W0 (W4.alloc (.cells #[.int .i64 u.f.k,.int .i64 u.f.n,.int .i64 u.f.mn,.int .i64 u.f.mx,.slice u.f.rq u.f.rs.length u.f.rc,.slice u.f.kq u.f.kl u.f.kc] 25))):=aF B4.out K5 lz9
     rw [<- hkl] at n5
     clear hkl K5
     go_wp2_with (at_builtin;refine wpList_append_own_at _ rfl _ _ 23 rfl W0.heap.size 25 t0 (.agg #[.int .i64 0,.int .i64 0,.int .i64 0,.int .i64 0,.slice none 0 0,.slice none 0 0]) 6 80 bY hi hz0 hz1 hz2 rfl (by decide) (.slice qq out.length cc) out.length (aQ out) rfl O5.out ⟨W4.heap.size,0,none⟩ 1 1 u.f.cells rfl rfl N5.out (fun v hv=>by simp [Fl.cells] at hv;rcases hv with rfl | rfl | rfl | rfl | rfl | rfl <;> rfl) (by unfold maxLen;omega) (by omega) B5.out.size ?_;intro v' w6 hown' hgrow _ _;obtain⟨q6,cap6,rfl⟩:=aR hown';have O6:=aB hown';have B6:Hid (Below W0.heap.size W0 w6):=fT B5.out lz9 O5.out hgrow;clear hown' hgrow)
     go_roundw
     case rel=>exact⟨j+1,q6,cap6,by omega,by go_num,by rw [HNX.out,hpk.out,j3];rfl,by rw [HNX.out,hpk.out,cO,j3,show aQ [u]=u.f.cells by simp [aQ]];exact O6.out,B6.out⟩
     case measure=>simp only [intOf];omega
  ·have i0:¬ (j:Int)<(l.length:Int):=by omega
   have he:(l.take j).flatMap dK=l.flatMap dK:=by rw [j5 (by omega)]
   have JN:=aB (rI 5 1 (kM HO.out) (fun u hu=>(by
    obtain⟨x,hx,hux⟩:=aAF.1 hu
    exact((aD5 (HT.out x (aAG hx)) hux).kept B0.out).kept HB.out)) (Nat.lt_of_le_of_lt (j4 (gB qE _) (fN l j)) hsz) (fun a e z=>(aG HO.out (g:=a.block) (by rw [e];rfl)).2.2))
   rw [he] at JN
   have hlen:((l.take j).flatMap dK).length=(l.flatMap dK).length:=by rw [he]
   rw [hlen]
   clear he hlen HO HLE
   generalize l.flatMap dK=out at JN HX ⊢
   go_wp2_with (go_at_call 88;(with_reducible refine(JN.out).mono ?_);rintro e w5 ⟨t5,rfl,h51,h52,h53,h54⟩;have R5:w5.heap[w.heap.size]?=some (.cells #[.int .i64 0,.int .i64 0,.int .i64 0,.int .i64 0,.slice none 0 0,.slice none 0 0] 25 (0,0)):=(h54.block _ (j2 LZ HB.out.size)).trans ((HB.out.block _ LZ).trans R0.out);have r0:=aA R5 (i:=0) rfl;have r1:=aA R5 (i:=1) rfl;have r2:=aA R5 (i:=2) rfl;have r3:=aA R5 (i:=3) rfl;have r4:=aA R5 (i:=4) rfl;have r5:=aA R5 (i:=5) rfl;have fz:=fun z=>aJ R5 z;have L9:=aB (gL h51 (h52.mono (fun k hk=>j2 LZ (j4 HB.out.size hk))) R5);have X9:=aB L9.out.1;have P9:=aB L9.out.2.2;unfold bH at X9 P9;have Q5:=aB (⟨h52,h53,aF (aF B0.out HB.out lz9) h54 lz9⟩:Foot (fun k=>wr.heap.size<=k) t5/\er t5=_/\Below w.heap.size w w5);clear h51 h52 h53 h54)
   refine aH5 X9.out rfl rfl ?_
   exact⟨t5,rfl,L9.out.2.1,Q5.out.1.mono (fun k hk=>j4 B0.out.size (j4 HB.out.size hk)),by rw [Q5.out.2.1,<- HX.out],aX Q5.out.2.2 P9.out lz9 (fun k e=>by omega)⟩
theorem aH6{R:Ending->World->Prop}{a:Act}{W:World}{b:Nat}{f:Fl}(h:Six W b 0 f)(ha:a.tmps[2]?.getD undef=.pointer (some ⟨b,0,none⟩))(hd:a.defers=[])(hR:R (.returned (.agg #[.int .i64 f.k,.int .i64 f.n,.int .i64 f.mn,.int .i64 f.mx,.slice f.rq f.rs.length f.rc,.slice f.kq f.kl f.kc])) W):bodyPost Tryz.prog Tryz.f73 R .ret a W:=by
 obtain⟨z0,z1,z2,z3,z4,z5⟩:=h
 simp only [a7] at z1 z2 z3 z4 z5
 refine bodyPost_ret (v:=.agg #[.int .i64 f.k,.int .i64 f.n,.int .i64 f.mn,.int .i64 f.mx,.slice f.rq f.rs.length f.rc,.slice f.kq f.kl f.kc]) ?_ hd hR
 simp [results,Tryz.results73,go_sem,ha,z0,z1,z2,z3,z4,z5]
theorem aN0{w:World}{q:Option Addr}{c:Nat}{l:List Tr}(h:ArgK w (.slice q l.length c) l)(hta:∀ u∈l,TA w u)(hsz:szs l<1000000) :
  Calls Tryz.prog 73 #[.slice q l.length c] w (iV w (fR 6 ((l.flatMap eI).map er) (.mk 2 0 0 0 [] []))):=by
 obtain⟨t0,hi,hz0,hz1,hz2⟩:=aW fD
 have B0:Hid (Below w.heap.size w (w.alloc (.cells #[.int .i64 0,.int .i64 0,.int .i64 0,.int .i64 0,.slice none 0 0,.slice none 0 0] 25))):=bz9
 have R0:Hid ((w.alloc (.cells #[.int .i64 0,.int .i64 0,.int .i64 0,.int .i64 0,.slice none 0 0,.slice none 0 0] 25)).heap[w.heap.size]?=some (.cells #[.int .i64 0,.int .i64 0,.int .i64 0,.int .i64 0,.slice none 0 0,.slice none 0 0] 25 (0,0))):=aD w _
 obtain⟨X,hX⟩:∃ X,fR 6 ((l.flatMap eI).map er) (.mk 2 0 0 0 [] [])=X:=⟨_,rfl⟩
 rw [hX]
 have HX:=aB hX
 obtain⟨q',c',e,hml,-,hx⟩:=h.slice
 injection e with e1 _ e3
 subst e1 e3
 have hml':l.length<=9223372036854775807:=hml
 have HH:=aB hx
 have HT:=aB hta
 have hlz:=eD l
 clear hX h hta hx hml
 go_enter Tryz.func73,Tryz.ntmps73
 go_upto_region 1 with fail
 generalize (w.alloc (.cells #[.int .i64 0,.int .i64 0,.int .i64 0,.int .i64 0,.slice none 0 0,.slice none 0 0] 25))=W0 at B0 R0 ⊢
 have LZ:=aC R0.out
 go_upto_region 2 with fail
 go_wp2
 go_loopw [8,3] (fun i s wr=>∃ (j:Nat) (qq:Option Addr) (cc:Nat),j<=l.length/\i=.int .i64 (j:Int)/\s=.slice qq ((l.take j).flatMap eI).length cc/\wr.ownsRow W0.heap.size 25 6 (.slice qq ((l.take j).flatMap eI).length cc) ((l.take j).flatMap eI).length (aQ ((l.take j).flatMap eI))/\Below W0.heap.size W0 wr) (fun i _ _=>l.length-(intOf i).toNat)
 case atStart=>exact⟨0,none,0,m7 _,rfl,rfl,t4 _ _ _ _,Below.refl _ _⟩
 case round=>
  obtain⟨j,qq,cc,hj,rfl,rfl,hown,hbel⟩:=hrel
  have HO:=aB hown
  have HB:=aB hbel
  have HLE:((l.take j).flatMap eI).length<=1000000:=j4 (eD _) (j4 (gB qI _) (by have:=fN l j;omega))
  clear hown hbel
  by_cases hjl:j<l.length
  ·have i0:(j:Int)<(l.length:Int):=by omega
   obtain⟨u,hu⟩:∃ u,l[j]?=some u:=⟨_,b7 hjl⟩
   obtain⟨g,off,hq,hg,six⟩:=HH.out j u hu
   have hin:u∈l:=i5 hu
   have BW:Below w.heap.size w wr:=aF B0.out HB.out lz9
   obtain⟨c0,c1,c2,c3,c4,c5⟩:=six.ck (CK.of_below BW) hg
   have HN:(l.take (j+1)).flatMap eI=(l.take j).flatMap eI++eI u:=by rw [o7,hu,aAC];simp
   have HNX:=aB HN
   have K4:Below wr.heap.size wr (wr.alloc (.cells #[.int .i64 u.f.k,.int .i64 u.f.n,.int .i64 u.f.mn,.int .i64 u.f.mx,.slice u.f.rq u.f.rs.length u.f.rc,.slice u.f.kq u.f.kl u.f.kc] 25)):=bz9
   have N4:Hid (BoxN (wr.alloc (.cells #[.int .i64 u.f.k,.int .i64 u.f.n,.int .i64 u.f.mn,.int .i64 u.f.mx,.slice u.f.rq u.f.rs.length u.f.rc,.slice u.f.kq u.f.kl u.f.kc] 25)) wr.heap.size u.f):=aD wr _
   have B4:Hid (Below W0.heap.size W0 (wr.alloc (.cells #[.int .i64 u.f.k,.int .i64 u.f.n,.int .i64 u.f.mn,.int .i64 u.f.mx,.slice u.f.rq u.f.rs.length u.f.rc,.slice u.f.kq u.f.kl u.f.kc] 25))):=HB.out.alloc HB.out.size _
   have O4:=aB (aK HO.out (Fr.of_below (S:=fun _=>False) K4) (fun _ _ z=>z))
   have T4:=aB (((HT.out u hin).kept BW).kept K4)
   have hlu:((l.take (j+1)).flatMap eI).length<=1000000:=j4 (eD _) (j4 (gB qI _) (by have:=fN l (j+1);omega))
   rw [HN,j3] at hlu
   rw [hq]
   clear six hu K4 BW HN
   go_upto_region 5 with fail
   generalize (wr.alloc (.cells #[.int .i64 u.f.k,.int .i64 u.f.n,.int .i64 u.f.mn,.int .i64 u.f.mx,.slice u.f.rq u.f.rs.length u.f.rc,.slice u.f.kq u.f.kl u.f.kc] 25))=W4 at N4 B4 O4 T4 ⊢
   obtain⟨n0,n1,n2,n3,n4,n5⟩:=N4.out.six
   simp only [a7] at n1 n2 n3 n4 n5
   have hkl:=T4.out.node.kl
   rw [hkl] at n5
   have TK:=T4.out.node.k
   rw [hkl] at TK
   have HTK:=aB TK
   clear c0 c1 c2 c3 c4 c5 TK
   generalize hout:(l.take j).flatMap eI=out at *
   by_cases k6:u.f.k=6
   ·have e6:(u.f.k==6)=true:=by simpa using k6
    have hpk:=aB (show eI u=u.ks by unfold eI;simp [k6])
    have hlu2:out.length+u.ks.length<=1000000:=by rw [<- hpk.out];exact hlu
    cases hkq:u.f.kq with
    | none=>
     rw [hkq] at n5 HTK
     have hks:u.ks=[]/\u.f.kc=0:=by
      rcases HTK.out with⟨p,cap,e,h1,h2⟩ | ⟨g',off',cap,e,-⟩
      ·injection e with e1 _ e3
       subst e1 e3
       exact⟨h1,h2 rfl⟩
      ·cases e
     rw [hks.1,hks.2,List.length_nil] at n5
     have HKS:=aB hks
     have HKQ:=aB hkq
     clear hks hkq hkl HTK k6
     go_wp2_with (at_builtin;refine wpList_append_own_none rfl _ _ 23 rfl W0.heap.size 25 t0 6 bY hi (.slice qq out.length cc) out.length (aQ out) rfl O4.out rfl ?_)
     go_roundw
     case rel=>exact⟨j+1,qq,cc,by omega,by go_num,by rw [HNX.out,hpk.out,HKS.out.1,l9],by rw [HNX.out,hpk.out,HKS.out.1,l9];exact O4.out,B4.out⟩
     case measure=>simp only [intOf];omega
    | some ad=>
     rw [hkq] at n5 HTK
     have HKQ:=aB hkq
     clear hkq hkl k6
     go_wp2_with (at_builtin;refine wpList_append_own_at _ rfl _ _ 23 rfl W0.heap.size 25 t0 (.agg #[.int .i64 0,.int .i64 0,.int .i64 0,.int .i64 0,.slice none 0 0,.slice none 0 0]) 6 80 bY hi hz0 hz1 hz2 rfl (by decide) (.slice qq out.length cc) out.length (aQ out) rfl O4.out ad u.ks.length u.f.kc (aQ u.ks) rfl (by rw [eS]) HTK.out.news (kA u.ks) (by unfold maxLen;omega) (by omega) B4.out.size ?_;intro v' w6 hown' hgrow _ _;obtain⟨q6,cap6,rfl⟩:=aR hown';have O6:=aB hown';have B6:Hid (Below W0.heap.size W0 w6):=fT B4.out lz9 O4.out hgrow;clear hown' hgrow)
     go_roundw
     case rel=>exact⟨j+1,q6,cap6,by omega,by go_num,by rw [HNX.out,hpk.out,j3],by rw [HNX.out,hpk.out,cO,j3];exact O6.out,B6.out⟩
     case measure=>simp only [intOf];omega
   ·have e6:(u.f.k==6)=false:=by simpa using k6
    have hpk:=aB (show eI u=[u] by unfold eI;simp [k6])
    have hlu2:out.length+1<=1000000:=by have:=hlu;rw [hpk.out] at this;exact this
    have K5:Below W4.heap.size W4 (W4.alloc (.cells #[.int .i64 u.f.k,.int .i64 u.f.n,.int .i64 u.f.mn,.int .i64 u.f.mx,.slice u.f.rq u.f.rs.length u.f.rc,.slice u.f.kq u.f.kl u.f.kc] 25)):=bz9
    have N5:=aB (eU (aD W4 (.cells #[.int .i64 u.f.k,.int .i64 u.f.n,.int .i64 u.f.mn,.int .i64 u.f.mx,.slice u.f.rq u.f.rs.length u.f.rc,.slice u.f.kq u.f.kl u.f.kc] 25)))
    have O5:=aB (aK O4.out (Fr.of_below (S:=fun _=>False) K5) (fun _ _ z=>z))
    have B5:Hid (Below W0.heap.size W0 (W4.alloc (.cells #[.int .i64 u.f.k,.int .i64 u.f.n,.int .i64 u.f.mn,.int .i64 u.f.mx,.slice u.f.rq u.f.rs.length u.f.rc,.slice u.f.kq u.f.kl u.f.kc] 25))):=aF B4.out K5 lz9
    rw [<- hkl] at n5
    clear hkl K5
    go_wp2_with (at_builtin;refine wpList_append_own_at _ rfl _ _ 23 rfl W0.heap.size 25 t0 (.agg #[.int .i64 0,.int .i64 0,.int .i64 0,.int .i64 0,.slice none 0 0,.slice none 0 0]) 6 80 bY hi hz0 hz1 hz2 rfl (by decide) (.slice qq out.length cc) out.length (aQ out) rfl O5.out ⟨W4.heap.size,0,none⟩ 1 1 u.f.cells rfl rfl N5.out (fun v hv=>by simp [Fl.cells] at hv;rcases hv with rfl | rfl | rfl | rfl | rfl | rfl <;> rfl) (by unfold maxLen;omega) (by omega) B5.out.size ?_;intro v' w6 hown' hgrow _ _;obtain⟨q6,cap6,rfl⟩:=aR hown';have O6:=aB hown';have B6:Hid (Below W0.heap.size W0 w6):=fT B5.out lz9 O5.out hgrow;clear hown' hgrow)
    go_roundw
    case rel=>exact⟨j+1,q6,cap6,by omega,by go_num,by rw [HNX.out,hpk.out,j3];rfl,by rw [HNX.out,hpk.out,cO,j3,show aQ [u]=u.f.cells by simp [aQ]];exact O6.out,B6.out⟩
    case measure=>simp only [intOf];omega
  ·have i0:¬ (j:Int)<(l.length:Int):=by omega
   have he:(l.take j).flatMap eI=l.flatMap eI:=by rw [j5 (by omega)]
   have JN:=aB (rI 6 2 (kM HO.out) (fun u hu=>(by
    obtain⟨x,hx,hux⟩:=aAF.1 hu
    exact((aD9 (HT.out x (aAG hx)) hux).kept B0.out).kept HB.out)) (Nat.lt_of_le_of_lt (j4 (gB qI _) (fN l j)) hsz) (fun a e z=>(aG HO.out (g:=a.block) (by rw [e];rfl)).2.2))
   rw [he] at JN
   have hlen:((l.take j).flatMap eI).length=(l.flatMap eI).length:=by rw [he]
   rw [hlen]
   clear he hlen HO HLE
   generalize l.flatMap eI=out at JN HX ⊢
   go_wp2_with (go_at_call 88;(with_reducible refine(JN.out).mono ?_);rintro e w5 ⟨t5,rfl,h51,h52,h53,h54⟩;have R5:w5.heap[w.heap.size]?=some (.cells #[.int .i64 0,.int .i64 0,.int .i64 0,.int .i64 0,.slice none 0 0,.slice none 0 0] 25 (0,0)):=(h54.block _ (j2 LZ HB.out.size)).trans ((HB.out.block _ LZ).trans R0.out);have r0:=aA R5 (i:=0) rfl;have r1:=aA R5 (i:=1) rfl;have r2:=aA R5 (i:=2) rfl;have r3:=aA R5 (i:=3) rfl;have r4:=aA R5 (i:=4) rfl;have r5:=aA R5 (i:=5) rfl;have fz:=fun z=>aJ R5 z;have L9:=aB (gL h51 (h52.mono (fun k hk=>j2 LZ (j4 HB.out.size hk))) R5);have X9:=aB L9.out.1;have P9:=aB L9.out.2.2;unfold bH at X9 P9;have Q5:=aB (⟨h52,h53,aF (aF B0.out HB.out lz9) h54 lz9⟩:Foot (fun k=>wr.heap.size<=k) t5/\er t5=_/\Below w.heap.size w w5);clear h51 h52 h53 h54)
   refine aH6 X9.out rfl rfl ?_
   exact⟨t5,rfl,L9.out.2.1,Q5.out.1.mono (fun k hk=>j4 B0.out.size (j4 HB.out.size hk)),by rw [Q5.out.2.1,<- HX.out],aX Q5.out.2.2 P9.out lz9 (fun k e=>by omega)⟩
section
attribute [local go_sem] Oper.semAt_some
def RSays(base:Nat)(w:World)(o:Option Er)(e:Ending)(w':World):Prop:=∃ f':Fl,e=.returned (.tuple #[.agg #[.int .i64 f'.k,.int .i64 f'.n,.int .i64 f'.mn,.int .i64 f'.mx,.slice f'.rq f'.rs.length f'.rc,.slice f'.kq f'.kl f'.kc],.bool o.isSome])/\Below w.heap.size w w'/\∀ x,o=some x->∃ t':Tr,t'.f=f'/\TA w' t'/\Foot (fun k=>base<=k) t'/\er t'=x
theorem mE{w W:World}{b:Nat}(t:Tr)(hb:Below w.heap.size w W)(hr:W.heap[b]?=some (.cells #[.int .i64 0,.int .i64 0,.int .i64 0,.int .i64 0,.slice none 0 0,.slice none 0 0] 25 (0,0)))(h0:w.heap.size<=b)(ht:TA W t)(hf:Foot (fun k=>b<k) t) :
  Six (bH W b 0 t.f) b 0 t.f/\Below w.heap.size w (bH W b 0 t.f)/\TA (bH W b 0 t.f) t:=by
 have P9:=cE W b 0 t.f
 have X9:=cJ (b:=b) (o:=0) (f:=⟨0,0,0,0,[],none,0,none,0,0⟩) (g:=t.f) ⟨aA hr (i:=0) rfl,aA hr (i:=1) rfl,aA hr (i:=2) rfl,aA hr (i:=3) rfl,aA hr (i:=4) rfl,aA hr (i:=5) rfl⟩
 exact⟨X9,aX hb P9 lz9 (fun k e=>by omega),ht.ckN hf (P9.ckeep (fun k e z=>by omega))⟩
theorem kO{w W:World}{b:Nat}(hb:Below w.heap.size w W)(hr:W.heap[b]?=some (.cells #[.int .i64 0,.int .i64 0,.int .i64 0,.int .i64 0,.slice none 0 0,.slice none 0 0] 25 (0,0)))(h0:w.heap.size<=b) :
  Six (bH W b 0 (dO 0)) b 0 (dO 0)/\Below w.heap.size w (bH W b 0 (dO 0)):=by
 have P9:=cE W b 0 (dO 0)
 have X9:=cJ (b:=b) (o:=0) (f:=⟨0,0,0,0,[],none,0,none,0,0⟩) (g:=dO 0) ⟨aA hr (i:=0) rfl,aA hr (i:=1) rfl,aA hr (i:=2) rfl,aA hr (i:=3) rfl,aA hr (i:=4) rfl,aA hr (i:=5) rfl⟩
 exact⟨X9,aX hb P9 lz9 (fun k e=>by omega)⟩
theorem fO{R:Ending->World->Prop}{a:Act}{W:World}{b:Nat}{f:Fl}{e:Bool}(h:Six W b 0 f)(ha:a.tmps[2]?.getD undef=.pointer (some ⟨b,0,none⟩))(he:a.tmps[3]?.getD undef=.bool e)(hd:a.defers=[])(hR:R (.returned (.tuple #[.agg #[.int .i64 f.k,.int .i64 f.n,.int .i64 f.mn,.int .i64 f.mx,.slice f.rq f.rs.length f.rc,.slice f.kq f.kl f.kc],.bool e])) W):bodyPost Tryz.prog Tryz.f46 R .ret a W:=by
 obtain⟨z0,z1,z2,z3,z4,z5⟩:=h
 simp only [a7] at z1 z2 z3 z4 z5
 refine bodyPost_ret (v:=.tuple #[.agg #[.int .i64 f.k,.int .i64 f.n,.int .i64 f.mn,.int .i64 f.mx,.slice f.rq f.rs.length f.rc,.slice f.kq f.kl f.kc],.bool e]) ?_ hd hR
 simp [results,Tryz.results46,go_sem,ha,he,z0,z1,z2,z3,z4,z5]
theorem mC{t:Tr}{w:World}(hta:TA w t)(hs:t.sz<=2000):Calls Tryz.prog 46 #[.agg #[.int .i64 t.f.k,.int .i64 t.f.n,.int .i64 t.f.mn,.int .i64 t.f.mx,.slice t.f.rq t.f.rs.length t.f.rc,.slice t.f.kq t.f.kl t.f.kc]] w (RSays w.heap.size w (if t.ks.any rL then some (fR 5 ((t.ks.flatMap dK).map er) (.mk 1 0 0 0 [] [])) else none)):=by
 obtain⟨W,hW,B1,N1,R1⟩:=gU w t.f
 have T1:=hta.kept B1
 have hk1:=T1.node.k
 have hkl:=T1.node.kl
 have hsz:szs t.ks<1000000:=by have:=dY t;omega
 have EC:=aB (rR (w:=W) (xs:=t.ks) hk1)
 have K1:=aB T1
 obtain⟨c0,c1,c2,c3,c4,c5⟩:=N1.six
 simp only [a7] at c1 c2 c3 c4 c5
 have BB:=aB B1
 have RR1:=aB R1
 have NN1:=aB N1
 have HS:=aB hsz
 have HKL:=aB hkl
 clear hta hs N1 R1 B1 T1 hk1 hsz hkl
 cases he:t.ks.any rL with
 | false=>
  rw [he] at EC
  rw [if_neg (by decide)]
  go_enter Tryz.func46,Tryz.ntmps46
  go_wp2_with (go_at_call 69;(with_reducible refine EC.out.mono ?_);rintro e w5 ⟨rfl,h5⟩;have R5:=(h5.block _ (aC RR1.out)).trans RR1.out;have E0:=aB (kO (aF BB.out h5 lz9) R5 (Nat.le_succ _));have r0:=aA R5 (i:=0) rfl;have r1:=aA R5 (i:=1) rfl;have r2:=aA R5 (i:=2) rfl;have r3:=aA R5 (i:=3) rfl;have r4:=aA R5 (i:=4) rfl;have r5:=aA R5 (i:=5) rfl;have fz:=fun z=>aJ R5 z;clear h5 R5)
  exact fO E0.out.1 rfl rfl rfl ⟨dO 0,rfl,E0.out.2,fun x hx=>by cases hx⟩
 | true=>
  rw [he] at EC
  rw [if_pos rfl]
  obtain⟨X,hX⟩:∃ X,fR 5 ((t.ks.flatMap dK).map er) (.mk 1 0 0 0 [] [])=X:=⟨_,rfl⟩
  have CAT:Hid (∀ V,Below W.heap.size W V->Calls Tryz.prog 71 #[.slice t.f.kq t.f.kl t.f.kc] V (iV V X)):=aB fun V hV=>by
   have TV:=K1.out.kept hV
   have hk:=TV.node.k
   rw [HKL.out] at hk ⊢
   rw [<- hX]
   exact aV2 hk (fun u hu=>TV.kid hu) HS.out
  rw [hX]
  clear hX
  go_enter Tryz.func46,Tryz.ntmps46
  go_upto_region 3 with (go_at_call 69;(with_reducible refine EC.out.mono ?_);rintro e w5 ⟨rfl,h5⟩;have B5:=aB h5;clear h5)
  have C5:=aB (CAT.out w5 B5.out)
  have R5:=aB ((B5.out.block _ (aC RR1.out)).trans RR1.out)
  have k5:w5.cell? ⟨w.heap.size,5,none⟩=some (.slice t.f.kq t.f.kl t.f.kc):=(B5.out.cell (p:=⟨w.heap.size,5,none⟩) (aC NN1.out)).trans c5
  have BC:=aB (aF BB.out B5.out lz9)
  clear CAT EC B5
  go_wp2_with (go_at_call 71;(with_reducible refine C5.out.mono ?_);rintro e w6 ⟨t6,rfl,h61,h62,h63,h64⟩;have R6:=(h64.block _ (aC R5.out)).trans R5.out;have E0:=aB (mE t6 (aF BC.out h64 lz9) R6 (Nat.le_succ _) h61 (h62.mono fun k hk=>j2 (aC R5.out) hk));have F0:=aB (h62.mono fun k (hk:w5.heap.size<=k)=>j4 BC.out.size hk);have r0:=aA R6 (i:=0) rfl;have r1:=aA R6 (i:=1) rfl;have r2:=aA R6 (i:=2) rfl;have r3:=aA R6 (i:=3) rfl;have r4:=aA R6 (i:=4) rfl;have r5:=aA R6 (i:=5) rfl;have fz:=fun z=>aJ R6 z;have HX:=aB h63;clear h61 h62 h63 h64 R6)
  exact fO E0.out.1 rfl rfl rfl ⟨t6.f,rfl,E0.out.2.1,fun x hx=>⟨t6,rfl,E0.out.2.2,F0.out,by cases hx;exact HX.out⟩⟩
end
section
attribute [local go_sem] Oper.semAt_some
noncomputable def twT:List Tr->List Tr->List Tr
 | acc,[]=>acc
 | acc,x :: l=>if acc.any (twB x) then twT acc l else twT (acc++[x]) l
theorem aF2:∀ (l m acc:List Tr),twT acc (l++m)=twT (twT acc l) m:=by
 intro l
 induction l with
 | nil=>intro m acc;rfl
 | cons x l ih=>intro m acc;rw [l7,twT,twT];split <;> exact ih _ _
theorem aF1:∀ (l acc:List Tr) (x:Tr),x∈twT acc l->x∈acc\/x∈l:=by
 intro l
 induction l with
 | nil=>intro acc x h;exact .inl h
 | cons y l ih=>
  intro acc x h
  rw [twT] at h
  split at h
  ·exact(ih _ _ h).imp id (b6 _)
  ·rcases ih _ _ h with h | h
   ·rcases j6.1 h with h | h
    ·exact .inl h
    ·simp at h;subst h;exact .inr (g7 ..)
   ·exact .inr (b6 _ h)
theorem aF0:∀ (l acc:List Tr),szs (twT acc l)<=szs acc+szs l:=by
 intro l
 induction l with
 | nil=>intro acc;rw [twT,dJ];omega
 | cons y l ih=>
  intro acc
  rw [twT,bK]
  split
  ·have:=ih acc;omega
  ·have:=ih (acc++[y]);rw [eN,bK,dJ] at this;omega
noncomputable def twO (ks:List Tr):Option Er:=if (twT [] ks).length=ks.length then none else some (fR 6 (((twT [] ks).flatMap eI).map er) (.mk 2 0 0 0 [] []))
theorem gF{R:Ending->World->Prop}{a:Act}{W:World}{b:Nat}{f:Fl}{e:Bool}(h:Six W b 0 f)(ha:a.tmps[2]?.getD undef=.pointer (some ⟨b,0,none⟩))(he:a.tmps[3]?.getD undef=.bool e)(hd:a.defers=[])(hR:R (.returned (.tuple #[.agg #[.int .i64 f.k,.int .i64 f.n,.int .i64 f.mn,.int .i64 f.mx,.slice f.rq f.rs.length f.rc,.slice f.kq f.kl f.kc],.bool e])) W):bodyPost Tryz.prog Tryz.f48 R .ret a W:=by
 obtain⟨z0,z1,z2,z3,z4,z5⟩:=h
 simp only [a7] at z1 z2 z3 z4 z5
 refine bodyPost_ret (v:=.tuple #[.agg #[.int .i64 f.k,.int .i64 f.n,.int .i64 f.mn,.int .i64 f.mx,.slice f.rq f.rs.length f.rc,.slice f.kq f.kl f.kc],.bool e]) ?_ hd hR
 simp [results,Tryz.results48,go_sem,ha,he,z0,z1,z2,z3,z4,z5]
theorem mL{t:Tr}{w:World}(hta:TA w t)(hs:t.sz<=2000):Calls Tryz.prog 48 #[.agg #[.int .i64 t.f.k,.int .i64 t.f.n,.int .i64 t.f.mn,.int .i64 t.f.mx,.slice t.f.rq t.f.rs.length t.f.rc,.slice t.f.kq t.f.kl t.f.kc]] w (RSays w.heap.size w (twO t.ks)):=by
 obtain⟨t0,hi,hz0,hz1,hz2⟩:=aW fD
 obtain⟨tf,L⟩:=t
 obtain⟨fk,fn,fmn,fmx,frs,frq,frc,fkq,fkl,fkc⟩:=tf
 have hkl:fkl=L.length:=hta.node.kl
 subst hkl
 have hsz:szs L<2000:=by have:=dY (Tr.mk ⟨fk,fn,fmn,fmx,frs,frq,frc,fkq,L.length,fkc⟩ L);simp only [Tr.ks] at this;omega
 have hpl:∀ u∈L,(pp [] u).length<=2000:=fun u hu=>by rw [cL];have:=bW (t:=Tr.mk ⟨fk,fn,fmn,fmx,frs,frq,frc,fkq,L.length,fkc⟩ L) hu;omega
 obtain⟨W,hW,B1,N1,R1⟩:=gU w ⟨fk,fn,fmn,fmx,frs,frq,frc,fkq,L.length,fkc⟩
 have T1:=hta.kept B1
 obtain⟨q',c',e,hml,-,hx⟩:=T1.node.k.slice
 have HTK:Hid (∀ V u,Below W.heap.size W V->u∈L->TA V u):=aB fun V u hV hu=>(T1.kept hV).kid hu
 change ∀ (i:Nat) (t:Tr),L[i]?=some t->∃ g off,q'=some ⟨g,off,none⟩/\g<W.heap.size/\Six W g (off+i*6) t.f at hx
 change Value.slice fkq L.length fkc=Value.slice q' L.length c' at e
 show Calls Tryz.prog 48 #[.agg #[.int .i64 fk,.int .i64 fn,.int .i64 fmn,.int .i64 fmx,.slice frq frs.length frc,.slice fkq L.length fkc]] w (RSays w.heap.size w (twO L))
 injection e with e1 _ e3
 subst e1 e3
 obtain⟨c0,c1,c2,c3,c4,c5⟩:=N1.six
 simp only [a7] at c1 c2 c3 c4 c5
 have hml':L.length<=9223372036854775807:=hml
 have HH:=aB hx
 have BB:=aB B1
 have RR1:=aB R1
 have NN1:=aB N1
 have HS:=aB hsz
 have HPL:=aB hpl
 have LZ:=aC R1
 obtain⟨OO,hOO⟩:∃ o,twO L=o:=⟨_,rfl⟩
 rw [hOO]
 unfold twO at hOO
 have HOO:=aB hOO
 clear hta hs N1 R1 B1 T1 hsz hpl hx hml hOO
 go_enter Tryz.func48,Tryz.ntmps48
 go_upto_region 1 with fail
 go_wp2
 go_loopw [10,4] (fun i s wr=>∃ (j:Nat) (qq:Option Addr) (cc:Nat),j<=L.length/\i=.int .i64 (j:Int)/\s=.slice qq (twT [] (L.take j)).length cc/\wr.ownsRow W.heap.size 25 6 (.slice qq (twT [] (L.take j)).length cc) (twT [] (L.take j)).length (aQ (twT [] (L.take j)))/\Below W.heap.size W wr) (fun i _ _=>L.length-(intOf i).toNat)
 case atStart=>exact⟨0,none,0,m7 _,rfl,rfl,t4 _ _ _ _,Below.refl _ _⟩
 case round=>
  obtain⟨j,qq,cc,hj,rfl,rfl,hown,hbel⟩:=hrel
  have HO:=aB hown
  have HB:=aB hbel
  have hmem:∀ j v,v∈twT [] (L.take j)->v∈L:=fun j v hv=>aAG ((aF1 _ _ _ hv).resolve_left (fun q=>by cases q))
  have hszo:∀ j,szs (twT [] (L.take j))<2000:=fun j=>by
   have h1:=aF0 (L.take j) []
   have h2:=fN L j
   have h3:=HS.out
   rw [dJ] at h1
   omega
  have HLE:(twT [] (L.take j)).length<=2000:=by have:=eD (twT [] (L.take j));have:=hszo j;omega
  have HMEM:=aB hmem
  have HSZO:=aB hszo
  clear hown hbel hmem hszo
  by_cases hjl:j<L.length
  ·have i0:(j:Int)<(L.length:Int):=by omega
   obtain⟨u,hu⟩:∃ u,L[j]?=some u:=⟨_,b7 hjl⟩
   obtain⟨g,off,hq,hg,six⟩:=HH.out j u hu
   have hin:u∈L:=i5 hu
   obtain⟨d0,d1,d2,d3,d4,d5⟩:=six.ck (CK.of_below HB.out) hg
   have HN:twT [] (L.take (j+1))=if (twT [] (L.take j)).any (twB u) then twT [] (L.take j) else twT [] (L.take j)++[u]:=by
    rw [o7,hu,aF2]
    show twT _ [u]=_
    rw [twT,twT,twT]
   have HNX:=aB HN
   have K4:Below wr.heap.size wr (wr.alloc (.cells #[.int .i64 u.f.k,.int .i64 u.f.n,.int .i64 u.f.mn,.int .i64 u.f.mx,.slice u.f.rq u.f.rs.length u.f.rc,.slice u.f.kq u.f.kl u.f.kc] 25)):=bz9
   have N4:Hid (BoxN (wr.alloc (.cells #[.int .i64 u.f.k,.int .i64 u.f.n,.int .i64 u.f.mn,.int .i64 u.f.mx,.slice u.f.rq u.f.rs.length u.f.rc,.slice u.f.kq u.f.kl u.f.kc] 25)) wr.heap.size u.f):=aD wr _
   have B4:Hid (Below W.heap.size W (wr.alloc (.cells #[.int .i64 u.f.k,.int .i64 u.f.n,.int .i64 u.f.mn,.int .i64 u.f.mx,.slice u.f.rq u.f.rs.length u.f.rc,.slice u.f.kq u.f.kl u.f.kc] 25))):=HB.out.alloc HB.out.size _
   have O4:=aB (aK HO.out (Fr.of_below (S:=fun _=>False) K4) (fun _ _ z=>z))
   have HOM:Hid (∀ v,v∈twT [] (L.take j)->v∈L):=aB (HMEM.out j)
   rw [hq]
   clear six hu K4 HN HMEM HSZO
   go_upto_region 5 with fail
   generalize (wr.alloc (.cells #[.int .i64 u.f.k,.int .i64 u.f.n,.int .i64 u.f.mn,.int .i64 u.f.mx,.slice u.f.rq u.f.rs.length u.f.rc,.slice u.f.kq u.f.kl u.f.kc] 25))=W4 at N4 B4 O4 ⊢
   generalize twT [] (L.take j)=out at *
   have CT:=aB (rQ (w:=W4) (xs:=out) (kM O4.out) (a:=u) (b:=wr.heap.size) N4.out (HTK.out W4 u B4.out hin).tb (fun v hv=>(HTK.out W4 v B4.out (HOM.out v hv)).tb) (HPL.out u hin) (fun v hv=>HPL.out v (HOM.out v hv)))
   clear d0 d1 d2 d3 d4 d5
   obtain⟨r,hr⟩:∃ r,out.any (twB u)=r:=⟨_,rfl⟩
   rw [hr] at CT HNX
   have HR:=aB hr
   clear hr
   cases r with
   | true=>
    go_wp2_with (go_at_call 69;(with_reducible refine CT.out.mono ?_);rintro e w5 ⟨rfl,h5⟩;have B5:=aB (aF B4.out h5 lz9);have O5:=aB (aK O4.out (Fr.of_below (S:=fun _=>False) h5) (fun _ _ z=>z));clear h5)
    go_roundw
    case rel=>exact⟨j+1,qq,cc,by omega,by go_num,by rw [HNX.out];rfl,by rw [HNX.out];exact O5.out,B5.out⟩
    case measure=>simp only [intOf];omega
   | false=>
    go_upto_region 6 with (go_at_call 69;(with_reducible refine CT.out.mono ?_);rintro e w5 ⟨rfl,h5⟩;have B5:=aB (aF B4.out h5 lz9);have O5:=aB (aK O4.out (Fr.of_below (S:=fun _=>False) h5) (fun _ _ z=>z));have N5:Hid (BoxN w5 wr.heap.size u.f):=aB ((h5.block _ (aC N4.out)).trans N4.out);clear h5)
    obtain⟨n0,n1,n2,n3,n4,n5⟩:=N5.out.six
    simp only [a7] at n1 n2 n3 n4 n5
    have K6:Below w5.heap.size w5 (w5.alloc (.cells #[.int .i64 u.f.k,.int .i64 u.f.n,.int .i64 u.f.mn,.int .i64 u.f.mx,.slice u.f.rq u.f.rs.length u.f.rc,.slice u.f.kq u.f.kl u.f.kc] 25)):=bz9
    have M6:=aB (eU (aD w5 (.cells #[.int .i64 u.f.k,.int .i64 u.f.n,.int .i64 u.f.mn,.int .i64 u.f.mx,.slice u.f.rq u.f.rs.length u.f.rc,.slice u.f.kq u.f.kl u.f.kc] 25)))
    have O6:=aB (aK O5.out (Fr.of_below (S:=fun _=>False) K6) (fun _ _ z=>z))
    have B6:Hid (Below W.heap.size W (w5.alloc (.cells #[.int .i64 u.f.k,.int .i64 u.f.n,.int .i64 u.f.mn,.int .i64 u.f.mx,.slice u.f.rq u.f.rs.length u.f.rc,.slice u.f.kq u.f.kl u.f.kc] 25))):=aF B5.out K6 lz9
    clear K6
    go_wp2_with (at_builtin;refine wpList_append_own_at _ rfl _ _ 23 rfl W.heap.size 25 t0 (.agg #[.int .i64 0,.int .i64 0,.int .i64 0,.int .i64 0,.slice none 0 0,.slice none 0 0]) 6 80 bY hi hz0 hz1 hz2 rfl (by decide) (.slice qq out.length cc) out.length (aQ out) rfl O6.out ⟨w5.heap.size,0,none⟩ 1 1 u.f.cells rfl rfl M6.out (fun v hv=>by simp [Fl.cells] at hv;rcases hv with rfl | rfl | rfl | rfl | rfl | rfl <;> rfl) (by unfold maxLen;omega) (by omega) B6.out.size ?_;intro v' w6 hown' hgrow _ _;obtain⟨q6,cap6,rfl⟩:=aR hown';have O7:=aB hown';have B7:Hid (Below W.heap.size W w6):=fT B6.out lz9 O6.out hgrow;clear hown' hgrow)
    go_roundw
    case rel=>exact⟨j+1,q6,cap6,by omega,by go_num,by rw [HNX.out];simp,by rw [HNX.out,if_neg (by decide),cO,j3,show aQ [u]=u.f.cells by simp [aQ]];exact O7.out,B7.out⟩
    case measure=>simp only [intOf];omega
  ·have i0:¬ (j:Int)<(L.length:Int):=by omega
   have he:L.take j=L:=j5 (by omega)
   have hmem:=HMEM.out j
   have hszo:=HSZO.out j
   rw [he] at HO HLE hmem hszo ⊢
   clear HMEM HSZO he
   generalize twT [] L=out at HO HLE hmem hszo HOO ⊢
   have d5:wr.cell? ⟨w.heap.size,5,none⟩=some (.slice fkq L.length fkc):=(HB.out.cell (p:=⟨w.heap.size,5,none⟩) (aC NN1.out)).trans c5
   have R5:=aB ((HB.out.block _ LZ).trans RR1.out)
   have hw0:=aC NN1.out
   by_cases hlen:out.length=L.length
   ·have E0:=aB (kO (aF BB.out HB.out lz9) R5.out (Nat.le_succ _))
    have r0:=aA R5.out (i:=0) rfl
    have r1:=aA R5.out (i:=1) rfl
    have r2:=aA R5.out (i:=2) rfl
    have r3:=aA R5.out (i:=3) rfl
    have r4:=aA R5.out (i:=4) rfl
    have r5:=aA R5.out (i:=5) rfl
    have fz:=fun z=>aJ R5.out z
    have hoo:=HOO.out
    rw [if_pos hlen] at hoo
    subst hoo
    rw [hlen]
    go_wp2
    exact gF E0.out.1 rfl rfl rfl ⟨dO 0,rfl,E0.out.2,fun x hx=>by cases hx⟩
   ·have hoo:=HOO.out
    rw [if_neg hlen] at hoo
    have hl2:((out.length:Int)==(L.length:Int))=false:=by simpa using (fun h=>hlen (by omega))
    have AC:=aB (aN0 (kM HO.out) (fun v hv=>HTK.out wr v HB.out (hmem v hv)) (by omega))
    obtain⟨X,hX⟩:∃ X,fR 6 ((out.flatMap eI).map er) (.mk 2 0 0 0 [] [])=X:=⟨_,rfl⟩
    rw [hX] at AC hoo
    subst hoo
    clear hX
    go_wp2_with (go_at_call 73;(with_reducible refine AC.out.mono ?_);rintro e w6 ⟨t6,rfl,h61,h62,h63,h64⟩;have R6:=(h64.block _ (aC R5.out)).trans R5.out;have E0:=aB (mE t6 (aF (aF BB.out HB.out lz9) h64 lz9) R6 (Nat.le_succ _) h61 (h62.mono fun k hk=>j2 (aC R5.out) hk));have F0:=aB (h62.mono fun k (hk:wr.heap.size<=k)=>j4 (aF BB.out HB.out lz9).size hk);have r0:=aA R6 (i:=0) rfl;have r1:=aA R6 (i:=1) rfl;have r2:=aA R6 (i:=2) rfl;have r3:=aA R6 (i:=3) rfl;have r4:=aA R6 (i:=4) rfl;have r5:=aA R6 (i:=5) rfl;have fz:=fun z=>aJ R6 z;have HX:=aB h63;clear h61 h62 h63 h64 R6)
    exact gF E0.out.1 rfl rfl rfl ⟨t6.f,rfl,E0.out.2.1,fun x hx=>⟨t6,rfl,E0.out.2.2,F0.out,by cases hx;exact HX.out⟩⟩
end
def Er.kd:Er->Int | .mk k _ _ _ _ _=>k
def Er.wr(u:List (Int×Int)):Er->Er | .mk k n a b _ ks=>.mk k n a b u ks
def Er.rgs:Er->List (Int×Int) | .mk _ _ _ _ rs _=>rs
theorem cQ(t:Tr):(er t).kd=t.f.k:=by rw [bQ];rfl
theorem tV(t:Tr):(er t).rgs=t.f.rs:=by rw [bQ];rfl
def kJ(u:List (Int×Int)):Bool->List Er->List Er
 | _,[]=>[]
 | s,x :: l=>if x.kd=2 then (if s then kJ u s l else x.wr u :: kJ u true l) else x :: kJ u s l
def nZ(l:List Er):Bool:=l.any fun x=>decide (x.kd=2)
theorem iZ(u:List (Int×Int))(x:Er):∀ (l:List Er) (s:Bool),kJ u s (l++[x])=kJ u s l++(if x.kd=2 then (if s||nZ l then [] else [x.wr u]) else [x]):=by
 intro l
 induction l with
 | nil=>
  intro s
  rw [n9]
  simp only [kJ]
  by_cases h:x.kd=2
  ·rw [if_pos h,if_pos h];cases s <;> rfl
  ·rw [if_neg h,if_neg h];rfl
 | cons y l ih=>
  intro s
  rw [l7,kJ,kJ]
  by_cases hy:y.kd=2
  ·rw [if_pos hy,if_pos hy]
   cases s with
   | true=>rw [if_pos rfl,if_pos rfl,ih];simp
   | false=>
    rw [if_neg (by decide),if_neg (by decide),ih,l7]
    have:nZ (y :: l)=true:=by simp [nZ,hy]
    simp [this]
  ·rw [if_neg hy,if_neg hy,ih,l7]
   have:nZ (y :: l)=nZ l:=by simp [nZ,hy]
   rw [this]
structure OS where
 K:List Tr
 A:List (Int×Int)
 f:Nat
 s:Nat
def OS.add(o:OS)(u:Tr):OS:=if u.f.k=2 then (if 1<=o.s then ⟨o.K,o.A++u.f.rs,o.f,o.s+1⟩ else ⟨o.K++[u],o.A++u.f.rs,o.K.length,o.s+1⟩) else ⟨o.K++[u],o.A,o.f,o.s⟩
def osf(l:List Tr):OS:=l.foldl OS.add ⟨[],[],0,0⟩
theorem rA(l:List Tr)(u:Tr):osf (l++[u])=(osf l).add u:=by unfold osf;rw [List.foldl_append];rfl
def fK(u:Tr):Bool:=decide (u.f.k=2)
structure OSI(l:List Tr)(o:OS):Prop where
 sub:∀ u∈o.K,u∈l
 ranges:o.A=(l.filter fK).flatMap fun u=>u.f.rs
 sets:o.s=(l.filter fK).length
 none:o.s=0->∀ u,o.K.map er=kJ u false (l.map er)
 some:1<=o.s->∃ x0,o.K[o.f]?=some x0/\x0.f.k=2/\∀ u X,er X=(er x0).wr u->(o.K.set o.f X).map er=kJ u false (l.map er)
 szs:szs o.K<=szs l
 lt:o.f<=o.K.length
theorem rN(l:List Tr):nZ (l.map er)=true↔1<=(l.filter fK).length:=by
 unfold nZ
 rw [List.any_map,s8]
 constructor
 ·rintro ⟨x,hx,h⟩
  have hm:x∈l.filter fK:=o6.2 ⟨hx,by unfold fK;rw [<- cQ];simpa using h⟩
  exact List.length_pos_of_mem hm
 ·intro h
  obtain⟨x,hx⟩:=List.exists_mem_of_length_pos h
  have:=o6.1 hx
  exact⟨x,this.1,by have h2:=this.2;unfold fK at h2;rw [<- cQ] at h2;simpa using h2⟩
theorem OSI.add{l:List Tr}{o:OS}(h:OSI l o)(u:Tr):OSI (l++[u]) (o.add u):=by
 have hsub:∀ v∈o.K++[u],v∈l++[u]:=fun v hv=>by
  rcases j6.1 hv with q | q
  ·exact j6.2 (.inl (h.sub v q))
  ·exact j6.2 (.inr q)
 have hz:Go.Proofs.YtlamifbjklpdbaaGreat.szs (o.K++[u])<=Go.Proofs.YtlamifbjklpdbaaGreat.szs (l++[u]):=by rw [eN,eN];have:=h.szs;omega
 have hz2:Go.Proofs.YtlamifbjklpdbaaGreat.szs o.K<=Go.Proofs.YtlamifbjklpdbaaGreat.szs (l++[u]):=by rw [eN];have:=h.szs;omega
 unfold OS.add
 by_cases hk:u.f.k=2
 ·have hi:fK u=true:=by simpa [fK] using hk
  have hf:(l++[u]).filter fK=l.filter fK++[u]:=by rw [List.filter_append];simp [hi]
  have hku:(er u).kd=2:=(cQ u).trans hk
  rw [if_pos hk]
  by_cases hs:1<=o.s
  ·rw [if_pos hs]
   obtain⟨x0,e1,e2,e3⟩:=h.some hs
   refine⟨fun v hv=>j6.2 (.inl (h.sub v hv)),by rw [hf,aAC,h.ranges];simp,by rw [hf,j3,h.sets];rfl,fun e=>by simp at e,fun _=>⟨x0,e1,e2,fun v X hX=>?_⟩,hz2,h.lt⟩
   rw [o4,u2,iZ,if_pos hku,e3 v X hX,(rN l).2 (by rw [<- h.sets];exact hs)]
   simp
  ·rw [if_neg hs]
   have hs0:o.s=0:=by omega
   have hn:nZ (l.map er)=false:=by
    cases hh:nZ (l.map er) with
    | false=>rfl
    | true=>have:=(rN l).1 hh;rw [<- h.sets] at this;omega
   refine⟨hsub,by rw [hf,aAC,h.ranges];simp,by rw [hf,j3,h.sets];rfl,fun e=>by simp at e,fun _=>⟨u,by simp,hk,fun v X hX=>?_⟩,hz,by simp⟩
   rw [o4,u2,iZ,if_pos hku,hn,List.set_append_right _ _ lz9,u1,i4,o4,h.none hs0 v,u2,hX]
   simp
 ·have hi:fK u=false:=by simpa [fK] using hk
  have hf:(l++[u]).filter fK=l.filter fK:=by rw [List.filter_append];simp [hi]
  have hku:¬ (er u).kd=2:=fun e=>hk ((cQ u).symm.trans e)
  rw [if_neg hk]
  refine⟨hsub,by rw [hf];exact h.ranges,by rw [hf];exact h.sets,fun e v=>?_,fun e=>?_,hz,by rw [j3];have:=h.lt;simp;omega⟩
  ·rw [o4,o4,h.none e v,u2,iZ,if_neg hku]
  ·obtain⟨x0,e1,e2,e3⟩:=h.some e
   have hlt:o.f<o.K.length:=(i7.1 e1).1
   refine⟨x0,by rw [r6 hlt];exact e1,e2,fun v X hX=>?_⟩
   rw [List.set_append_left _ _ hlt,o4,o4,e3 v X hX,u2,iZ,if_neg hku]
theorem osi(l:List Tr):OSI l (osf l):=by
 have:∀ n,OSI (l.take n) (osf (l.take n)):=by
  intro n
  induction n with
  | zero=>exact⟨fun _ h=>(by cases h),rfl,rfl,fun _ _=>rfl,fun h=>(by cases h),o5 _,o5 _⟩
  | succ n ih=>
   by_cases hn:n<l.length
   ·rw [o7,b7 hn]
    show OSI (l.take n++[l[n]]) (osf (l.take n++[l[n]]))
    rw [rA]
    exact ih.add _
   ·rw [j5 (by omega)]
    rw [j5 (by omega)] at ih
    exact ih
 have h:=this l.length
 rwa [aAB] at h
end Go.Proofs.YtlamifbjklpdbaaGreat
