/-
  Parts of the proof.
-/
import Derived.Test.YtlamifbjklpdbaaGreatLessProofA0
import Derived.Test.YtlamifbjklpdbaaGreatLessProofB16
import Derived.Test.YtlamifbjklpdbaaGreatLessProofB2
import Derived.Test.YtlamifbjklpdbaaGreatLessProofB0
import Derived.Test.YtlamifbjklpdbaaGreatLessProofB15
import Derived.Deep.RegionWith
import Derived.Deep.RegionHeld
import Derived.Deep.DeepCutAuto
import Derived.Test.YtlamifbjklpdbaaGreatLessProofB13
import Derived.Test.YtlamifbjklpdbaaGreatLessProofB12
import Derived.Maps.Views
import Derived.Maps.OwnOps
import Derived.Laws.EntriesVeiled
import Derived.BigQuiet
set_option linter.unusedSimpArgs false
set_option maxRecDepth 100000
set_option maxHeartbeats 8000000
namespace Go.Proofs.YtlamifbjklpdbaaGreat
open Go Go.RowKit
def fW(most:Nat)(t:Tr):List Zl:=jK most [] ([],t)
theorem gJ(most:Nat)(t:Tr):(fW most t).map (·.1)=(pp [] t).take most:=by
 unfold fW jK
 rw [n9,List.length_nil,Nat.sub_zero,List.map_take,yG]
theorem gK(most:Nat)(t:Tr):(fW most t).length=min most (pp [] t).length:=by
 have:=congrArg List.length (gJ most t)
 rwa [r7,o9] at this
theorem lQ(t:Tr):(fW 2001 t).length=eK t:=by rw [gK,eK];omega
def aE3(w:World)(L:List Zl)(e:Ending)(w':World):Prop:=∃ q c,e=.returned (.slice q L.length c)/\ZR w.heap.size w' (.slice q L.length c) L/\Below w.heap.size w w'
theorem lS{w:World}{t:Tr}(most:Nat)(hm:most<=100000)(hta:TB w t):Calls Tryz.prog 19 #[.agg #[.int .i64 t.f.k,.int .i64 t.f.n,.int .i64 t.f.mn,.int .i64 t.f.mx,.slice t.f.rq t.f.rs.length t.f.rc,.slice t.f.kq t.f.kl t.f.kc],.int .i64 (most:Int)] w (aE3 w (fW most t)):=by
 have B1:Hid (Below w.heap.size w (w.alloc (.cells #[.int .i64 t.f.k,.int .i64 t.f.n,.int .i64 t.f.mn,.int .i64 t.f.mx,.slice t.f.rq t.f.rs.length t.f.rc,.slice t.f.kq t.f.kl t.f.kc] 25))):=bz9
 have N1:BoxN (w.alloc (.cells #[.int .i64 t.f.k,.int .i64 t.f.n,.int .i64 t.f.mn,.int .i64 t.f.mx,.slice t.f.rq t.f.rs.length t.f.rc,.slice t.f.kq t.f.kl t.f.kc] 25)) w.heap.size t.f:=aD w _
 obtain⟨c0,c1,c2,c3,c4,c5⟩:=N1.six
 simp only [a7] at c1 c2 c3 c4 c5
 have LY:Hid (Calls Tryz.prog 32 #[.slice none 0 0,.agg #[.int .i64 t.f.k,.int .i64 t.f.n,.int .i64 t.f.mn,.int .i64 t.f.mx,.slice t.f.rq t.f.rs.length t.f.rc,.slice t.f.kq t.f.kl t.f.kc,.int .i64 1,.int .i64 0,.bool true,.bool true,.bool true,.int .i64 0],.int .i64 (most:Int)] (w.alloc (.cells #[.int .i64 t.f.k,.int .i64 t.f.n,.int .i64 t.f.mn,.int .i64 t.f.mx,.slice t.f.rq t.f.rs.length t.f.rc,.slice t.f.kq t.f.kl t.f.kc] 25)) (sE w (w.alloc (.cells #[.int .i64 t.f.k,.int .i64 t.f.n,.int .i64 t.f.mn,.int .i64 t.f.mx,.slice t.f.rq t.f.rs.length t.f.rc,.slice t.f.kq t.f.kl t.f.kc] 25)) (.slice none 0 0) (fW most t))):=(by
  have h:=aU8 (w0:=w) hm t.sz t [] (w.alloc (.cells #[.int .i64 t.f.k,.int .i64 t.f.n,.int .i64 t.f.mn,.int .i64 t.f.mx,.slice t.f.rq t.f.rs.length t.f.rc,.slice t.f.kq t.f.kl t.f.kc] 25)) [] none 0 lz9 hta B1.out (t4 _ _ _ _) lz9
  have e:(zc (([],t),0)).toArray=#[.int .i64 t.f.k,.int .i64 t.f.n,.int .i64 t.f.mn,.int .i64 t.f.mx,.slice t.f.rq t.f.rs.length t.f.rc,.slice t.f.kq t.f.kl t.f.kc,.int .i64 1,.int .i64 0,.bool true,.bool true,.bool true,.int .i64 0]:=(by simp [zc,Fl.cells,arP,fiP,laP,brP])
  rw [e] at h
  exact h)
 clear N1 hta
 go_enter Tryz.func19,Tryz.ntmps19
 go_wp2_with (go_at_call 32;(with_reducible refine(LY.out).mono ?_);rintro e w5 ⟨q5,k5,rfl,h51,h52,h53⟩;have X5:=aB h51;have F5:=aB h53;clear h51 h52 h53)
 go_ret
 exact⟨q5,k5,rfl,X5.out,aX B1.out F5.out lz9 (fun k e=>by cases e)⟩
theorem uM{w:World}{t:Tr}(hta:TB w t):Calls Tryz.prog 13 #[.agg #[.int .i64 t.f.k,.int .i64 t.f.n,.int .i64 t.f.mn,.int .i64 t.f.mx,.slice t.f.rq t.f.rs.length t.f.rc,.slice t.f.kq t.f.kl t.f.kc]] w fun e w'=>e=.returned (.int .i64 (eK t:Int))/\Below w.heap.size w w':=by
 have B1:Hid (Below w.heap.size w (w.alloc (.cells #[.int .i64 t.f.k,.int .i64 t.f.n,.int .i64 t.f.mn,.int .i64 t.f.mx,.slice t.f.rq t.f.rs.length t.f.rc,.slice t.f.kq t.f.kl t.f.kc] 25))):=bz9
 have N1:BoxN (w.alloc (.cells #[.int .i64 t.f.k,.int .i64 t.f.n,.int .i64 t.f.mn,.int .i64 t.f.mx,.slice t.f.rq t.f.rs.length t.f.rc,.slice t.f.kq t.f.kl t.f.kc] 25)) w.heap.size t.f:=aD w _
 obtain⟨c0,c1,c2,c3,c4,c5⟩:=N1.six
 simp only [a7] at c1 c2 c3 c4 c5
 have LD:=aB (lS (w:=w.alloc (.cells #[.int .i64 t.f.k,.int .i64 t.f.n,.int .i64 t.f.mn,.int .i64 t.f.mx,.slice t.f.rq t.f.rs.length t.f.rc,.slice t.f.kq t.f.kl t.f.kc] 25)) 2001 (by omega) (hta.kept B1.out))
 have hl:=lQ t
 have HL:=aB hl
 clear N1 hta hl
 go_enter Tryz.func13,Tryz.ntmps13
 go_wp2_with (go_at_call 19;refine(LD.out).mono ?_;rintro e w5 ⟨q5,k5,rfl,h51,h52⟩;have B5:=aB h52;clear h51 h52)
 go_ret
 refine⟨?_,aF B1.out B5.out lz9⟩
 show Ending.returned (.int .i64 ((fW 2001 t).length:Int))=_
 rw [HL.out]
theorem ZR.cells{base:Nat}{W:World}{g c:Nat}{L:List Zl}(h:ZR base W (.slice (some ⟨g,0,none⟩) L.length c) L){i:Nat}{z:Zl}(hi:L[i]?=some z){j:Nat}{v:Value}(hj:(zc z)[j]?=some v):W.cell? ⟨g,i*12+j,none⟩=some v:=
 bM h ((iB L i j z hi (by have:=(i7.1 hj).1;rw [iH] at this;exact this)).trans hj)
theorem oN(l:List El)(j:Nat)(x:El)(h:l[j]?=some x):aI (l.take (j+1))=aI (l.take j)+(if x.2.f.k=7 then 1 else 0):=by rw [o7,h];exact eP _ _
section
attribute [local go_sem] bU
theorem qJ{w:World}{va vb:Value}{A B:List (Int×Int)}(ha:ArgR w va A)(hb:ArgR w vb B) :
  Calls Tryz.prog 31 #[va,vb] w fun e w'=>e=.returned (.bool (decide (A=B)))/\Below w.heap.size w w':=by
 obtain⟨q1,cap1,rfl,hl1,-,hc1⟩:=ha.slice
 obtain⟨q2,cap2,rfl,hl2,-,hc2⟩:=hb.slice
 have HC1:Hid (∀ (i:Nat) (r:Int×Int),A[i]?=some r->∃ g off,q1=some ⟨g,off,none⟩/\g<w.heap.size/\w.cell? ⟨g,off+2*i,none⟩=some (.int .i64 r.1)/\w.cell? ⟨g,off+2*i+1,none⟩=some (.int .i64 r.2)):=hc1
 have HC2:Hid (∀ (i:Nat) (r:Int×Int),B[i]?=some r->∃ g off,q2=some ⟨g,off,none⟩/\g<w.heap.size/\w.cell? ⟨g,off+2*i,none⟩=some (.int .i64 r.1)/\w.cell? ⟨g,off+2*i+1,none⟩=some (.int .i64 r.2)):=hc2
 clear hc1 hc2 ha hb
 unfold maxLen at hl1 hl2
 by_cases hne:A.length=B.length
 ·have HNE:Hid (A.length=B.length):=hne
  rw [<- hne]
  have b1:(((A.length:Nat):Int) != ((A.length:Nat):Int))=false:=by simp
  clear hne hl2
  go_enter Tryz.func31,Tryz.ntmps31
  go_wp2
  go_loopw [5] (fun i wr=>∃ k:Nat,k<=A.length/\i=.int .i64 k/\A.take k=B.take k/\Below w.heap.size w wr) (fun i _=>A.length-(intOf i).toNat)
  case atStart=>exact⟨0,m7 _,rfl,by simp,Below.refl _ _⟩
  case round=>
   obtain⟨k,hk,rfl,ht,hbl⟩:=hrel
   have HT:Hid (A.take k=B.take k):=ht
   have BW:Hid (Below w.heap.size w wr):=hbl
   clear ht hbl
   by_cases hlt:k<A.length
   ·obtain⟨a,ea⟩:∃ r,A[k]?=some r:=⟨_,b7 hlt⟩
    obtain⟨b,eb⟩:∃ r,B[k]?=some r:=⟨_,b7 (by have:=HNE.out;omega)⟩
    obtain⟨g1,o1,rfl,hg1,x1,x2⟩:=HC1.out k _ ea
    obtain⟨g2,o2,rfl,hg2,y1,y2⟩:=HC2.out k _ eb
    have d1:=(BW.out.cell (p:=⟨g1,o1+2*k,none⟩) hg1).trans x1
    have d2:=(BW.out.cell (p:=⟨g1,o1+2*k+1,none⟩) hg1).trans x2
    have d3:=(BW.out.cell (p:=⟨g2,o2+2*k,none⟩) hg2).trans y1
    have d4:=(BW.out.cell (p:=⟨g2,o2+2*k+1,none⟩) hg2).trans y2
    rw [u0] at d1 d2 d3 d4
    have s1:g1<wr.heap.size:=j2 hg1 BW.out.size
    have s2:g2<wr.heap.size:=j2 hg2 BW.out.size
    have NX:Hid (A.take (k+1)=B.take (k+1)↔a=b):=kD ea eb HT.out
    have NE:Hid (a≠b->¬ A=B):=fun q e=>by subst e;rw [ea] at eb;exact q (Option.some.inj eb)
    have i0:(0:Int)<=(k:Int):=by omega
    have i1:(k:Int)<(A.length:Int):=by omega
    obtain⟨a1,a2⟩:=a
    obtain⟨b1',b2⟩:=b
    dsimp only at d1 d2 d3 d4
    clear x1 x2 y1 y2 ea eb
    by_cases e1:a1=b1'
    ·by_cases e2:a2=b2
     ·subst e1 e2
      have f1:(a1==a1)=true:=by simp
      have f2:(a2==a2)=true:=by simp
      have NX2:Hid (A.take (k+1)=B.take (k+1)):=NX.out.2 rfl
      clear NX NE
      go_wp2
      refine wx9 ?_
      repeat (go_big_quiet_step (first | exact rfl))
      refine wpQuiet_nil ?_
      intro w7 hw7
      have B7:Hid (Below wr.heap.size wr w7):=aS hw7
      clear hw7
      go_wp2
      go_roundw
      case rel=>exact⟨k+1,by omega,by go_num,NX2.out,aF BW.out B7.out lz9⟩
      case measure=>simp [intOf];omega
     ·subst e1
      have f1:(a1==a1)=true:=by simp
      have f2:(a2==b2)=false:=by simp [e2]
      have N2:Hid (decide (A=B)=false):=j8 (NE.out (fun q=>e2 (Prod.mk.inj q).2))
      clear NX NE
      go_wp2
      refine wx9 ?_
      repeat (go_big_quiet_step (first | exact rfl))
      refine wpQuiet_nil ?_
      intro w7 hw7
      have B7:Hid (Below wr.heap.size wr w7):=aS hw7
      clear hw7
      go_wp2
      go_ret
      exact⟨by rw [N2.out];rfl,aF BW.out B7.out lz9⟩
    ·have f1:(a1==b1')=false:=by simp [e1]
     have N2:Hid (decide (A=B)=false):=j8 (NE.out (fun q=>e1 (Prod.mk.inj q).1))
     clear NX NE
     go_wp2
     refine wx9 ?_
     repeat (go_big_quiet_step (first | exact rfl))
     refine wpQuiet_nil ?_
     intro w7 hw7
     have B7:Hid (Below wr.heap.size wr w7):=aS hw7
     clear hw7
     go_wp2
     go_ret
     exact⟨by rw [N2.out];rfl,aF BW.out B7.out lz9⟩
   ·have i1:¬ (k:Int)<(A.length:Int):=by omega
    have EE:Hid (decide (A=B)=true):=r9 (by
     have e:=HT.out
     rw [j5 (by omega),j5 (by have:=HNE.out;omega)] at e
     exact e)
    go_wp2
    go_ret
    exact⟨by rw [EE.out];rfl,BW.out⟩
 ·have EE:Hid (decide (A=B)=false):=j8 (fun e=>hne (by rw [e]))
  have b1:(((A.length:Nat):Int) != ((B.length:Nat):Int))=true:=by simp;omega
  go_enter Tryz.func31,Tryz.ntmps31
  go_wp2
  go_ret
  exact⟨by rw [EE.out];rfl,Below.refl _ _⟩
end
abbrev Sg:=Int×Int×Int×Int×List (Int×Int)×Nat
def sig(t:Tr):Sg:=(t.f.k,t.f.n,t.f.mn,t.f.mx,t.f.rs,t.ks.length)
def sgs(l:List El):List Sg:=l.map fun x=>sig x.2
theorem gW(a b:List El):sgs (a++b)=sgs a++sgs b:=by simp [sgs]
theorem aP5{a b:Tr}(h:er a=er b):sig a=sig b:=by
 obtain⟨h1,h2,h3,h4,h5,h6⟩:=(nO a b).1 h
 have:=congrArg List.length h6
 rw [r7,r7] at this
 unfold sig
 rw [h1,h2,h3,h4,h5,this]
theorem aG0(a:Tr):∀ (b:Tr) (p q:Way) (X Y:List Sg),sgs (pp p a)++X=sgs (pp q b)++Y->er a=er b/\X=Y:=by
 refine Tr.ind (P:=fun a=>∀ (b:Tr) (p q:Way) (X Y:List Sg),sgs (pp p a)++X=sgs (pp q b)++Y->er a=er b/\X=Y) (fun a ih b p q X Y h=>?_) a
 have key:∀ (ks js:List Tr) (i i':Nat) (X Y:List Sg),(∀ u∈ks,u∈a.ks)->ks.length=js.length->sgs (pps a p i ks)++X=sgs (pps b q i' js)++Y->ks.map er=js.map er/\X=Y:=by
  intro ks
  induction ks with
  | nil=>
   intro js i i' X Y _ hl h
   cases js with
   | nil=>rw [aY,aY] at h;exact⟨rfl,h⟩
   | cons v js=>cases hl
  | cons u ks ihk=>
   intro js i i' X Y hm hl h
   cases js with
   | nil=>cases hl
   | cons v js=>
    rw [aZ,aZ,gW,gW,j7,j7] at h
    obtain⟨h1,h2⟩:=ih u (hm u g7) v _ _ _ _ h
    obtain⟨h3,h4⟩:=ihk js _ _ X Y (fun z hz=>hm z (b6 _ hz)) (by simpa using hl) h2
    rw [l8,l8,h1,h3]
    exact⟨rfl,h4⟩
 rw [cD,cD] at h
 simp only [sgs,l8,l7] at h
 injection h with h1 h2
 obtain⟨h5,h6⟩:=key a.ks b.ks 0 0 X Y (fun _ z=>z) (congrArg (fun s:Sg=>s.2.2.2.2.2) h1) h2
 refine⟨(nO a b).2 ⟨congrArg (fun s:Sg=>s.1) h1,congrArg (fun s:Sg=>s.2.1) h1,congrArg (fun s:Sg=>s.2.2.1) h1,congrArg (fun s:Sg=>s.2.2.2.1) h1,congrArg (fun s:Sg=>s.2.2.2.2.1) h1,h5⟩,h6⟩
theorem aP6(a:Tr):∀ (b:Tr) (p q:Way),er a=er b->sgs (pp p a)=sgs (pp q b):=by
 refine Tr.ind (P:=fun a=>∀ (b:Tr) (p q:Way),er a=er b->sgs (pp p a)=sgs (pp q b)) (fun a ih b p q h=>?_) a
 have hs:=aP5 h
 obtain⟨-,-,-,-,-,h6⟩:=(nO a b).1 h
 have key:∀ (ks js:List Tr) (i i':Nat),(∀ u∈ks,u∈a.ks)->ks.map er=js.map er->sgs (pps a p i ks)=sgs (pps b q i' js):=by
  intro ks
  induction ks with
  | nil=>
   intro js i i' _ hl
   cases js with
   | nil=>rw [aY,aY]
   | cons v js=>cases hl
  | cons u ks ihk=>
   intro js i i' hm hl
   cases js with
   | nil=>cases hl
   | cons v js=>
    rw [l8,l8] at hl
    injection hl with h1 h2
    rw [aZ,aZ,gW,gW,ih u (hm u g7) v _ _ h1,ihk js _ _ (fun z hz=>hm z (b6 _ hz)) h2]
 rw [cD,cD]
 have:=key a.ks b.ks 0 0 (fun _ z=>z) h6
 simp only [sgs,l8] at this ⊢
 rw [hs,this]
theorem mW(a b:Tr):eA (er a) (er b)=true↔sgs (pp [] a)=sgs (pp [] b):=by
 rw [dU]
 refine⟨aP6 a b [] [],fun h=>(aG0 a b [] [] [] [] (by rw [h])).1⟩
theorem aF9(a b:Tr)(h:sgs (pp [] a)=sgs (pp [] b)):(pp [] a).length=(pp [] b).length:=by
 have:=congrArg List.length h
 simpa [sgs] using this
noncomputable def rsB (a b:Tr):Bool:=!decide (2000<(pp [] a).length) && !decide (2000<(pp [] b).length)&&eA (er a) (er b)
theorem zG{a b:Tr}(h:eK a≠eK b\/2000<eK a):rsB a b=false:=by
 unfold rsB eK at *
 cases hs:eA (er a) (er b) with
 | false=>rw [Bool.and_false]
 | true=>
  have hl:=aF9 a b ((mW a b).1 hs)
  rw [r9 (show 2000<(pp [] a).length by omega)]
  rfl
theorem aP9{a b:Tr}(h1:eK a=eK b)(h2:¬ 2000<eK a):rsB a b=eA (er a) (er b)/\(pp [] a).length<=2000/\(pp [] b).length<=2000:=by
 unfold rsB eK at *
 have l1:(pp [] a).length<=2000:=by omega
 have l2:(pp [] b).length<=2000:=by omega
 rw [j8 (by omega),j8 (by omega)]
 exact⟨rfl,l1,l2⟩
theorem lN{w:World}{a b:Tr}(ha:TB w a)(hb:TB w b):Calls Tryz.prog 16 #[.agg #[.int .i64 a.f.k,.int .i64 a.f.n,.int .i64 a.f.mn,.int .i64 a.f.mx,.slice a.f.rq a.f.rs.length a.f.rc,.slice a.f.kq a.f.kl a.f.kc],.agg #[.int .i64 b.f.k,.int .i64 b.f.n,.int .i64 b.f.mn,.int .i64 b.f.mx,.slice b.f.rq b.f.rs.length b.f.rc,.slice b.f.kq b.f.kl b.f.kc]] w fun e w'=>e=.returned (.bool (rsB a b))/\Below w.heap.size w w':=by
 have B1:Hid (Below w.heap.size w ((w.alloc (.cells #[.int .i64 a.f.k,.int .i64 a.f.n,.int .i64 a.f.mn,.int .i64 a.f.mx,.slice a.f.rq a.f.rs.length a.f.rc,.slice a.f.kq a.f.kl a.f.kc] 25)).alloc (.cells #[.int .i64 b.f.k,.int .i64 b.f.n,.int .i64 b.f.mn,.int .i64 b.f.mx,.slice b.f.rq b.f.rs.length b.f.rc,.slice b.f.kq b.f.kl b.f.kc] 25))):=(bz9).alloc (by simp) _
 have NA1:Hid (BoxN ((w.alloc (.cells #[.int .i64 a.f.k,.int .i64 a.f.n,.int .i64 a.f.mn,.int .i64 a.f.mx,.slice a.f.rq a.f.rs.length a.f.rc,.slice a.f.kq a.f.kl a.f.kc] 25)).alloc (.cells #[.int .i64 b.f.k,.int .i64 b.f.n,.int .i64 b.f.mn,.int .i64 b.f.mx,.slice b.f.rq b.f.rs.length b.f.rc,.slice b.f.kq b.f.kl b.f.kc] 25)) w.heap.size a.f):=(Below.heap_alloc _ _ _ (by simp)).trans (aD w _)
 have NB1:Hid (BoxN ((w.alloc (.cells #[.int .i64 a.f.k,.int .i64 a.f.n,.int .i64 a.f.mn,.int .i64 a.f.mx,.slice a.f.rq a.f.rs.length a.f.rc,.slice a.f.kq a.f.kl a.f.kc] 25)).alloc (.cells #[.int .i64 b.f.k,.int .i64 b.f.n,.int .i64 b.f.mn,.int .i64 b.f.mx,.slice b.f.rq b.f.rs.length b.f.rc,.slice b.f.kq b.f.kl b.f.kc] 25)) (w.heap.size+1) b.f):=(by
  have:=aD (w.alloc (.cells #[.int .i64 a.f.k,.int .i64 a.f.n,.int .i64 a.f.mn,.int .i64 a.f.mx,.slice a.f.rq a.f.rs.length a.f.rc,.slice a.f.kq a.f.kl a.f.kc] 25)) (.cells #[.int .i64 b.f.k,.int .i64 b.f.n,.int .i64 b.f.mn,.int .i64 b.f.mx,.slice b.f.rq b.f.rs.length b.f.rc,.slice b.f.kq b.f.kl b.f.kc] 25)
  rwa [m8] at this)
 have HA:=aB ha
 have HB:=aB hb
 obtain⟨R,hR⟩:∃ R,rsB a b=R:=⟨_,rfl⟩
 rw [hR]
 have HR:=aB hR
 clear ha hb hR
 go_enter Tryz.func16,Tryz.ntmps16
 go_upto_region 1 with fail
 generalize ((w.alloc (.cells #[.int .i64 a.f.k,.int .i64 a.f.n,.int .i64 a.f.mn,.int .i64 a.f.mx,.slice a.f.rq a.f.rs.length a.f.rc,.slice a.f.kq a.f.kl a.f.kc] 25)).alloc (.cells #[.int .i64 b.f.k,.int .i64 b.f.n,.int .i64 b.f.mn,.int .i64 b.f.mx,.slice b.f.rq b.f.rs.length b.f.rc,.slice b.f.kq b.f.kl b.f.kc] 25))=W1 at B1 NA1 NB1 ⊢
 generalize w.heap.size+1=bb at NB1 ⊢
 obtain⟨c0,c1,c2,c3,c4,c5⟩:=NA1.out.six
 simp only [a7] at c1 c2 c3 c4 c5
 have LA:=aB (lS (w:=W1) 2001 (by omega) (HA.out.kept B1.out))
 have hza:=lQ a
 have HMA:=aB (gJ 2001 a)
 generalize fW 2001 a=ZA at LA hza HMA
 have HZA:=aB hza
 clear hza
 go_upto_region 2 with (go_at_call 19;refine(LA.out).mono ?_;rintro e w5 ⟨q5,k5,rfl,h51,h52⟩;have Z5:=aB h51;have B5:=aB h52;clear h51 h52)
 clear c0 c1 c2 c3 c4 c5 LA
 obtain⟨c0,c1,c2,c3,c4,c5⟩:=(show BoxN w5 bb b.f from (B5.out.block _ (aC NB1.out)).trans NB1.out).six
 simp only [a7] at c1 c2 c3 c4 c5
 have B6:=aB (aF B1.out B5.out lz9)
 have LB:=aB (lS (w:=w5) 2001 (by omega) (HB.out.kept B6.out))
 have hzb:=lQ b
 have HMB:=aB (gJ 2001 b)
 generalize fW 2001 b=ZB at LB hzb HMB
 have HZB:=aB hzb
 clear hzb
 go_upto_region 3 with (go_at_call 19;refine(LB.out).mono ?_;rintro e w7 ⟨q7,k7,rfl,h51,h52⟩;have Z7:=aB h51;have B7:=aB h52;clear h51 h52)
 have Y7:Hid (ZR W1.heap.size w7 (.slice q5 ZA.length k5) ZA):=aK Z5.out (Fr.of_below (S:=fun _=>False) B7.out) (fun _ _ z=>z)
 have B8:=aB (aF B6.out B7.out lz9)
 have hua:eK a<=2001:=Nat.min_le_right _ _
 have hub:eK b<=2001:=Nat.min_le_right _ _
 have hal:ZA.length<=2001:=by rw [HZA.out];exact hua
 have hbl:ZB.length<=2001:=by rw [HZB.out];exact hub
 clear c0 c1 c2 c3 c4 c5 LB B1 B5 B6 B7 Z5 NA1 NB1 hua hub
 by_cases hne:ZA.length=ZB.length
 ·have e0:((ZA.length:Int) != (ZB.length:Int))=false:=by simp;omega
  by_cases hbig:2000<ZA.length
  ·have e1:(2000:Int)<(ZA.length:Int):=by omega
   have HF:=aB (HR.out.symm.trans (zG (.inr (by rw [<- HZA.out];exact hbig))))
   clear hne hbig
   go_wp2
   go_ret
   exact⟨by rw [HF.out];rfl,B8.out⟩
  ·have e1:¬ (2000:Int)<(ZA.length:Int):=by omega
   obtain⟨h1,h2,h3⟩:=aP9 (a:=a) (b:=b) (by rw [<- HZA.out,<- HZB.out];exact hne) (by rw [<- HZA.out];exact hbig)
   have HQ:=aB (HR.out.symm.trans h1)
   have HEA:=aB (show ZA.map (·.1)=pp [] a by rw [HMA.out,j5 (by omega)])
   have HEB:=aB (show ZB.map (·.1)=pp [] b by rw [HMB.out,j5 (by omega)])
   have HNE:=aB hne
   clear h1 h2 h3 hbig HMA HMB HZA HZB
   go_upto_region 6 with fail
   go_loopw [7] (fun i wr=>∃ j:Nat,j<=ZA.length/\i=.int .i64 (j:Int)/\Below w7.heap.size w7 wr/\(sgs (pp [] a)).take j=(sgs (pp [] b)).take j) (fun i _=>ZA.length-(intOf i).toNat)
   case atStart=>exact⟨0,m7 _,rfl,Below.refl _ _,rfl⟩
   case round=>
    obtain⟨j,hj,rfl,hbw,hsg⟩:=hrel
    have HBW:=aB hbw
    have HSG:=aB hsg
    clear hbw hsg
    by_cases hjl:j<ZA.length
    ·have i0:(j:Int)<(ZA.length:Int):=by omega
     have i1:(j:Int)<(ZB.length:Int):=by omega
     obtain⟨x,hx⟩:∃ x,ZA[j]?=some x:=⟨_,b7 hjl⟩
     obtain⟨y,hy⟩:∃ y,ZB[j]?=some y:=⟨_,b7 (by omega)⟩
     obtain⟨ga,ca,hqa⟩:=aN Y7.out (by omega)
     obtain⟨gb,cb,hqb⟩:=aN Z7.out (by omega)
     injection hqa with hqa1 _ hqa2
     injection hqb with hqb1 _ hqb2
     subst hqa1 hqa2 hqb1 hqb2
     have YA:ZR W1.heap.size wr (.slice (some ⟨ga,0,none⟩) ZA.length k5) ZA:=aK Y7.out (Fr.of_below (S:=fun _=>False) HBW.out) (fun _ _ z=>z)
     have YB:ZR w5.heap.size wr (.slice (some ⟨gb,0,none⟩) ZB.length k7) ZB:=aK Z7.out (Fr.of_below (S:=fun _=>False) HBW.out) (fun _ _ z=>z)
     have x0:wr.cell? ⟨ga,j*12,none⟩=some (.int .i64 x.1.2.f.k):=YA.cells hx (j:=0) rfl
     have x1:wr.cell? ⟨ga,j*12+1,none⟩=some (.int .i64 x.1.2.f.n):=YA.cells hx (j:=1) rfl
     have x2:wr.cell? ⟨ga,j*12+2,none⟩=some (.int .i64 x.1.2.f.mn):=YA.cells hx (j:=2) rfl
     have x3:wr.cell? ⟨ga,j*12+3,none⟩=some (.int .i64 x.1.2.f.mx):=YA.cells hx (j:=3) rfl
     have x4:wr.cell? ⟨ga,j*12+4,none⟩=some (.slice x.1.2.f.rq x.1.2.f.rs.length x.1.2.f.rc):=YA.cells hx (j:=4) rfl
     have x5:wr.cell? ⟨ga,j*12+5,none⟩=some (.slice x.1.2.f.kq x.1.2.f.kl x.1.2.f.kc):=YA.cells hx (j:=5) rfl
     have y0:wr.cell? ⟨gb,j*12,none⟩=some (.int .i64 y.1.2.f.k):=YB.cells hy (j:=0) rfl
     have y1:wr.cell? ⟨gb,j*12+1,none⟩=some (.int .i64 y.1.2.f.n):=YB.cells hy (j:=1) rfl
     have y2:wr.cell? ⟨gb,j*12+2,none⟩=some (.int .i64 y.1.2.f.mn):=YB.cells hy (j:=2) rfl
     have y3:wr.cell? ⟨gb,j*12+3,none⟩=some (.int .i64 y.1.2.f.mx):=YB.cells hy (j:=3) rfl
     have y4:wr.cell? ⟨gb,j*12+4,none⟩=some (.slice y.1.2.f.rq y.1.2.f.rs.length y.1.2.f.rc):=YB.cells hy (j:=4) rfl
     have y5:wr.cell? ⟨gb,j*12+5,none⟩=some (.slice y.1.2.f.kq y.1.2.f.kl y.1.2.f.kc):=YB.cells hy (j:=5) rfl
     have hxa:(pp [] a)[j]?=some x.1:=by rw [<- HEA.out,t8,hx];rfl
     have hyb:(pp [] b)[j]?=some y.1:=by rw [<- HEB.out,t8,hy];rfl
     have lga:ga<wr.heap.size:=(aG YA (g:=ga) rfl).2.1
     have lgb:gb<wr.heap.size:=(aG YB (g:=gb) rfl).2.1
     have BW:=aF B8.out HBW.out lz9
     have TX:=(HA.out.at (i5 hxa)).node.ck (CK.of_below BW)
     have TY:=(HB.out.at (i5 hyb)).node.ck (CK.of_below BW)
     have klx:=TX.kl
     have kly:=TY.kl
     have SN:Hid (sig x.1.2=sig y.1.2->(sgs (pp [] a)).take (j+1)=(sgs (pp [] b)).take (j+1)):=fun h=>(by
      rw [o7,o7,HSG.out]
      simp only [sgs,t8,hxa,hyb,Option.map_some]
      rw [h])
     have SD:Hid (sig x.1.2≠sig y.1.2->R=false):=fun h=>(by
      rw [HQ.out]
      cases hs:eA (er a) (er b) with
      | false=>rfl
      | true=>
       exfalso
       have:=(mW a b).1 hs
       have h2:=congrArg (fun l=>l[j]?) this
       simp only [sgs,t8,hxa,hyb,Option.map_some] at h2
       injection h2 with h2
       exact h h2)
     have SG:=aB (show sig x.1.2=sig y.1.2↔x.1.2.f.k=y.1.2.f.k/\x.1.2.f.n=y.1.2.f.n/\x.1.2.f.mn=y.1.2.f.mn/\x.1.2.f.mx=y.1.2.f.mx/\x.1.2.f.rs=y.1.2.f.rs/\x.1.2.f.kl=y.1.2.f.kl by
      unfold sig
      rw [klx,kly]
      simp [Prod.ext_iff])
     obtain⟨⟨wa,ta⟩,oa⟩:=x
     obtain⟨⟨wb,tb⟩,ob⟩:=y
     dsimp only at *
     have TX':=aB TX
     have TY':=aB TY
     clear hx hy hxa hyb YA YB TX TY klx kly BW
     go_upto_region 10 with fail
     have K2:Below wr.heap.size wr ((wr.alloc (.cells #[.int .i64 ta.f.k,.int .i64 ta.f.n,.int .i64 ta.f.mn,.int .i64 ta.f.mx,.slice ta.f.rq ta.f.rs.length ta.f.rc,.slice ta.f.kq ta.f.kl ta.f.kc] 25)).alloc (.cells #[.int .i64 tb.f.k,.int .i64 tb.f.n,.int .i64 tb.f.mn,.int .i64 tb.f.mx,.slice tb.f.rq tb.f.rs.length tb.f.rc,.slice tb.f.kq tb.f.kl tb.f.kc] 25)):=(bz9).alloc (by simp) _
     have N8:Hid (BoxN ((wr.alloc (.cells #[.int .i64 ta.f.k,.int .i64 ta.f.n,.int .i64 ta.f.mn,.int .i64 ta.f.mx,.slice ta.f.rq ta.f.rs.length ta.f.rc,.slice ta.f.kq ta.f.kl ta.f.kc] 25)).alloc (.cells #[.int .i64 tb.f.k,.int .i64 tb.f.n,.int .i64 tb.f.mn,.int .i64 tb.f.mx,.slice tb.f.rq tb.f.rs.length tb.f.rc,.slice tb.f.kq tb.f.kl tb.f.kc] 25)) wr.heap.size ta.f):=(Below.heap_alloc _ _ _ (by simp)).trans (aD wr _)
     have N9:Hid (BoxN ((wr.alloc (.cells #[.int .i64 ta.f.k,.int .i64 ta.f.n,.int .i64 ta.f.mn,.int .i64 ta.f.mx,.slice ta.f.rq ta.f.rs.length ta.f.rc,.slice ta.f.kq ta.f.kl ta.f.kc] 25)).alloc (.cells #[.int .i64 tb.f.k,.int .i64 tb.f.n,.int .i64 tb.f.mn,.int .i64 tb.f.mx,.slice tb.f.rq tb.f.rs.length tb.f.rc,.slice tb.f.kq tb.f.kl tb.f.kc] 25)) (wr.heap.size+1) tb.f):=(by
      have:=aD (wr.alloc (.cells #[.int .i64 ta.f.k,.int .i64 ta.f.n,.int .i64 ta.f.mn,.int .i64 ta.f.mx,.slice ta.f.rq ta.f.rs.length ta.f.rc,.slice ta.f.kq ta.f.kl ta.f.kc] 25)) (.cells #[.int .i64 tb.f.k,.int .i64 tb.f.n,.int .i64 tb.f.mn,.int .i64 tb.f.mx,.slice tb.f.rq tb.f.rs.length tb.f.rc,.slice tb.f.kq tb.f.kl tb.f.kc] 25)
      rwa [m8] at this)
     have AK:=aB (qJ (TX'.out.ck (CK.of_below K2)).r (TY'.out.ck (CK.of_below K2)).r)
     have HK2:=aB K2
     clear K2
     generalize ((wr.alloc (.cells #[.int .i64 ta.f.k,.int .i64 ta.f.n,.int .i64 ta.f.mn,.int .i64 ta.f.mx,.slice ta.f.rq ta.f.rs.length ta.f.rc,.slice ta.f.kq ta.f.kl ta.f.kc] 25)).alloc (.cells #[.int .i64 tb.f.k,.int .i64 tb.f.n,.int .i64 tb.f.mn,.int .i64 tb.f.mx,.slice tb.f.rq tb.f.rs.length tb.f.rc,.slice tb.f.kq tb.f.kl tb.f.kc] 25))=W2 at N8 N9 AK HK2 ⊢
     generalize wr.heap.size+1=b9 at N9 ⊢
     obtain⟨b8,hb8⟩:∃ b8,wr.heap.size=b8:=⟨_,rfl⟩
     rw [hb8] at N8 ⊢
     clear hb8
     have a4:W2.cell? ⟨b8,4,none⟩=some (.slice ta.f.rq ta.f.rs.length ta.f.rc):=N8.out.six.2.2.2.2.1
     have d4:W2.cell? ⟨b9,4,none⟩=some (.slice tb.f.rq tb.f.rs.length tb.f.rc):=N9.out.six.2.2.2.2.1
     obtain⟨rr,hrr⟩:∃ rr,decide (ta.f.rs=tb.f.rs)=rr:=⟨_,rfl⟩
     rw [hrr] at AK
     have HRR:=aB hrr
     clear hrr x0 x1 x2 x3 x4 x5 y0 y1 y2 y3 y4 y5
     go_upto_region 11 with (go_at_call 31;(with_reducible refine(AK.out).mono ?_);rintro e W3 ⟨rfl,h3⟩;have B3:=aB h3;have N8':=aB ((h3.block _ (aC N8.out)).trans N8.out);have N9':=aB ((h3.block _ (aC N9.out)).trans N9.out);clear h3)
     have HB4:=aB (aF HBW.out (aF HK2.out B3.out lz9) (by have:=HBW.out.size;omega))
     obtain⟨x0,x1,x2,x3,x4,x5⟩:=(show BoxN W3 b8 ta.f from N8'.out).six
     obtain⟨y0,y1,y2,y3,y4,y5⟩:=(show BoxN W3 b9 tb.f from N9'.out).six
     simp only [a7] at x1 x2 x3 x4 x5 y1 y2 y3 y4 y5
     clear a4 d4 N8 N9 AK HK2 B3 N8' N9'
     obtain⟨S,hS⟩:∃ S:Bool,(S=true↔sig ta=sig tb):=by
      by_cases h:sig ta=sig tb
      ·exact⟨true,⟨fun _=>h,fun _=>rfl⟩⟩
      ·exact⟨false,⟨fun z=>(by cases z),fun z=>absurd z h⟩⟩
     have HSS:=aB hS
     clear hS
     go_cut [84] (fun u wx=>u=.bool (!S)/\wx=W3)
     case first=>
      by_cases hk:ta.f.k=tb.f.k
      case neg=>
       have ek:(ta.f.k != tb.f.k)=true:=by simpa using hk
       have HF:=aB (show S=false from Bool.eq_false_iff.2 fun z0=>(fun z=>hk ((SG.out.1 z).1)) (HSS.out.1 z0))
       clear hk
       go_wp2
       go_meet
       exact⟨by rw [HF.out];rfl,rfl⟩
      have ek:(ta.f.k != tb.f.k)=false:=by simpa using hk
      have Hk9:=aB hk
      clear hk
      by_cases hn:ta.f.n=tb.f.n
      case neg=>
       have en:(ta.f.n != tb.f.n)=true:=by simpa using hn
       have HF:=aB (show S=false from Bool.eq_false_iff.2 fun z0=>(fun z=>hn ((SG.out.1 z).2.1)) (HSS.out.1 z0))
       clear hn
       go_wp2
       go_meet
       exact⟨by rw [HF.out];rfl,rfl⟩
      have en:(ta.f.n != tb.f.n)=false:=by simpa using hn
      have Hn9:=aB hn
      clear hn
      by_cases hm:ta.f.mn=tb.f.mn
      case neg=>
       have em:(ta.f.mn != tb.f.mn)=true:=by simpa using hm
       have HF:=aB (show S=false from Bool.eq_false_iff.2 fun z0=>(fun z=>hm ((SG.out.1 z).2.2.1)) (HSS.out.1 z0))
       clear hm
       go_wp2
       go_meet
       exact⟨by rw [HF.out];rfl,rfl⟩
      have em:(ta.f.mn != tb.f.mn)=false:=by simpa using hm
      have Hm9:=aB hm
      clear hm
      by_cases hx:ta.f.mx=tb.f.mx
      case neg=>
       have ex:(ta.f.mx != tb.f.mx)=true:=by simpa using hx
       have HF:=aB (show S=false from Bool.eq_false_iff.2 fun z0=>(fun z=>hx ((SG.out.1 z).2.2.2.1)) (HSS.out.1 z0))
       clear hx
       go_wp2
       go_meet
       exact⟨by rw [HF.out];rfl,rfl⟩
      have ex:(ta.f.mx != tb.f.mx)=false:=by simpa using hx
      have Hx9:=aB hx
      clear hx
      cases rr with
      | false=>
       have HF:=aB (show S=false from Bool.eq_false_iff.2 fun z0=>(fun z=>(of_decide_eq_false HRR.out) ((SG.out.1 z).2.2.2.2.1)) (HSS.out.1 z0))
       go_wp2
       go_meet
       exact⟨by rw [HF.out];rfl,rfl⟩
      | true=>
       by_cases hl:ta.f.kl=tb.f.kl
       ·have el:((ta.f.kl:Int) != (tb.f.kl:Int))=false:=by simp;omega
        have HF:=aB (show S=true from HSS.out.2 (SG.out.2 ⟨Hk9.out,Hn9.out,Hm9.out,Hx9.out,of_decide_eq_true HRR.out,hl⟩))
        clear hl
        go_wp2
        go_meet
        exact⟨by rw [HF.out];rfl,rfl⟩
       ·have el:((ta.f.kl:Int) != (tb.f.kl:Int))=true:=by simp;omega
        have HF:=aB (show S=false from Bool.eq_false_iff.2 fun z0=>(fun z=>hl ((SG.out.1 z).2.2.2.2.2)) (HSS.out.1 z0))
        clear hl
        go_wp2
        go_meet
        exact⟨by rw [HF.out];rfl,rfl⟩
     case rest=>
      obtain⟨rfl,hW⟩:=hcut
      subst hW
      cases S with
      | true=>
       have HN:=aB (SN.out (HSS.out.1 rfl))
       go_wp2
       go_roundw
       case rel=>exact⟨j+1,by omega,by go_num,HB4.out,HN.out⟩
       case measure=>simp only [intOf];omega
      | false=>
       have HF:=aB (SD.out fun z=>by have:=HSS.out.2 z;cases this)
       go_wp2
       go_ret
       exact⟨by rw [HF.out];rfl,aF B8.out HB4.out lz9⟩
    ·have i0:¬ (j:Int)<(ZA.length:Int):=by omega
     have HF:=aB (show R=true by
      rw [HQ.out]
      refine(mW a b).2 ?_
      have h:=HSG.out
      have la:(sgs (pp [] a)).length=ZA.length:=by rw [<- HEA.out];simp [sgs]
      have lb:(sgs (pp [] b)).length=ZB.length:=by rw [<- HEB.out];simp [sgs]
      have:=HNE.out
      rwa [j5 (by omega),j5 (by omega)] at h)
     go_wp2
     go_ret
     exact⟨by rw [HF.out];rfl,aF B8.out HBW.out lz9⟩
 ·have e0:((ZA.length:Int) != (ZB.length:Int))=true:=by simp;omega
  have HF:=aB (HR.out.symm.trans (zG (.inl (by rw [<- HZA.out,<- HZB.out];exact hne))))
  clear hne
  go_wp2
  go_ret
  exact⟨by rw [HF.out];rfl,B8.out⟩
section
attribute [local go_sem] Oper.semAt_some
theorem wG{R:Ending->World->Prop}{a:Act}{W:World}{b:Nat}{f:Fl}(h:Six W b 0 f)(ha:a.tmps[2]?.getD undef=.pointer (some ⟨b,0,none⟩))(hd:a.defers=[])(hR:R (.returned (.agg #[.int .i64 f.k,.int .i64 f.n,.int .i64 f.mn,.int .i64 f.mx,.slice f.rq f.rs.length f.rc,.slice f.kq f.kl f.kc])) W):bodyPost Tryz.prog Tryz.f18 R .ret a W:=by
 obtain⟨z0,z1,z2,z3,z4,z5⟩:=h
 simp only [a7] at z1 z2 z3 z4 z5
 refine bodyPost_ret (v:=.agg #[.int .i64 f.k,.int .i64 f.n,.int .i64 f.mn,.int .i64 f.mx,.slice f.rq f.rs.length f.rc,.slice f.kq f.kl f.kc]) ?_ hd hR
 simp [results,Tryz.results18,go_sem,ha,z0,z1,z2,z3,z4,z5]
theorem uJ{w:World}(c:Int)(hc:0<=c/\c<=1000000):Calls Tryz.prog 18 #[.int .i64 c] w (iV w (.mk 2 0 0 0 [(c,c)] [])):=by
 go_enter Tryz.func18,Tryz.ntmps18
 go_wp2
 have B1:Below w.heap.size w ((w.alloc (.cells #[.int .i64 2,.int .i64 0,.int .i64 0,.int .i64 0,.slice (some ⟨w.heap.size+1,0,none⟩) 1 1,.slice none 0 0] 25)).alloc (.cells #[.int .i64 c,.int .i64 c] 53)):=(bz9).alloc (by simp) _
 have N1:BoxN ((w.alloc (.cells #[.int .i64 2,.int .i64 0,.int .i64 0,.int .i64 0,.slice (some ⟨w.heap.size+1,0,none⟩) 1 1,.slice none 0 0] 25)).alloc (.cells #[.int .i64 c,.int .i64 c] 53)) w.heap.size ⟨2,0,0,0,[(c,c)],some ⟨w.heap.size+1,0,none⟩,1,none,0,0⟩:=(Below.heap_alloc _ _ _ (by simp)).trans (aD w _)
 have M1:((w.alloc (.cells #[.int .i64 2,.int .i64 0,.int .i64 0,.int .i64 0,.slice (some ⟨w.heap.size+1,0,none⟩) 1 1,.slice none 0 0] 25)).alloc (.cells #[.int .i64 c,.int .i64 c] 53)).heap[w.heap.size+1]?=some (.cells #[.int .i64 c,.int .i64 c] 53 (0,0)):=(by
  have:=aD (w.alloc (.cells #[.int .i64 2,.int .i64 0,.int .i64 0,.int .i64 0,.slice (some ⟨w.heap.size+1,0,none⟩) 1 1,.slice none 0 0] 25)) (.cells #[.int .i64 c,.int .i64 c] 53)
  rwa [m8] at this)
 refine wG N1.six rfl rfl ?_
 refine⟨.mk ⟨2,0,0,0,[(c,c)],some ⟨w.heap.size+1,0,none⟩,1,none,0,0⟩ [],rfl,(aL _).2 ⟨⟨.inr ⟨w.heap.size+1,0,1,rfl,aC M1,o5 _,by unfold maxLen;decide,fun i r hi=>?_⟩,.inl ⟨none,0,rfl,rfl,fun _=>rfl⟩,fS (by omega),by simp [Tr.f],⟨fun a e _=>(by cases e;exact⟨_,M1⟩),fun a e=>(by cases e)⟩⟩,(aO _).2 fun u hu=>by cases hu⟩,(aL _).2 ⟨⟨fun a e _=>?_,fun a e=>(by cases e)⟩,(aO _).2 fun u hu=>by cases hu⟩,by rw [bQ];rfl,B1⟩
 ·match i,hi with
  | 0,hi=>
   simp [Tr.f] at hi
   subst hi
   exact⟨aA M1 (i:=0) rfl,aA M1 (i:=1) rfl⟩
 ·have e':some (⟨w.heap.size+1,0,none⟩:Addr)=some a:=e
  injection e' with e'
  subst e'
  exact Nat.le_succ _
def RB(W:World)(B:Nat)(X:Er):Prop:=∃ t,BoxN W B t.f/\TA W t/\er t=X
def SJ(W V:World):Prop:=Below W.heap.size W V
theorem SJ.out{W V:World}(h:SJ W V):Below W.heap.size W V:=h
theorem SJ.drew(W:World):SJ W W.drew:=(Below.refl _ _).drew
theorem SJ.alloc{W V:World}(h:SJ W V)(o:Obj):SJ W (V.alloc o):=Below.alloc h h.out.size o
theorem SJ.set{W V:World}(h:SJ W V){b:Nat}(hb:W.heap.size<=b)(i:Nat)(v:Value):SJ W (V.setCell ⟨b,i,none⟩ v):=Below.setCell h hb v
theorem SJ.call{W V V':World}(h:SJ W V)(hb:Below V.heap.size V V'):SJ W V':=aF h.out hb lz9
theorem SJ.size{W V:World}(h:SJ W V):W.heap.size<=V.heap.size:=h.out.size
theorem SJ.six{W V:World}{b:Nat}{f:Fl}(h:SJ W V)(x:BoxN W b f):Six V b 0 f:=BoxN.six ((h.out.block _ (aC x)).trans x)
theorem pT(V:World)(o o':Obj):((V.alloc o).alloc o').heap[V.heap.size]?=some o:=(Below.heap_alloc _ _ _ (by simp)).trans (World.alloc_heap_new V o)
theorem pS(V:World)(o o':Obj):((V.alloc o).alloc o').heap[V.heap.size+1]?=some o':=by
 have:=World.alloc_heap_new (V.alloc o) o'
 rwa [m8] at this
theorem aM3(V:World)(o:Obj):(V.alloc o).drew.heap[V.heap.size]?=some o:=World.alloc_heap_new V o
theorem wV(V:World)(o o':Obj):((V.alloc o).alloc o').drew.heap[V.heap.size]?=some o:=pT V o o'
theorem wU(V:World)(o o':Obj):((V.alloc o).alloc o').drew.heap[V.heap.size+1]?=some o':=pS V o o'
theorem SJ.ad{W V:World}(h:SJ W V.drew)(o:Obj):SJ W (V.alloc o).drew:=SJ.alloc h o
theorem qG(V:World)(o:Obj):Below V.heap.size V (V.alloc o):=bz9
theorem aV8(V:World)(o o':Obj):Below V.heap.size V ((V.alloc o).alloc o'):=(qG V o).alloc (by simp) _
theorem aV7{V:World}{k:Nat}{o:Obj}(h:V.heap[k]?=some o)(o':Obj):(V.alloc o').heap[k]?=some o:=(Below.heap_alloc _ _ _ (aC h)).trans h
theorem aL7{V w6:World}{k:Nat}{o:Obj}(zV:V.heap[k]?=some o)(g:Below V.heap.size V w6):w6.heap[k]?=some o:=(g.block _ (aC zV)).trans zV
theorem xT{V w6:World}{t:Tr}{k:Nat}{o:Obj}(zV:V.heap[k]?=some o)(g:Below V.heap.size V w6)(hf:Foot (fun i=>V.heap.size<=i) t):w6.heap[k]?=some o/\Foot (fun i=>k<i) t:=⟨aL7 zV g,hf.mono (fun _ hk=>j2 (aC zV) hk)⟩
theorem zP{W:World}{b:Nat}(h:W.heap[b]?=some (.cells #[.int .i64 0,.int .i64 0,.int .i64 0,.int .i64 0,.slice none 0 0,.slice none 0 0] 25 (0,0)))(f:Fl):BoxN (bH W b 0 f) b f:=by
 have h0:=aM h 0 (.int .i64 f.k)
 have h1:=aM h0 1 (.int .i64 f.n)
 have h2:=aM h1 2 (.int .i64 f.mn)
 have h3:=aM h2 3 (.int .i64 f.mx)
 have h4:=aM h3 4 (.slice f.rq f.rs.length f.rc)
 have h5:=aM h4 5 (.slice f.kq f.kl f.kc)
 exact h5
theorem aK1{W w6:World}{b:Nat}{t:Tr}{X:Er}(hS:SJ W w6)(hb:W.heap.size<=b)(z:w6.heap[b]?=some (.cells #[.int .i64 0,.int .i64 0,.int .i64 0,.int .i64 0,.slice none 0 0,.slice none 0 0] 25 (0,0))/\Foot (fun i=>b<i) t)(ht:TA w6 t)(hX:er t=X):RB ((((((w6.setCell ⟨b,0,none⟩ (.int .i64 t.f.k)).setCell ⟨b,1,none⟩ (.int .i64 t.f.n)).setCell ⟨b,2,none⟩ (.int .i64 t.f.mn)).setCell ⟨b,3,none⟩ (.int .i64 t.f.mx)).setCell ⟨b,4,none⟩ (.slice t.f.rq t.f.rs.length t.f.rc)).setCell ⟨b,5,none⟩ (.slice t.f.kq t.f.kl t.f.kc)) b X/\Below W.heap.size W ((((((w6.setCell ⟨b,0,none⟩ (.int .i64 t.f.k)).setCell ⟨b,1,none⟩ (.int .i64 t.f.n)).setCell ⟨b,2,none⟩ (.int .i64 t.f.mn)).setCell ⟨b,3,none⟩ (.int .i64 t.f.mx)).setCell ⟨b,4,none⟩ (.slice t.f.rq t.f.rs.length t.f.rc)).setCell ⟨b,5,none⟩ (.slice t.f.kq t.f.kl t.f.kc)):=by
 have h:RB (bH w6 b 0 t.f) b X/\Below W.heap.size W (bH w6 b 0 t.f):=⟨⟨t,zP z.1 t.f,(gL ht z.2 z.1).2.1,hX⟩,aX hS.out (cE w6 b 0 t.f) lz9 (fun k e=>by omega)⟩
 unfold bH at h
 simpa only [a7] using h
theorem aK2{W w6:World}{t:Tr}{X:Er}(hS:SJ W w6)(ht:TA w6 t)(hX:er t=X):RB (w6.alloc (.cells #[.int .i64 t.f.k,.int .i64 t.f.n,.int .i64 t.f.mn,.int .i64 t.f.mx,.slice t.f.rq t.f.rs.length t.f.rc,.slice t.f.kq t.f.kl t.f.kc] 25)) w6.heap.size X/\Below W.heap.size W (w6.alloc (.cells #[.int .i64 t.f.k,.int .i64 t.f.n,.int .i64 t.f.mn,.int .i64 t.f.mx,.slice t.f.rq t.f.rs.length t.f.rc,.slice t.f.kq t.f.kl t.f.kc] 25)):=
 ⟨⟨t,aD _ _,ht.kept (qG _ _),hX⟩,(hS.alloc _).out⟩
structure E13(w:World)(bm:Nat)(l:List (Nat×Tr))(V:World):Prop where
 bel:Below w.heap.size w V
 mode:V.heap[bm]?=some (.cells #[.bool false,.bool false] 27 (0,0))
 at':∀ p∈l,BoxN V p.1 p.2.f/\TB V p.2
theorem E13.kept{w V V':World}{bm:Nat}{l:List (Nat×Tr)}(h:E13 w bm l V)(hb:Below V.heap.size V V'):E13 w bm l V':=
 ⟨aF h.bel hb lz9,(hb.block _ (aC h.mode)).trans h.mode,fun p hp=>⟨(hb.block _ (aC (h.at' p hp).1)).trans (h.at' p hp).1,(h.at' p hp).2.kept hb⟩⟩
theorem E13.add{w V:World}{bm b:Nat}{l:List (Nat×Tr)}{t:Tr}(h:E13 w bm l V)(hb:BoxN V b t.f)(ht:TB V t):E13 w bm ((b,t) :: l) V:=
 ⟨h.bel,h.mode,fun p hp=>by
  rcases n7.1 hp with rfl | hp
  ·exact⟨hb,ht⟩
  ·exact h.at' p hp⟩
theorem E13.put{w V:World}{bm:Nat}{l:List (Nat×Tr)}{t:Tr}(h:E13 w bm l V)(ht:TB V t):E13 w bm ((V.heap.size,t) :: l) (V.alloc (.cells #[.int .i64 t.f.k,.int .i64 t.f.n,.int .i64 t.f.mn,.int .i64 t.f.mx,.slice t.f.rq t.f.rs.length t.f.rc,.slice t.f.kq t.f.kl t.f.kc] 25)):=
 (h.kept (bz9)).add (aD V _) (ht.kept (bz9))
def nH(k mn mx:Int)(g:Nat)(us:List Tr):Tr:=.mk ⟨k,0,mn,mx,[],none,0,some ⟨g,0,none⟩,us.length,us.length⟩ us
theorem iP(k mn mx:Int)(g:Nat)(us:List Tr):er (nH k mn mx g us)=.mk k 0 mn mx [] (us.map er):=by rw [bQ];rfl
theorem E13.row{w V:World}{bm:Nat}{l:List (Nat×Tr)}(h:E13 w bm l V)(us:List Tr)(hu:∀ u∈us,TB V u)(hl:us.length<=1000)(k mn mx:Int):E13 w bm l (V.alloc (.cells (aQ us).toArray 25))/\TB (V.alloc (.cells (aQ us).toArray 25)) (nH k mn mx V.heap.size us):=by
 have K:Below V.heap.size V (V.alloc (.cells (aQ us).toArray 25)):=bz9
 exact⟨h.kept K,yK k 0 mn mx (aD V _) (fun u hu'=>(hu u hu').kept K) hl⟩
theorem pJ{a b:Tr}(h:er a=er b)(hs:a.sz<=2000):rsB a b=true:=by
 have hb:b.sz=a.sz:=by rw [<- eF,<- eF,h]
 unfold rsB
 rw [cL,cL,hb,j8 (by omega),h,(dU _ _).2 rfl]
 rfl
theorem aF3{W:World}{g:Nat}{a b:Int}(h:W.heap[g]?=some (.cells #[.int .i64 a,.int .i64 b] 53 (0,0)))(hf:Fit [(a,b)]):TB W (.mk ⟨2,0,0,0,[(a,b)],some ⟨g,0,none⟩,1,none,0,0⟩ []):=by
 refine(aL _).2 ⟨⟨.inr ⟨g,0,1,rfl,aC h,by simp [Tr.f],by unfold maxLen;omega,fun i r hr=>?_⟩,.inl ⟨none,0,rfl,rfl,fun _=>rfl⟩,hf,by simp [Tr.f]⟩,(aO _).2 fun u hu=>by simp [Tr.ks] at hu⟩
 match i,hr with
 | 0,hr=>
  simp [Tr.f] at hr
  subst hr
  exact⟨aA h rfl,aA h rfl⟩
 | i+1,hr=>simp [Tr.f] at hr
theorem qB(w:World):Calls Tryz.prog 5 #[] w fun e w'=>e=.returned (.bool true)/\Below w.heap.size w w':=by
 have SC:=aB (fun V=>uJ (w:=V) 97 (by omega))
 have SD:=aB (fun V=>uJ (w:=V) 98 (by omega))
 have E0:Hid (E13 w w.heap.size [] (w.alloc (.cells #[.bool false,.bool false] 27))):=aB ⟨bz9,aD w _,fun p hp=>by cases hp⟩
 go_enter Tryz.func5,Tryz.ntmps5
 go_upto_region 2 with fail
 generalize (w.alloc (.cells #[.bool false,.bool false] 27))=V1 at E0 ⊢
 obtain⟨bm,hbm⟩:∃ b,w.heap.size=b:=⟨_,rfl⟩
 rw [show (Value.pointer (some ⟨w.heap.size,0,none⟩))=Value.pointer (some ⟨bm,0,none⟩) by rw [hbm]]
 have E1:Hid (E13 w bm [] V1):=by rw [<- hbm];exact E0
 clear E0 hbm
 go_upto_region 3 with (go_at_call 18;(with_reducible refine(SC.out _).mono ?_);rintro e w2 ⟨ta,rfl,h1,-,h3,h4⟩;have E2:=aB ((E1.out.kept h4).put h1.tb);have HA:=aB (h3.trans (yJ 97).symm);clear h1 h3 h4)
 obtain⟨ba,hba⟩:∃ b,w2.heap.size=b:=⟨_,rfl⟩
 generalize (w2.alloc (.cells #[.int .i64 ta.f.k,.int .i64 ta.f.n,.int .i64 ta.f.mn,.int .i64 ta.f.mx,.slice ta.f.rq ta.f.rs.length ta.f.rc,.slice ta.f.kq ta.f.kl ta.f.kc] 25))=V2 at E2 ⊢
 rw [hba] at E2 ⊢
 clear hba E1 SC
 have A2:=E2.out.at' (ba,ta) (by simp)
 obtain⟨a0,a1,a2,a3,a4,a5⟩:=(show BoxN V2 ba ta.f from A2.1).six
 simp only [a7] at a1 a2 a3 a4 a5
 obtain⟨r31,r32⟩:=E2.out.row [ta] (fun u hu=>by simp at hu;subst hu;exact A2.2) (by simp) 9 0 (-1)
 have E3:Hid (E13 w bm [(V2.heap.size+1,nH 9 0 (-1) V2.heap.size [ta]),(ba,ta)] ((V2.alloc (.cells #[.int .i64 ta.f.k,.int .i64 ta.f.n,.int .i64 ta.f.mn,.int .i64 ta.f.mx,.slice ta.f.rq ta.f.rs.length ta.f.rc,.slice ta.f.kq ta.f.kl ta.f.kc] 25)).alloc (.cells #[.int .i64 9,.int .i64 0,.int .i64 0,.int .i64 (-1),.slice none 0 0,.slice (some ⟨V2.heap.size,0,none⟩) 1 1] 25))):=aB (by
  have:=r31.put r32
  simp only [m8] at this
  exact this)
 have HST:=aB (show er (nH 9 0 (-1) V2.heap.size [ta])=te stP by rw [iP];unfold stP;rw [te,u2,HA.out])
 clear r31 r32 A2
 go_upto_region 4 with fail
 generalize hts:nH 9 0 (-1) V2.heap.size [ta]=ts at E3 HST
 generalize ((V2.alloc (.cells #[.int .i64 ta.f.k,.int .i64 ta.f.n,.int .i64 ta.f.mn,.int .i64 ta.f.mx,.slice ta.f.rq ta.f.rs.length ta.f.rc,.slice ta.f.kq ta.f.kl ta.f.kc] 25)).alloc (.cells #[.int .i64 9,.int .i64 0,.int .i64 0,.int .i64 (-1),.slice none 0 0,.slice (some ⟨V2.heap.size,0,none⟩) 1 1] 25))=V3 at E3 ⊢
 obtain⟨bs,hbs⟩:∃ b,V2.heap.size+1=b:=⟨_,rfl⟩
 rw [hbs] at E3 ⊢
 clear hts hbs E2 a0 a1 a2 a3 a4 a5
 have A4:=E3.out.at' (ba,ta) (by simp)
 obtain⟨a0,a1,a2,a3,a4,a5⟩:=(show BoxN V3 ba ta.f from A4.1).six
 simp only [a7] at a1 a2 a3 a4 a5
 have R4:=aB (E3.out.row [ta] (fun u hu=>by simp at hu;subst hu;exact A4.2) (by simp) 9 1 1)
 have m0:(V3.alloc (.cells #[.int .i64 ta.f.k,.int .i64 ta.f.n,.int .i64 ta.f.mn,.int .i64 ta.f.mx,.slice ta.f.rq ta.f.rs.length ta.f.rc,.slice ta.f.kq ta.f.kl ta.f.kc] 25)).cell? ⟨bm,0,none⟩=some (.bool false):=aA R4.out.1.mode (i:=0) rfl
 have m1:(V3.alloc (.cells #[.int .i64 ta.f.k,.int .i64 ta.f.n,.int .i64 ta.f.mn,.int .i64 ta.f.mx,.slice ta.f.rq ta.f.rs.length ta.f.rc,.slice ta.f.kq ta.f.kl ta.f.kc] 25)).cell? ⟨bm,1,none⟩=some (.bool false):=aA R4.out.1.mode (i:=1) rfl
 have SM4:Hid (Calls Tryz.prog 7 #[.agg #[.int .i64 9,.int .i64 0,.int .i64 1,.int .i64 1,.slice none 0 0,.slice (some ⟨V3.heap.size,0,none⟩) 1 1],.agg #[.bool false,.bool false]] (V3.alloc (.cells #[.int .i64 ta.f.k,.int .i64 ta.f.n,.int .i64 ta.f.mn,.int .i64 ta.f.mx,.slice ta.f.rq ta.f.rs.length ta.f.rc,.slice ta.f.kq ta.f.kl ta.f.kc] 25)) fun e w'=>∃ t':Tr,e=.returned (.tuple #[.agg #[.int .i64 t'.f.k,.int .i64 t'.f.n,.int .i64 t'.f.mn,.int .i64 t'.f.mx,.slice t'.f.rq t'.f.rs.length t'.f.rc,.slice t'.f.kq t'.f.kl t'.f.kc],.int .i64 0])/\TA w' t'/\Foot (fun k=>(V3.alloc (.cells #[.int .i64 ta.f.k,.int .i64 ta.f.n,.int .i64 ta.f.mn,.int .i64 ta.f.mx,.slice ta.f.rq ta.f.rs.length ta.f.rc,.slice ta.f.kq ta.f.kl ta.f.kc] 25)).heap.size<=k) t'/\er t'=te (chP 97)/\Below (V3.alloc (.cells #[.int .i64 ta.f.k,.int .i64 ta.f.n,.int .i64 ta.f.mn,.int .i64 ta.f.mx,.slice ta.f.rq ta.f.rs.length ta.f.rc,.slice ta.f.kq ta.f.kl ta.f.kc] 25)).heap.size (V3.alloc (.cells #[.int .i64 ta.f.k,.int .i64 ta.f.n,.int .i64 ta.f.mn,.int .i64 ta.f.mx,.slice ta.f.rq ta.f.rs.length ta.f.rc,.slice ta.f.kq ta.f.kl ta.f.kc] 25)) w'):=aB (by
  have:=dT (c:=false) (o:=false) R4.out.2 (x:=x1P) (by rw [iP];unfold x1P;rw [te,u2,HA.out]) aU4
  rw [aP0] at this
  exact this)
 clear A4
 go_upto_region 5 with (go_at_call 7;(with_reducible refine SM4.out.mono ?_);rintro e w4 ⟨tx,rfl,h1,-,h3,h4⟩;have E4:=aB ((R4.out.1.kept h4).put h1.tb);have HX:=aB h3;clear h1 h3 h4)
 obtain⟨bx,hbx⟩:∃ b,w4.heap.size=b:=⟨_,rfl⟩
 generalize (w4.alloc (.cells #[.int .i64 tx.f.k,.int .i64 tx.f.n,.int .i64 tx.f.mn,.int .i64 tx.f.mx,.slice tx.f.rq tx.f.rs.length tx.f.rc,.slice tx.f.kq tx.f.kl tx.f.kc] 25))=V4 at E4 ⊢
 rw [hbx] at E4 ⊢
 clear hbx a0 a1 a2 a3 a4 a5 m0 m1 R4 SM4 E3
 have A5:=E4.out.at' (bs,ts) (by simp)
 obtain⟨a0,a1,a2,a3,a4,a5⟩:=(show BoxN V4 bs ts.f from A5.1).six
 simp only [a7] at a1 a2 a3 a4 a5
 have R5:=aB (E4.out.row [ts] (fun u hu=>by simp at hu;subst hu;exact A5.2) (by simp) 9 0 (-1))
 have m0:(V4.alloc (.cells #[.int .i64 ts.f.k,.int .i64 ts.f.n,.int .i64 ts.f.mn,.int .i64 ts.f.mx,.slice ts.f.rq ts.f.rs.length ts.f.rc,.slice ts.f.kq ts.f.kl ts.f.kc] 25)).cell? ⟨bm,0,none⟩=some (.bool false):=aA R5.out.1.mode (i:=0) rfl
 have m1:(V4.alloc (.cells #[.int .i64 ts.f.k,.int .i64 ts.f.n,.int .i64 ts.f.mn,.int .i64 ts.f.mx,.slice ts.f.rq ts.f.rs.length ts.f.rc,.slice ts.f.kq ts.f.kl ts.f.kc] 25)).cell? ⟨bm,1,none⟩=some (.bool false):=aA R5.out.1.mode (i:=1) rfl
 have SM5:Hid (Calls Tryz.prog 7 #[.agg #[.int .i64 9,.int .i64 0,.int .i64 0,.int .i64 (-1),.slice none 0 0,.slice (some ⟨V4.heap.size,0,none⟩) 1 1],.agg #[.bool false,.bool false]] (V4.alloc (.cells #[.int .i64 ts.f.k,.int .i64 ts.f.n,.int .i64 ts.f.mn,.int .i64 ts.f.mx,.slice ts.f.rq ts.f.rs.length ts.f.rc,.slice ts.f.kq ts.f.kl ts.f.kc] 25)) fun e w'=>∃ t':Tr,e=.returned (.tuple #[.agg #[.int .i64 t'.f.k,.int .i64 t'.f.n,.int .i64 t'.f.mn,.int .i64 t'.f.mx,.slice t'.f.rq t'.f.rs.length t'.f.rc,.slice t'.f.kq t'.f.kl t'.f.kc],.int .i64 0])/\TA w' t'/\Foot (fun k=>(V4.alloc (.cells #[.int .i64 ts.f.k,.int .i64 ts.f.n,.int .i64 ts.f.mn,.int .i64 ts.f.mx,.slice ts.f.rq ts.f.rs.length ts.f.rc,.slice ts.f.kq ts.f.kl ts.f.kc] 25)).heap.size<=k) t'/\er t'=te stP/\Below (V4.alloc (.cells #[.int .i64 ts.f.k,.int .i64 ts.f.n,.int .i64 ts.f.mn,.int .i64 ts.f.mx,.slice ts.f.rq ts.f.rs.length ts.f.rc,.slice ts.f.kq ts.f.kl ts.f.kc] 25)).heap.size (V4.alloc (.cells #[.int .i64 ts.f.k,.int .i64 ts.f.n,.int .i64 ts.f.mn,.int .i64 ts.f.mx,.slice ts.f.rq ts.f.rs.length ts.f.rc,.slice ts.f.kq ts.f.kl ts.f.kc] 25)) w'):=aB (by
  have:=dT (c:=false) (o:=false) R5.out.2 (x:=x2P) (by rw [iP];unfold x2P;rw [te,u2,HST.out]) aU3
  rw [aO9] at this
  exact this)
 clear A5
 go_upto_region 6 with (go_at_call 7;(with_reducible refine SM5.out.mono ?_);rintro e w5 ⟨ty,rfl,h1,-,h3,h4⟩;have E5:=aB ((R5.out.1.kept h4).put h1.tb);have HY:=aB h3;clear h1 h3 h4)
 obtain⟨by5,hbx⟩:∃ b,w5.heap.size=b:=⟨_,rfl⟩
 generalize (w5.alloc (.cells #[.int .i64 ty.f.k,.int .i64 ty.f.n,.int .i64 ty.f.mn,.int .i64 ty.f.mx,.slice ty.f.rq ty.f.rs.length ty.f.rc,.slice ty.f.kq ty.f.kl ty.f.kc] 25))=V5 at E5 ⊢
 rw [hbx] at E5 ⊢
 clear hbx a0 a1 a2 a3 a4 a5 m0 m1 R5 SM5 E4
 go_cut [8,9] (fun u v wx=>∃ B,u=.pointer (some ⟨B,0,none⟩)/\v=.int .i64 0/\RB wx B (te (.lf 2 0 [(97,98)]))/\Below V5.heap.size V5 wx)
 case first=>
  have BA:=(E5.out.at' (ba,ta) (by simp)).1
  have TAA:=aB (E5.out.at' (ba,ta) (by simp)).2
  change BoxN V5 ba ta.f at BA
  have ra0:∀ V:World,SJ V5 V->V.cell? ⟨ba,0,none⟩=some (.int .i64 ta.f.k):=fun V h=>(h.six BA).1
  have ra1:∀ V:World,SJ V5 V->V.cell? ⟨ba,1,none⟩=some (.int .i64 ta.f.n):=fun V h=>(h.six BA).2.1
  have ra2:∀ V:World,SJ V5 V->V.cell? ⟨ba,2,none⟩=some (.int .i64 ta.f.mn):=fun V h=>(h.six BA).2.2.1
  have ra3:∀ V:World,SJ V5 V->V.cell? ⟨ba,3,none⟩=some (.int .i64 ta.f.mx):=fun V h=>(h.six BA).2.2.2.1
  have ra4:∀ V:World,SJ V5 V->V.cell? ⟨ba,4,none⟩=some (.slice ta.f.rq ta.f.rs.length ta.f.rc):=fun V h=>(h.six BA).2.2.2.2.1
  have ra5:∀ V:World,SJ V5 V->V.cell? ⟨ba,5,none⟩=some (.slice ta.f.kq ta.f.kl ta.f.kc):=fun V h=>(h.six BA).2.2.2.2.2
  have rm0:∀ V:World,SJ V5 V->V.cell? ⟨bm,0,none⟩=some (.bool false):=fun V h=>aA ((h.out.block _ (aC E5.out.mode)).trans E5.out.mode) (i:=0) rfl
  have rm1:∀ V:World,SJ V5 V->V.cell? ⟨bm,1,none⟩=some (.bool false):=fun V h=>aA ((h.out.block _ (aC E5.out.mode)).trans E5.out.mode) (i:=1) rfl
  have SMQ:Hid (∀ (U:World) (g:Nat) (tb:Tr),SJ V5 U->TB U tb->er tb=te (chP 98)->U.heap[g]?=some (.cells #[.int .i64 ta.f.k,.int .i64 ta.f.n,.int .i64 ta.f.mn,.int .i64 ta.f.mx,.slice ta.f.rq ta.f.rs.length ta.f.rc,.slice ta.f.kq ta.f.kl ta.f.kc,.int .i64 tb.f.k,.int .i64 tb.f.n,.int .i64 tb.f.mn,.int .i64 tb.f.mx,.slice tb.f.rq tb.f.rs.length tb.f.rc,.slice tb.f.kq tb.f.kl tb.f.kc,.int .i64 ta.f.k,.int .i64 ta.f.n,.int .i64 ta.f.mn,.int .i64 ta.f.mx,.slice ta.f.rq ta.f.rs.length ta.f.rc,.slice ta.f.kq ta.f.kl ta.f.kc] 25 (0,0))->Calls Tryz.prog 7 #[.agg #[.int .i64 6,.int .i64 0,.int .i64 0,.int .i64 0,.slice none 0 0,.slice (some ⟨g,0,none⟩) 3 3],.agg #[.bool false,.bool false]] U fun e w'=>∃ t':Tr,e=.returned (.tuple #[.agg #[.int .i64 t'.f.k,.int .i64 t'.f.n,.int .i64 t'.f.mn,.int .i64 t'.f.mx,.slice t'.f.rq t'.f.rs.length t'.f.rc,.slice t'.f.kq t'.f.kl t'.f.kc],.int .i64 0])/\TA w' t'/\er t'=te (.lf 2 0 [(97,98)])/\Foot (fun k=>U.heap.size<=k) t'/\Below U.heap.size U w'):=aB fun U g tb hS hT hE hg=>by
   have ht:TB U (nH 6 0 0 g [ta,tb,ta]):=yK 6 0 0 0 (us:=[ta,tb,ta]) hg (fun u hu=>by
    simp at hu
    rcases hu with rfl | rfl | rfl
    ·exact TAA.out.kept hS.out
    ·exact hT
    ·exact TAA.out.kept hS.out) (by simp)
   have:=dT (c:=false) (o:=false) ht (x:=x3P) (by rw [iP];unfold x3P;rw [te,bJ];simp [HA.out,hE]) aU2
   rw [aO8] at this
   exact this.mono fun e w' ⟨t',h1,h2,h3,h4,h5⟩=>⟨t',h1,h2,h4,h3,h5⟩
  clear BA
  go_region_held (fun V=>SJ V5 V) ((first | with_reducible assumption | with_reducible exact SJ.drew _ | with_reducible exact SJ.alloc (by assumption) _ | with_reducible exact SJ.ad (by assumption) _ | with_reducible exact(((((S6.set (by omega) _ _).set (by omega) _ _).set (by omega) _ _).set (by omega) _ _).set (by omega) _ _).set (by omega) _ _)) (first |(go_at_call 7;(have q5:=T5.out);clear q5;refine(SMQ.out _ _ t5 (by with_reducible assumption) (by(first | exact T5.out.tb.kept (qG _ _) | exact T5.out.tb.kept (aV8 _ _ _))) X5.out (by(with_reducible first | exact aD _ _ | exact aM3 _ _ | exact pT _ _ _ | exact pS _ _ _ | exact wV _ _ _ | exact wU _ _ _))).mono ?_;rintro e w6 ⟨t6,rfl,g1,g2,g3,g4⟩;have T6:=aB g1;have X6:=aB g2;have S6:SJ V5 w6:=SJ.call (by with_reducible assumption) g4;first |(have Z6:w6.heap[V5.heap.size]?=some (.cells #[.int .i64 0,.int .i64 0,.int .i64 0,.int .i64 0,.slice none 0 0,.slice none 0 0] 25 (0,0))/\Foot (fun i=>V5.heap.size<i) t6:=xT (aV7 Z5 _) g4 g3;have zf:=fun z=>aJ Z6.1 z;have z0:=aA Z6.1 (i:=0) rfl;have z1:=aA Z6.1 (i:=1) rfl;have z2:=aA Z6.1 (i:=2) rfl;have z3:=aA Z6.1 (i:=3) rfl;have z4:=aA Z6.1 (i:=4) rfl;have z5:=aA Z6.1 (i:=5) rfl) |(have Z6:w6.heap[w5.heap.size]?=some (.cells #[.int .i64 0,.int .i64 0,.int .i64 0,.int .i64 0,.slice none 0 0,.slice none 0 0] 25 (0,0))/\Foot (fun i=>w5.heap.size<i) t6:=xT (pT _ _ _) g4 g3;have zf:=fun z=>aJ Z6.1 z;have z0:=aA Z6.1 (i:=0) rfl;have z1:=aA Z6.1 (i:=1) rfl;have z2:=aA Z6.1 (i:=2) rfl;have z3:=aA Z6.1 (i:=3) rfl;have z4:=aA Z6.1 (i:=4) rfl;have z5:=aA Z6.1 (i:=5) rfl) |(have Z6:w6.heap[w5.heap.size+1]?=some (.cells #[.int .i64 0,.int .i64 0,.int .i64 0,.int .i64 0,.slice none 0 0,.slice none 0 0] 25 (0,0))/\Foot (fun i=>w5.heap.size+1<i) t6:=xT (pS _ _ _) g4 g3;have zf:=fun z=>aJ Z6.1 z;have z0:=aA Z6.1 (i:=0) rfl;have z1:=aA Z6.1 (i:=1) rfl;have z2:=aA Z6.1 (i:=2) rfl;have z3:=aA Z6.1 (i:=3) rfl;have z4:=aA Z6.1 (i:=4) rfl;have z5:=aA Z6.1 (i:=5) rfl) | skip;clear g1 g2 g3 g4) |(go_at_call 18;refine(SD.out _).mono ?_;rintro e w5 ⟨t5,rfl,g1,g2,g3,g4⟩;have T5:=aB g1;have X5:=aB (g3.trans (yJ 98).symm);have S5:SJ V5 w5:=SJ.call (by with_reducible assumption) g4;have l5:=S5.size;first |(have Z5:w5.heap[V5.heap.size]?=some (.cells #[.int .i64 0,.int .i64 0,.int .i64 0,.int .i64 0,.slice none 0 0,.slice none 0 0] 25 (0,0)):=(by with_reducible exact aL7 (aM3 _ _) g4)) | skip;clear g1 g2 g3 g4))
  all_goals go_wp2_with fail
  all_goals go_meet
  all_goals first |(with_reducible exact⟨_,rfl,rfl,aK1 S6 (by omega) Z6 T6.out X6.out⟩) |(with_reducible exact⟨_,rfl,rfl,aK2 S6 T6.out X6.out⟩)
 case rest=>
 obtain⟨b8,rfl,rfl,⟨tz,hz1,hz2,hz3⟩,hbl⟩:=hcut
 have E6:=aB ((E5.out.kept hbl).add hz1 hz2.tb)
 have HZ:=aB hz3
 clear E5 hz1 hz2 hz3 hbl
 have A7:=E6.out.at' (ba,ta) (by simp)
 obtain⟨a0,a1,a2,a3,a4,a5⟩:=(show BoxN wc ba ta.f from A7.1).six
 simp only [a7] at a1 a2 a3 a4 a5
 have R7:=aB (E6.out.row [ta] (fun u hu=>by simp at hu;subst hu;exact A7.2) (by simp) 5 0 0)
 have m0:(wc.alloc (.cells #[.int .i64 ta.f.k,.int .i64 ta.f.n,.int .i64 ta.f.mn,.int .i64 ta.f.mx,.slice ta.f.rq ta.f.rs.length ta.f.rc,.slice ta.f.kq ta.f.kl ta.f.kc] 25)).cell? ⟨bm,0,none⟩=some (.bool false):=aA R7.out.1.mode (i:=0) rfl
 have m1:(wc.alloc (.cells #[.int .i64 ta.f.k,.int .i64 ta.f.n,.int .i64 ta.f.mn,.int .i64 ta.f.mx,.slice ta.f.rq ta.f.rs.length ta.f.rc,.slice ta.f.kq ta.f.kl ta.f.kc] 25)).cell? ⟨bm,1,none⟩=some (.bool false):=aA R7.out.1.mode (i:=1) rfl
 have SM7:Hid (Calls Tryz.prog 7 #[.agg #[.int .i64 5,.int .i64 0,.int .i64 0,.int .i64 0,.slice none 0 0,.slice (some ⟨wc.heap.size,0,none⟩) 1 1],.agg #[.bool false,.bool false]] (wc.alloc (.cells #[.int .i64 ta.f.k,.int .i64 ta.f.n,.int .i64 ta.f.mn,.int .i64 ta.f.mx,.slice ta.f.rq ta.f.rs.length ta.f.rc,.slice ta.f.kq ta.f.kl ta.f.kc] 25)) fun e w'=>e=.returned (.tuple #[.agg #[.int .i64 0,.int .i64 0,.int .i64 0,.int .i64 0,.slice none 0 0,.slice none 0 0],.int .i64 50])/\Below (wc.alloc (.cells #[.int .i64 ta.f.k,.int .i64 ta.f.n,.int .i64 ta.f.mn,.int .i64 ta.f.mx,.slice ta.f.rq ta.f.rs.length ta.f.rc,.slice ta.f.kq ta.f.kl ta.f.kc] 25)).heap.size (wc.alloc (.cells #[.int .i64 ta.f.k,.int .i64 ta.f.n,.int .i64 ta.f.mn,.int .i64 ta.f.mx,.slice ta.f.rq ta.f.rs.length ta.f.rc,.slice ta.f.kq ta.f.kl ta.f.kc] 25)) w'):=aB (by
  have hr:aV false false 0 0 (pp [] (nH 5 0 0 wc.heap.size [ta]))=50:=aK9 (by rw [iP,u2,HA.out,yJ])
  have:=pE false false R7.out.2 (by rw [hr];decide)
  rw [hr] at this
  exact this)
 clear A7
 go_upto_region 8 with (go_at_call 7;(with_reducible refine SM7.out.mono ?_);rintro e w7 ⟨rfl,h4⟩;have E7:=aB ((R7.out.1.kept h4).kept (qG _ (.cells #[.int .i64 0,.int .i64 0,.int .i64 0,.int .i64 0,.slice none 0 0,.slice none 0 0] 25)));clear h4)
 generalize (w7.alloc (.cells #[.int .i64 0,.int .i64 0,.int .i64 0,.int .i64 0,.slice none 0 0,.slice none 0 0] 25))=V7 at E7 ⊢
 clear a0 a1 a2 a3 a4 a5 m0 m1 R7 SM7 E6
 have A8:=E7.out.at' (bx,tx) (by simp)
 have C8:=E7.out.at' (ba,ta) (by simp)
 obtain⟨a0,a1,a2,a3,a4,a5⟩:=(show BoxN V7 bx tx.f from A8.1).six
 obtain⟨d0,d1,d2,d3,d4,d5⟩:=(show BoxN V7 ba ta.f from C8.1).six
 simp only [a7] at a1 a2 a3 a4 a5 d1 d2 d3 d4 d5
 have RS8:Hid (Calls Tryz.prog 16 #[.agg #[.int .i64 tx.f.k,.int .i64 tx.f.n,.int .i64 tx.f.mn,.int .i64 tx.f.mx,.slice tx.f.rq tx.f.rs.length tx.f.rc,.slice tx.f.kq tx.f.kl tx.f.kc],.agg #[.int .i64 ta.f.k,.int .i64 ta.f.n,.int .i64 ta.f.mn,.int .i64 ta.f.mx,.slice ta.f.rq ta.f.rs.length ta.f.rc,.slice ta.f.kq ta.f.kl ta.f.kc]] V7 fun e w'=>e=.returned (.bool true)/\Below V7.heap.size V7 w'):=aB ((lN A8.2 C8.2).mono fun e w' ⟨h1,h2⟩=>⟨by rw [h1];show Ending.returned (.bool (rsB tx ta))=_;rw [pJ (HX.out.trans HA.out.symm) (by rw [<- eF,HX.out,eT];simp [chP,Ps.sz])],h2⟩)
 clear A8 C8
 go_upto_region 9 with (go_at_call 16;(with_reducible refine RS8.out.mono ?_);rintro e w8 ⟨rfl,h1⟩;have E8:=aB (E7.out.kept h1);clear h1)
 clear a0 a1 a2 a3 a4 a5 d0 d1 d2 d3 d4 d5 RS8 E7
 have A9:=E8.out.at' (by5,ty) (by simp)
 have C9:=E8.out.at' (bs,ts) (by simp)
 obtain⟨a0,a1,a2,a3,a4,a5⟩:=(show BoxN w8 by5 ty.f from A9.1).six
 obtain⟨d0,d1,d2,d3,d4,d5⟩:=(show BoxN w8 bs ts.f from C9.1).six
 simp only [a7] at a1 a2 a3 a4 a5 d1 d2 d3 d4 d5
 have RS9:Hid (Calls Tryz.prog 16 #[.agg #[.int .i64 ty.f.k,.int .i64 ty.f.n,.int .i64 ty.f.mn,.int .i64 ty.f.mx,.slice ty.f.rq ty.f.rs.length ty.f.rc,.slice ty.f.kq ty.f.kl ty.f.kc],.agg #[.int .i64 ts.f.k,.int .i64 ts.f.n,.int .i64 ts.f.mn,.int .i64 ts.f.mx,.slice ts.f.rq ts.f.rs.length ts.f.rc,.slice ts.f.kq ts.f.kl ts.f.kc]] w8 fun e w'=>e=.returned (.bool true)/\Below w8.heap.size w8 w'):=aB ((lN A9.2 C9.2).mono fun e w' ⟨h1,h2⟩=>⟨by rw [h1];show Ending.returned (.bool (rsB ty ts))=_;rw [pJ (HY.out.trans HST.out.symm) (by rw [<- eF,HY.out,eT];simp [stP,chP,Ps.sz])],h2⟩)
 clear A9 C9
 go_upto_region 10 with (go_at_call 16;(with_reducible refine RS9.out.mono ?_);rintro e w9 ⟨rfl,h1⟩;have E9:=aB (E8.out.kept h1);clear h1)
 clear a0 a1 a2 a3 a4 a5 d0 d1 d2 d3 d4 d5 RS9 E8
 have A10:=E9.out.at' (b8,tz) (by simp)
 obtain⟨a0,a1,a2,a3,a4,a5⟩:=(show BoxN w9 b8 tz.f from A10.1).six
 simp only [a7] at a1 a2 a3 a4 a5
 have KR10:Below w9.heap.size w9 (w9.alloc (.cells #[.int .i64 97,.int .i64 98] 53)):=qG _ _
 have RS10:Hid (Calls Tryz.prog 16 #[.agg #[.int .i64 tz.f.k,.int .i64 tz.f.n,.int .i64 tz.f.mn,.int .i64 tz.f.mx,.slice tz.f.rq tz.f.rs.length tz.f.rc,.slice tz.f.kq tz.f.kl tz.f.kc],.agg #[.int .i64 2,.int .i64 0,.int .i64 0,.int .i64 0,.slice (some ⟨w9.heap.size,0,none⟩) 1 1,.slice none 0 0]] (w9.alloc (.cells #[.int .i64 97,.int .i64 98] 53)) fun e w'=>e=.returned (.bool true)/\Below (w9.alloc (.cells #[.int .i64 97,.int .i64 98] 53)).heap.size (w9.alloc (.cells #[.int .i64 97,.int .i64 98] 53)) w'):=aB ((lN (A10.2.kept KR10) (aF3 (aD w9 _) (fS (by omega)))).mono fun e w' ⟨h1,h2⟩=>⟨by
  rw [h1]
  show Ending.returned (.bool (rsB tz _))=_
  rw [pJ (by rw [HZ.out,te,bQ];rfl) (by rw [<- eF,HZ.out,eT];simp [Ps.sz])],h2⟩)
 have EB:=aB (aF E9.out.bel KR10 lz9)
 clear A10 KR10
 go_wp2_with (go_at_call 16;(with_reducible refine RS10.out.mono ?_);rintro e w10 ⟨rfl,h1⟩;have B10:=aB (aF EB.out h1 lz9);clear h1)
 go_ret
 exact⟨rfl,B10.out⟩
end
section
abbrev tZ(T:Type):=Fl->List Tr->List T->(Int->T)->T
def aV5{T:Type}(g:Int->T)(k:Int)(x:T):Int->T:=fun i=>if i=k then x else g i
mutual
def ev{T:Type}(ρ:tZ T):(Int->T)->Tr->T×(Int->T)
 | g,.mk f ks=>(ρ f ks (evs ρ g ks).1 (evs ρ g ks).2,if f.k=7 then aV5 (evs ρ g ks).2 f.n (ρ f ks (evs ρ g ks).1 (evs ρ g ks).2) else (evs ρ g ks).2)
def evs{T:Type}(ρ:tZ T):(Int->T)->List Tr->List T×(Int->T)
 | g,[]=>([],g)
 | g,t :: ts=>((ev ρ g t).1 :: (evs ρ (ev ρ g t).2 ts).1,(evs ρ (ev ρ g t).2 ts).2)
end
mutual
def evG{T:Type}(ρ:tZ T)(G:Int->T):Tr->T
 | .mk f ks=>ρ f ks (xJ ρ G ks) G
def xJ{T:Type}(ρ:tZ T)(G:Int->T):List Tr->List T
 | []=>[]
 | t :: ts=>evG ρ G t :: xJ ρ G ts
end
variable {T:Type} {ρ:tZ T}
theorem aS6(g:Int->T)(t:Tr):(ev ρ g t).1=ρ t.f t.ks (evs ρ g t.ks).1 (evs ρ g t.ks).2:=by cases t;rw [ev];rfl
theorem aJ9(g:Int->T):evs ρ g []=([],g):=by rw [evs]
theorem aC4(g:Int->T)(t:Tr)(ts:List Tr):evs ρ g (t :: ts)=((ev ρ g t).1 :: (evs ρ (ev ρ g t).2 ts).1,(evs ρ (ev ρ g t).2 ts).2):=by rw [evs]
theorem aS7(G:Int->T)(t:Tr):evG ρ G t=ρ t.f t.ks (xJ ρ G t.ks) G:=by cases t;rw [evG];rfl
theorem aC6(G:Int->T)(ks:List Tr):xJ ρ G ks=ks.map (evG ρ G):=by
 induction ks with
 | nil=>rw [xJ];rfl
 | cons t a ih=>rw [xJ,ih];rfl
theorem uG(ks:List Tr):ks.length<=szs ks:=by
 induction ks with
 | nil=>simp
 | cons x a ih=>rw [bK,i9];have:=dM x;omega
end
theorem seg(t:Tr):∀ (p:Way) (j:Nat) (x:El),(pp p t)[j]?=some x->∃ rest,(pp p t).drop j=pp x.1 x.2++rest:=by
 refine Tr.ind (P:=fun t=>∀ (p:Way) (j:Nat) (x:El),(pp p t)[j]?=some x->∃ rest,(pp p t).drop j=pp x.1 x.2++rest) (fun t ih p j x h=>?_) t
 cases j with
 | zero=>
  rw [cD] at h
  simp at h
  subst h
  exact⟨[],by simp⟩
 | succ j=>
  rw [cD] at h ⊢
  rw [s7] at h
  rw [List.drop_succ_cons]
  have key:∀ (ks:List Tr) (i j:Nat),(∀ u∈ks,u∈t.ks)->(pps t p i ks)[j]?=some x->∃ rest,(pps t p i ks).drop j=pp x.1 x.2++rest:=by
   intro ks
   induction ks with
   | nil=>intro i j _ h;rw [aY] at h;simp at h
   | cons u ks ihk=>
    intro i j hm h
    rw [aZ] at h ⊢
    by_cases hj:j<(pp ((t,i) :: p) u).length
    ·rw [r6 hj] at h
     obtain⟨rest,hr⟩:=ih u (hm u g7) _ _ _ h
     refine⟨rest++pps t p (i+1) ks,?_⟩
     rw [List.drop_append_of_le_length (by omega),hr,j7]
    ·rw [o0 (by omega)] at h
     obtain⟨rest,hr⟩:=ihk (i+1) _ (fun v hv=>hm v (b6 _ hv)) h
     refine⟨rest,?_⟩
     rw [List.drop_append,List.drop_eq_nil_of_le (by omega),n9,hr]
  exact key t.ks 0 j (fun _ h=>h) h
theorem aG5{t:Tr}{p:Way}{j:Nat}{x:El}(h:(pp p t)[j]?=some x):j+x.2.sz<=t.sz:=by
 obtain⟨rest,hr⟩:=seg t p j x h
 have:=congrArg List.length hr
 rw [List.length_drop,j3,cL,cL] at this
 have hj:=(i7.1 h).1
 rw [cL] at hj
 omega
theorem anc(t:Tr):∀ (p:Way) (i:Nat) (x:El) (par:Tr) (k:Nat) (r:Way),(pp p t)[i]?=some x->x.1=(par,k) :: r->i=0\/∃ j,j<i/\(pp p t)[j]?=some (r,par)/\i<j+par.sz:=by
 refine Tr.ind (P:=fun t=>∀ (p:Way) (i:Nat) (x:El) (par:Tr) (k:Nat) (r:Way),(pp p t)[i]?=some x->x.1=(par,k) :: r->i=0\/∃ j,j<i/\(pp p t)[j]?=some (r,par)/\i<j+par.sz) (fun t ih p i x par k r h hx=>?_) t
 cases i with
 | zero=>exact .inl rfl
 | succ i=>
  refine .inr ?_
  have hil:=(i7.1 h).1
  rw [cL] at hil
  rw [cD] at h ⊢
  rw [s7] at h
  have key:∀ (ks:List Tr) (m i:Nat),(∀ u∈ks,u∈t.ks)->(pps t p m ks)[i]?=some x->(par=t/\r=p)\/∃ j,j<i/\(pps t p m ks)[j]?=some (r,par)/\i<j+par.sz:=by
   intro ks
   induction ks with
   | nil=>intro m i _ h;rw [aY] at h;simp at h
   | cons u ks ihk=>
    intro m i hm h
    rw [aZ] at h ⊢
    by_cases hi:i<(pp ((t,m) :: p) u).length
    ·rw [r6 hi] at h
     rcases ih u (hm u g7) _ _ _ _ _ _ h hx with rfl | ⟨j,h1,h2,h3⟩
     ·rw [cD] at h
      simp at h
      subst h
      injection hx with e1 e2
      injection e1 with e1 _
      exact .inl ⟨e1.symm,e2.symm⟩
     ·exact .inr ⟨j,h1,by rw [r6 (by omega)];exact h2,h3⟩
    ·rw [o0 (by omega)] at h
     rcases ihk (m+1) _ (fun v hv=>hm v (b6 _ hv)) h with e | ⟨j,h1,h2,h3⟩
     ·exact .inl e
     ·exact .inr ⟨j+(pp ((t,m) :: p) u).length,by omega,by rw [o0 (by omega),Nat.add_sub_cancel];exact h2,by omega⟩
  rcases key t.ks 0 i (fun _ h=>h) h with⟨rfl,rfl⟩ | ⟨j,h1,h2,h3⟩
  ·exact⟨0,by omega,rfl,by omega⟩
  ·exact⟨j+1,by omega,by rw [s7];exact h2,by omega⟩
theorem aL3{t:Tr}:∀ (s:Way) (i:Nat) (x:El) (par:Tr) (k:Nat) (r:Way),(pp [] t)[i]?=some x->x.1=s++(par,k) :: r->∃ j,j<i/\(pp [] t)[j]?=some (r,par)/\i<j+par.sz
 | [],i,x,par,k,r,h,hx=>by
  rcases anc t [] i x par k r h hx with rfl | q
  ·rw [cD] at h
   simp at h
   subst h
   cases hx
  ·exact q
 |(a,b) :: s,i,x,par,k,r,h,hx=>by
  have h0:i≠0:=fun e=>by
   subst e
   rw [cD] at h
   simp at h
   subst h
   cases hx
  rcases anc t [] i x a b (s++(par,k) :: r) h hx with rfl | ⟨j1,h1,h2,h3⟩
  ·exact absurd rfl h0
  ·obtain⟨j,h4,h5,h6⟩:=aL3 s j1 _ par k r h2 rfl
   refine⟨j,by omega,h5,?_⟩
   obtain⟨rest,hr⟩:=seg t [] j _ h5
   have h7:(pp r par)[j1-j]?=some (s++(par,k) :: r,a):=by
    have e:((pp [] t).drop j)[j1-j]?=some (s++(par,k) :: r,a):=by rw [List.getElem?_drop,show j+(j1-j)=j1 by omega];exact h2
    rw [hr,r6 (by rw [cL];show j1-j<par.sz;omega)] at e
    exact e
   have:=aG5 h7
   simp only at this
   omega
theorem aN5{t:Tr}{i j:Nat}{x y:El}(hx:(pp [] t)[i]?=some x)(hy:(pp [] t)[j]?=some y)(h1:j<i)(h2:i<j+y.2.sz):∃ s k,x.1=s++(y.2,k) :: y.1:=by
 obtain⟨rest,hr⟩:=seg t [] j y hy
 have e:((pp [] t).drop j)[i-j]?=some x:=by rw [List.getElem?_drop,show j+(i-j)=i by omega];exact hx
 rw [hr,r6 (by rw [cL];omega),cD,show i-j=(i-j-1)+1 by omega,s7] at e
 have hm:=i5 e
 have:∀ (ks:List Tr) (m:Nat),x∈pps y.2 y.1 m ks->∃ s k,x.1=s++(y.2,k) :: y.1:=by
  intro ks
  induction ks with
  | nil=>intro m h;rw [aY] at h;cases h
  | cons u ks ih=>
   intro m h
   rw [aZ] at h
   rcases j6.1 h with h | h
   ·have hw:=aQ5 ((y.2,m) :: y.1) u []
    rw [n9] at hw
    rw [hw] at h
    obtain⟨z,-,rfl⟩:=m9.1 h
    exact⟨z.1,m,rfl⟩
   ·exact ih (m+1) h
 exact this _ _ hm
def fC:Nat->List El->List Nat
 | _,[]=>[]
 | k,x :: r=>if x.2.f.k=7 then k :: fC (k+1) r else fC (k+1) r
theorem iQ:∀ (k:Nat) (a b:List El),fC k (a++b)=fC k a++fC (k+a.length) b
 | k,[],b=>by simp [fC]
 | k,x :: a,b=>by
  rw [l7,fC,fC,iQ (k+1) a b,i9,show k+1+a.length=k+(a.length+1) by omega]
  split <;> rfl
theorem kY:∀ (k:Nat) (a:List El),(fC k a).length=aI a
 | k,[]=>rfl
 | k,x :: a=>by
  rw [fC]
  simp only [aI]
  split
  ·rw [i9,kY (k+1) a];omega
  ·rw [kY (k+1) a];omega
theorem oP(a:List El)(x:El):fC 0 (a++[x])=fC 0 a++(if x.2.f.k=7 then [a.length] else []):=by
 rw [iQ,a7]
 congr 1
theorem aJ6{a:List El}{j:Nat}{y:El}(h:a[j]?=some y)(hk:y.2.f.k=7):(fC 0 a)[aI (a.take j)]?=some j:=by
 have hj:=(i7.1 h).1
 have e:a=a.take j++y :: a.drop (j+1):=by
  have:=u9 j a
  rw [u8 hj,(i7.1 h).2] at this
  exact this.symm
 have hl:(a.take j).length=j:=by rw [o9];omega
 conv=>lhs;arg 1;rw [e]
 rw [iQ,<- kY 0 (a.take j),o0 lz9,u1,fC,if_pos hk,hl,a7]
 rfl
theorem nL:∀ (a:List El) (k m j:Nat),(fC k a)[m]?=some j->k<=j/\∃ y,a[j-k]?=some y/\y.2.f.k=7/\aI (a.take (j-k))=m
 | [],k,m,j,h=>by simp [fC] at h
 | x :: a,k,m,j,h=>by
  rw [fC] at h
  by_cases hk:x.2.f.k=7
  ·rw [if_pos hk] at h
   cases m with
   | zero=>
    simp at h
    subst h
    refine⟨o5 _,x,?_,hk,?_⟩
    ·rw [u1];rfl
    ·rw [u1];rfl
   | succ m=>
    rw [s7] at h
    obtain⟨h1,y,h2,h3,h4⟩:=nL a (k+1) m j h
    refine⟨by omega,y,?_,h3,?_⟩
    ·rw [show j-k=(j-(k+1))+1 by omega,s7];exact h2
    ·rw [show j-k=(j-(k+1))+1 by omega,aAD,aI,if_pos hk,h4];omega
  ·rw [if_neg hk] at h
   obtain⟨h1,y,h2,h3,h4⟩:=nL a (k+1) m j h
   refine⟨by omega,y,?_,h3,?_⟩
   ·rw [show j-k=(j-(k+1))+1 by omega,s7];exact h2
   ·rw [show j-k=(j-(k+1))+1 by omega,aAD,aI,if_neg hk,h4];omega
theorem aV0{t:Tr}{pre:List El}{x:El}{N:Nat}{j:Nat}(hp:pre++[x] <+: pp [] t)(hnum:∀ (j:Nat) (y:El),pre[j]?=some y->y.2.f.k=7->y.2.f.n=(aI (pre.take j):Int)+1)(hi:pre.length<2000)(hj:(fC 0 pre)[N]?=some j) :
  ∃ y,pre[j]?=some y/\(eZ x.1 ((N:Int)+1)=false↔min (j+y.2.sz) 2001<=pre.length):=by
 obtain⟨r,hr⟩:=hp
 obtain⟨-,y,h2,h3,h4⟩:=nL pre 0 N j hj
 rw [Nat.sub_zero] at h2 h4
 have hjl:=(i7.1 h2).1
 have hx:(pp [] t)[pre.length]?=some x:=by rw [<- hr,j7,o0 lz9,u1];rfl
 have hin:∀ (k:Nat) (z:El),k<pre.length->(pp [] t)[k]?=some z->pre[k]?=some z:=fun k z hk hz=>by
  rw [<- hr,j7,r6 hk] at hz
  exact hz
 have hy:(pp [] t)[j]?=some y:=by rw [<- hr,j7,r6 hjl];exact h2
 refine⟨y,h2,?_⟩
 have hny:=hnum j y h2 h3
 rw [h4] at hny
 constructor
 ·intro he
  rcases Nat.lt_or_ge pre.length (min (j+y.2.sz) 2001) with q | q
  ·exfalso
   obtain⟨s,k,e⟩:=aN5 hx hy hjl (by omega)
   have:eZ x.1 ((N:Int)+1)=true:=by
    unfold eZ
    rw [e,List.any_append,aAI]
    simp [h3,hny]
   rw [he] at this
   cases this
  ·exact q
 ·intro hm
  cases he:eZ x.1 ((N:Int)+1) with
  | false=>rfl
  | true=>
   exfalso
   unfold eZ at he
   rw [s8] at he
   obtain⟨⟨par,k⟩,hmem,hh⟩:=he
   simp at hh
   obtain⟨s,r',e⟩:=List.append_of_mem hmem
   obtain⟨j',a1,a2,a3⟩:=aL3 s pre.length x par k r' hx e
   have b1:=hin j' _ a1 a2
   have b2:=hnum j' _ b1 hh.1
   have b3:aI (pre.take j')=N:=by
    have:(N:Int)+1=(aI (pre.take j'):Int)+1:=by rw [<- b2];exact hh.2.symm
    omega
   have b4:=aJ6 b1 hh.1
   rw [b3,hj] at b4
   injection b4 with b4
   subst b4
   rw [h2] at b1
   injection b1 with b1
   subst b1
   simp only at hm
   omega
theorem gZ{c f:Bool}{p:Way}{t:Tr}{ah gr:Nat}(h:bN c f p t ah gr=0):bL p t.f.k=true/\aP c f ((gr:Int)+1) t.f/\dL t.f.k t.ks.length=true:=by
 unfold bN at h
 split at h
 ·cases h
 ·split at h
  ·cases h
  ·split at h
   ·cases h
   ·rename_i n3
    exact Classical.not_not.1 n3
def iW(p:Way)(k:Int):Bool:=
 if arP p=5 then (if k=3 then brP p&&fiP p else if k=4 then brP p&&laP p else bA k)
 else if arP p=9 then bA k else if arP p=6 then k != 6 else true
def eM(c f:Bool)(t:Tr):Prop:=
 if t.f.k=1\/t.f.k=3\/t.f.k=4 then t.f.n=0/\t.f.mn=0/\t.f.mx=0/\t.f.rs.length=0/\t.ks.length=0
 else if t.f.k=2 then jR c f t.f.rs/\t.f.n=0/\t.f.mn=0/\t.f.mx=0/\t.ks.length=0
 else if t.f.k=5\/t.f.k=6 then 1<t.ks.length/\t.f.n=0/\t.f.mn=0/\t.f.mx=0/\t.f.rs.length=0
 else if t.f.k=7 then t.ks.length=1/\t.f.mn=0/\t.f.mx=0/\t.f.rs.length=0
 else if t.f.k=8 then (1<=t.f.n/\t.f.n<=9)/\t.f.mn=0/\t.f.mx=0/\t.f.rs.length=0/\t.ks.length=0
 else if t.f.k=9 then eW t.f.mn t.f.mx=true/\t.ks.length=1/\t.f.n=0/\t.f.rs.length=0
 else False
theorem gA{c f:Bool}{t:Tr}{g:Int}:(cG t.f.k=true/\aP c f g t.f/\dL t.f.k t.ks.length=true)↔(eM c f t/\(t.f.k=7->t.f.n=g)):=by
 obtain⟨F,ks⟩:=t
 obtain⟨k,n,mn,mx,rs,rq,rc,kq,kl,kc⟩:=F
 simp only [Tr.f,Tr.ks]
 unfold eM aP dL cG
 simp only [Tr.f,Tr.ks]
 generalize jR c f rs=S
 generalize rs.length=rl
 generalize ks.length=kk
 by_cases h1:k=1
 ·subst h1;simp;constructor <;> (intro h;omega)
 by_cases h3:k=3
 ·subst h3;simp;constructor <;> (intro h;omega)
 by_cases h4:k=4
 ·subst h4;simp;constructor <;> (intro h;omega)
 by_cases h2:k=2
 ·subst h2;simp
  constructor
  ·rintro ⟨⟨a,b,c,d⟩,e⟩;exact⟨a,b,c,d,e⟩
  ·rintro ⟨a,b,c,d,e⟩;exact⟨⟨a,b,c,d⟩,e⟩
 by_cases h5:k=5
 ·subst h5;simp;constructor <;> (intro h;omega)
 by_cases h6:k=6
 ·subst h6;simp;constructor <;> (intro h;omega)
 by_cases h7:k=7
 ·subst h7;simp;constructor <;> (intro h;omega)
 by_cases h8:k=8
 ·subst h8;simp;constructor <;> (intro h;omega)
 by_cases h9:k=9
 ·subst h9;simp
  constructor
  ·rintro ⟨⟨a,b,c⟩,e⟩;exact⟨a,e,b,c⟩
  ·rintro ⟨a,e,b,c⟩;exact⟨⟨a,b,c⟩,e⟩
 ·simp [h1,h2,h3,h4,h5,h6,h7,h8,h9]
  intro a b
  omega
theorem mT{p:Way}{k:Int}(hbr:∀ par i r,p=(par,i) :: r->par.f.k=5->brP r=true)(hk:cG k=true):bL p k=iW p k:=by
 cases p with
 | nil=>
  unfold bL iW
  simp [arP,hk]
 | cons y r=>
  obtain⟨par,i⟩:=y
  have e:iW ((par,i) :: r) k=(if par.f.k=5 then (if k=3 then brP ((par,i) :: r)&&((i:Int)==0) else if k=4 then brP ((par,i) :: r)&&((i:Int)==(par.ks.length:Int)-1) else bA k) else if par.f.k=9 then bA k else if par.f.k=6 then k != 6 else true):=rfl
  rw [e]
  unfold bL cK
  simp only
  by_cases h5:par.f.k=5
  ·rw [if_pos h5,if_pos h5]
   have hb:brP ((par,i) :: r)=true:=by
    have:=hbr par i r rfl h5
    simp [brP,h5,this]
   rw [hb,Bool.true_and,Bool.true_and]
   by_cases k3:k=3
   ·subst k3
    rw [if_pos rfl]
    simp [bA]
   ·rw [if_neg k3]
    by_cases k4:k=4
    ·subst k4
     rw [if_pos rfl]
     simp [bA]
    ·rw [if_neg k4]
     have e3:(k==3)=false:=by simpa using k3
     have e4:(k==4)=false:=by simpa using k4
     rw [e3,e4,Bool.false_and,Bool.false_and,Bool.or_false,Bool.or_false]
  ·rw [if_neg h5,if_neg h5]
   by_cases h9:par.f.k=9
   ·rw [if_pos h9,if_pos h9]
   ·rw [if_neg h9,if_neg h9]
    by_cases h6:par.f.k=6
    ·rw [if_pos h6,if_pos h6,hk,Bool.true_and]
    ·rw [if_neg h6,if_neg h6,hk]
theorem aV3{c f:Bool}{t:Tr}{pre:List El}{x:El}(hp:pre++[x] <+: pp [] t)(hr:∀ (j:Nat) (y:El),pre[j]?=some y->bN c f y.1 y.2 j (aI (pre.take j))=0):∀ par i r,x.1=(par,i) :: r->par.f.k=5->brP r=true:=by
 intro par i r hx h5
 obtain⟨rest,he⟩:=hp
 have hxi:(pp [] t)[pre.length]?=some x:=by rw [<- he,j7,o0 lz9,u1];rfl
 have hin:∀ (k:Nat) (z:El),k<pre.length->(pp [] t)[k]?=some z->pre[k]?=some z:=fun k z hk hz=>by
  rw [<- he,j7,r6 hk] at hz
  exact hz
 cases r with
 | nil=>rfl
 | cons y r'=>
  obtain⟨qq,m⟩:=y
  obtain⟨j,a1,a2,a3⟩:=aL3 [] pre.length x par i ((qq,m) :: r') hxi hx
  have l1:=(gZ (hr j _ (hin j _ a1 a2))).1
  obtain⟨j0,b1,b2,b3⟩:=aL3 [] j _ qq m r' a2 rfl
  have l2:=(gZ (hr j0 _ (hin j0 _ (by omega) b2))).2.2
  have hks:1<=qq.ks.length:=by
   have h1:2<=qq.sz:=by omega
   rw [dY] at h1
   cases hk:qq.ks with
   | nil=>rw [hk,dJ] at h1;omega
   | cons a l=>simp
  have l1':cK qq.f.k (m:Int) qq.ks.length 5=true:=by
   have:bL ((qq,m) :: r') par.f.k=true:=l1
   rw [h5] at this
   exact this
  have l2':dL qq.f.k qq.ks.length=true:=l2
  unfold cK at l1'
  simp only [brP]
  by_cases k5:qq.f.k=5
  ·rw [if_pos k5] at l1';simp [bA] at l1'
  ·rw [if_neg k5] at l1'
   by_cases k9:qq.f.k=9
   ·rw [if_pos k9] at l1';simp [bA] at l1'
   ·by_cases k67:qq.f.k=7\/qq.f.k=6
    ·rw [if_pos k67]
    ·exfalso
     unfold dL at l2'
     rw [if_neg (by omega),if_neg (by omega)] at l2'
     have h0:=eq_of_beq l2'
     omega
def bE(c f:Bool)(p:Way)(t:Tr):Prop:=iW p t.f.k=true/\eM c f t
theorem mS{c f:Bool}{t:Tr}(h:eM c f t):cG t.f.k=true:=(gA (g:=t.f.n)).2 ⟨h,fun _=>rfl⟩ |>.1
theorem tT{c f:Bool}{p:Way}{t:Tr}{g:Int}(hbr:∀ par i r,p=(par,i) :: r->par.f.k=5->brP r=true):(bL p t.f.k=true/\aP c f g t.f/\dL t.f.k t.ks.length=true)↔(bE c f p t/\(t.f.k=7->t.f.n=g)):=by
 constructor
 ·rintro ⟨h1,h2,h3⟩
  have hk:cG t.f.k=true:=by
   cases p with
   | nil=>exact h1
   | cons y r=>exact jQ h1
  have:=gA.1 ⟨hk,h2,h3⟩
  exact⟨⟨by rw [<- mT hbr hk];exact h1,this.1⟩,this.2⟩
 ·rintro ⟨⟨h1,h2⟩,h3⟩
  have hk:=mS h2
  have:=gA.2 ⟨h2,h3⟩
  exact⟨by rw [mT hbr hk];exact h1,this.2⟩
def NP(c o:Bool)(t:Tr):Prop:=eM c o t/\(t.f.k=7->1<=t.f.n/\t.f.n<=30)
theorem aC5{P:Tr->Prop}(t:Tr):∀ p,(∀ z∈pp p t,P z.2)->bG P t:=by
 refine Tr.ind (P:=fun t=>∀ p,(∀ z∈pp p t,P z.2)->bG P t) (fun t ih p h=>?_) t
 rw [cD] at h
 refine(aL t).2 ⟨h (p,t) (g7 ..),(aO _).2 ?_⟩
 have:∀ (ks:List Tr) (i:Nat),(∀ u∈ks,u∈t.ks)->(∀ z∈pps t p i ks,P z.2)->∀ u∈ks,bG P u:=by
  intro ks
  induction ks with
  | nil=>intro i _ _ u hu;cases hu
  | cons v vs ih2=>
   intro i hs hz u hu
   rw [aZ] at hz
   rcases n7.1 hu with e | e
   ·subst e
    exact ih u (hs u (g7 ..)) _ (fun z q=>hz z (j6.2 (.inl q)))
   ·exact ih2 (i+1) (fun x hx=>hs x (b6 _ hx)) (fun z q=>hz z (j6.2 (.inr q))) u e
 exact this t.ks 0 (fun _ h=>h) (fun z hz=>h z (b6 _ hz))
theorem yP{p:Way}{k:Int}(h:bL p k=true):cG k=true:=by
 unfold bL at h
 split at h
 ·exact h
 ·exact jQ h
theorem zM{c o:Bool}{t:Tr}(h:aV c o 0 0 (pp [] t)=0):bG (NP c o) t:=by
 refine aC5 t [] fun z hz=>?_
 obtain⟨pre,post,e⟩:=List.append_of_mem hz
 have q:=jB _ 0 0 h pre z post e
 obtain⟨h1,h2,h3⟩:=gZ q
 have:=(gA (g:=((0+aI pre:Nat):Int)+1)).1 ⟨yP h1,by simpa using h2,h3⟩
 refine⟨this.1,fun hk=>?_⟩
 have g:=aA9 q hk
 omega
theorem zK{c o:Bool}{t:Tr}(h:aV c o 0 0 (pp [] t)=0):t.sz<=2000:=by
 rw [<- cL t []]
 exact oI h
section
structure Ln where
 s:ByteArray
 c:Bool
 o:Bool
 u:Nat->Bool
structure Cf where
 p:Nat
 g:List (Int×Int)
def aJ5(l:List (Int×Int))(x:Int):Bool:=l.any fun r=>decide (r.1<=x)&&decide (x<=r.2)
variable {L:Ln}
end
section
def fl0(k n mn mx:Int)(rs:List (Int×Int)):Fl:=⟨k,n,mn,mx,rs,none,0,none,0,0⟩
mutual
def tp:Ps->Tr
 | .lf k n rs=>.mk (fl0 k n 0 0 rs) []
 | .grp n x=>.mk (fl0 7 n 0 0 []) [tp x]
 | .rep a b x=>.mk (fl0 9 0 a b []) [tp x]
 | .row l=>if l.isEmpty then .mk (fl0 1 0 0 0 []) [] else .mk (fl0 5 0 0 0 []) (tps l)
 | .alt l=>.mk (fl0 6 0 0 0 []) (tps l)
def tps:List Ps->List Tr
 | []=>[]
 | x :: l=>tp x :: tps l
end
theorem uD(l:List Ps):tps l=l.map tp:=by
 induction l with
 | nil=>rw [tps];rfl
 | cons x l ih=>rw [tps,ih];rfl
theorem aM6(x:Ps):er (tp x)=te x:=by
 refine Ps.ind (P:=fun x=>er (tp x)=te x) (fun x ih=>?_) x
 have hl:∀ l:List Ps,(∀ y∈l,y∈x.kids)->(tps l).map er=tes l:=by
  intro l
  induction l with
  | nil=>intro _;rw [tps,tes];rfl
  | cons y l ih2=>intro hs;rw [tps,tes,l8,ih y (hs y (g7 ..)),ih2 (fun z hz=>hs z (b6 _ hz))]
 cases x with
 | lf k n rs=>rw [tp,te,bQ];rfl
 | grp n y=>rw [tp,te,bQ];show Er.mk 7 n 0 0 [] [er (tp y)]=_;rw [ih y (by simp [Ps.kids])]
 | rep a b y=>rw [tp,te,bQ];show Er.mk 9 0 a b [] [er (tp y)]=_;rw [ih y (by simp [Ps.kids])]
 | row l=>
  rw [tp,te,bQ]
  by_cases h:l.isEmpty=true
  ·rw [if_pos h,if_pos h];rfl
  ·rw [if_neg h,if_neg h];show Er.mk 5 0 0 0 [] ((tps l).map er)=_;rw [hl l (fun _ h=>h)]
 | alt l=>rw [tp,te,bQ];show Er.mk 6 0 0 0 [] ((tps l).map er)=_;rw [hl l (fun _ h=>h)]
variable {L:Ln}
variable (un:List (Int×Int)->List (Int×Int))
end
abbrev bx(b:Nat):Value:=.pointer (some ⟨b,0,none⟩)
def aT8(f:Fl)(c o:Bool)(v:Value)(g:Value):Array Value:=#[.int .i64 f.k,.int .i64 f.n,.int .i64 f.mn,.int .i64 f.mx,.slice f.rq f.rs.length f.rc,.slice f.kq f.kl f.kc,.bool c,.bool o,v,g]
theorem lG{w:World}{k:Nat}(o:Obj)(h:k=w.heap.size):(w.alloc o).heap[k]?=some o:=by rw [h];exact aD w o
section
attribute [local go_sem] Oper.semAt_some
noncomputable def tvI (ρ:tZ (Int)) (c o:Bool) (t:Tr):Int:=if aV c o 0 0 (pp [] t)=0 then (ev ρ (fun _=>0) t).1 else 0
end
section
attribute [local go_sem] Oper.semAt_some bU
def wide(l:List (Int×Int)):Int:=16*((l.filter fun r=>decide (127<r.2)).length:Int)
def bS(l:List (Int×Int)):Int:=if l.any (fun r=>decide (r.2<=127)) then 1 else 0
def dZ(c:Bool)(l:List (Int×Int)):Int:=if c then max (wide l+bS l) 1 else 1
def iJ(f:Fl):Int:=if f.mx=-1 then f.mn+1 else max f.mx 1
def eJ(c:Bool)(f:Fl)(xs:List Int):Int:=if f.k=2 then dZ c f.rs else if f.k=5\/f.k=6 then (xs.length:Int)+xs.sum else if f.k=7 then xs.headD 0+2 else if f.k=9 then (xs.headD 0+2)*iJ f else 1
def gH(c:Bool):tZ Int:=fun f _ xs _=>min (eJ c f xs) 10001
def iG(x:Int):Prop:=0<=x/\x<=10001
theorem yM{l:List Int}(h:∀ x∈l,iG x):0<=l.sum/\l.sum<=10001*(l.length:Int):=by
 induction l with
 | nil=>simp
 | cons x l ih=>
  have h1:=h x (g7 ..)
  have h2:=ih fun y hy=>h y (b6 _ hy)
  unfold iG at h1
  rw [List.sum_cons,i9]
  omega
theorem aA4{c o:Bool}{t:Tr}(h:NP c o t):t.f.k=1\/t.f.k=2\/t.f.k=3\/t.f.k=4\/t.f.k=5\/t.f.k=6\/t.f.k=7\/t.f.k=8\/t.f.k=9:=by
 have:=mS h.1
 simp [cG] at this
 omega
theorem aQ8{c o:Bool}{t:Tr}(h:NP c o t)(hk:t.f.k=2):jR c o t.f.rs:=by
 have:=h.1;unfold eM at this;rw [hk] at this;simp at this;exact this.1
theorem aA3{c o:Bool}{t:Tr}(h:NP c o t)(hk:t.f.k=7\/t.f.k=9):t.ks.length=1:=by
 have:=h.1;unfold eM at this
 rcases hk with hk | hk
 ·rw [hk] at this;simp at this;exact this.1
 ·rw [hk] at this;simp at this;exact this.2.1
theorem aA2{c o:Bool}{t:Tr}(h:NP c o t)(hk:t.f.k=9):eW t.f.mn t.f.mx=true:=by
 have:=h.1;unfold eM at this;rw [hk] at this;simp at this;exact this.1
theorem yF{f:Fl}(h:eW f.mn f.mx=true):1<=iJ f/\iJ f<=256:=by
 simp [eW] at h
 unfold iJ
 split <;> omega
theorem zC(c:Bool)(l:List (Int×Int)):1<=dZ c l:=by
 unfold dZ
 split <;> omega
theorem vW{c o:Bool}(t:Tr)(xs:List Int)(g:Int->Int)(hn:NP c o t)(_:xs.length=t.ks.length)(hx:∀ x∈xs,iG x)(_:∀ i,iG (g i)):iG (gH c t.f t.ks xs g):=by
 have:0<=eJ c t.f xs:=by
  have hh:0<=xs.headD 0:=by
   cases xs with
   | nil=>simp
   | cons x l=>have:=hx x (g7 ..);unfold iG at this;simpa using this.1
  unfold eJ
  split
  ·have:=zC c t.f.rs;omega
  ·split
   ·have:=yM hx;omega
   ·split
    ·omega
    ·split
     ·rename_i hk
      have:=yF (aA2 hn hk)
      exact Int.mul_nonneg (by omega) (by omega)
     ·omega
 unfold gH iG
 omega
end
end Go.Proofs.YtlamifbjklpdbaaGreat
