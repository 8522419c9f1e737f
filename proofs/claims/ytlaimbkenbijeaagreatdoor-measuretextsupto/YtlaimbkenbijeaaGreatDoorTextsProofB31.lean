/-
  Parts of the proof.
-/
import Derived.Test.YtlaimbkenbijeaaGreatDoorTextsProofA0
import Derived.Test.YtlaimbkenbijeaaGreatDoorTextsProofB30
import Derived.Test.YtlaimbkenbijeaaGreatDoorTextsProofB16
import Derived.Test.YtlaimbkenbijeaaGreatDoorTextsProofB7
import Derived.Test.YtlaimbkenbijeaaGreatDoorTextsProofB17
import Derived.Test.YtlaimbkenbijeaaGreatDoorTextsProofB13
import Derived.Test.YtlaimbkenbijeaaGreatDoorTextsProofB14
import Derived.Laws.AppendOwnNone
set_option maxRecDepth 100000
set_option maxHeartbeats 8000000
namespace Go.Proofs.YtlaimbkenbijeaaGreatDoor
open Go Go.RowKit
def lH(most:Nat)(t:Tr):List Zl:=nE most [] ([],t)
theorem lU(most:Nat)(t:Tr):(lH most t).map (·.1)=(pp [] t).take most:=by
 unfold lH nE
 rw [aAG,List.length_nil,Nat.sub_zero,List.map_take,aS8]
theorem oO(most:Nat)(t:Tr):(lH most t).length=min most (pp [] t).length:=by
 have:=congrArg List.length (lU most t)
 rwa [o8,o9] at this
theorem pV(t:Tr):(lH 2001 t).length=mC t:=by rw [oO,mC];omega
def bA1(w:World)(L:List Zl)(e:Ending)(w':World):Prop:=∃ q c,e=.returned (.slice q L.length c)/\ZR w.heap.size w' (.slice q L.length c) L/\Below w.heap.size w w'
theorem sQ{w:World}{t:Tr}(most:Nat)(hm:most<=100000)(hta:TB w t):Calls Tryz.prog 36 #[.agg #[.int .i64 t.f.k,.int .i64 t.f.n,.int .i64 t.f.mn,.int .i64 t.f.mx,.slice t.f.rq t.f.rs.length t.f.rc,.slice t.f.kq t.f.kl t.f.kc],.int .i64 (most:Int)] w (bA1 w (lH most t)):=by
 have B1:Hid (Below w.heap.size w (w.alloc (.cells #[.int .i64 t.f.k,.int .i64 t.f.n,.int .i64 t.f.mn,.int .i64 t.f.mx,.slice t.f.rq t.f.rs.length t.f.rc,.slice t.f.kq t.f.kl t.f.kc] 25))):=bz9
 have N1:BoxN (w.alloc (.cells #[.int .i64 t.f.k,.int .i64 t.f.n,.int .i64 t.f.mn,.int .i64 t.f.mx,.slice t.f.rq t.f.rs.length t.f.rc,.slice t.f.kq t.f.kl t.f.kc] 25)) w.heap.size t.f:=aE w _
 obtain⟨c0,c1,c2,c3,c4,c5⟩:=N1.six
 simp only [g8] at c1 c2 c3 c4 c5
 have LY:Hid (Calls Tryz.prog 66 #[.slice none 0 0,.agg #[.int .i64 t.f.k,.int .i64 t.f.n,.int .i64 t.f.mn,.int .i64 t.f.mx,.slice t.f.rq t.f.rs.length t.f.rc,.slice t.f.kq t.f.kl t.f.kc,.int .i64 1,.int .i64 0,.bool true,.bool true,.bool true,.int .i64 0],.int .i64 (most:Int)] (w.alloc (.cells #[.int .i64 t.f.k,.int .i64 t.f.n,.int .i64 t.f.mn,.int .i64 t.f.mx,.slice t.f.rq t.f.rs.length t.f.rc,.slice t.f.kq t.f.kl t.f.kc] 25)) (aA5 w (w.alloc (.cells #[.int .i64 t.f.k,.int .i64 t.f.n,.int .i64 t.f.mn,.int .i64 t.f.mx,.slice t.f.rq t.f.rs.length t.f.rc,.slice t.f.kq t.f.kl t.f.kc] 25)) (.slice none 0 0) (lH most t))):=(by
  have h:=bO1 (w0:=w) hm t.sz t [] (w.alloc (.cells #[.int .i64 t.f.k,.int .i64 t.f.n,.int .i64 t.f.mn,.int .i64 t.f.mx,.slice t.f.rq t.f.rs.length t.f.rc,.slice t.f.kq t.f.kl t.f.kc] 25)) [] none 0 lz9 hta B1.out (aAX _ _ _ _) lz9
  have e:(zc (([],t),0)).toArray=#[.int .i64 t.f.k,.int .i64 t.f.n,.int .i64 t.f.mn,.int .i64 t.f.mx,.slice t.f.rq t.f.rs.length t.f.rc,.slice t.f.kq t.f.kl t.f.kc,.int .i64 1,.int .i64 0,.bool true,.bool true,.bool true,.int .i64 0]:=(by simp [zc,Fl.cells,arP,fiP,laP,brP])
  rw [e] at h
  exact h)
 clear N1 hta
 go_enter Tryz.func36,Tryz.ntmps36
 go_wp2_with (go_at_call 66;(with_reducible refine(LY.out).mono ?_);rintro e w5 ⟨q5,k5,rfl,h51,h52,h53⟩;have X5:=aD h51;have F5:=aD h53;clear h51 h52 h53)
 go_ret
 exact⟨q5,k5,rfl,X5.out,bC B1.out F5.out lz9 (fun k e=>by cases e)⟩
theorem aI5{w:World}{t:Tr}(hta:TB w t):Calls Tryz.prog 57 #[.agg #[.int .i64 t.f.k,.int .i64 t.f.n,.int .i64 t.f.mn,.int .i64 t.f.mx,.slice t.f.rq t.f.rs.length t.f.rc,.slice t.f.kq t.f.kl t.f.kc]] w fun e w'=>e=.returned (.int .i64 (mC t:Int))/\Below w.heap.size w w':=by
 have B1:Hid (Below w.heap.size w (w.alloc (.cells #[.int .i64 t.f.k,.int .i64 t.f.n,.int .i64 t.f.mn,.int .i64 t.f.mx,.slice t.f.rq t.f.rs.length t.f.rc,.slice t.f.kq t.f.kl t.f.kc] 25))):=bz9
 have N1:BoxN (w.alloc (.cells #[.int .i64 t.f.k,.int .i64 t.f.n,.int .i64 t.f.mn,.int .i64 t.f.mx,.slice t.f.rq t.f.rs.length t.f.rc,.slice t.f.kq t.f.kl t.f.kc] 25)) w.heap.size t.f:=aE w _
 obtain⟨c0,c1,c2,c3,c4,c5⟩:=N1.six
 simp only [g8] at c1 c2 c3 c4 c5
 have LD:=aD (sQ (w:=w.alloc (.cells #[.int .i64 t.f.k,.int .i64 t.f.n,.int .i64 t.f.mn,.int .i64 t.f.mx,.slice t.f.rq t.f.rs.length t.f.rc,.slice t.f.kq t.f.kl t.f.kc] 25)) 2001 (by omega) (hta.kept B1.out))
 have hl:=pV t
 have HL:=aD hl
 clear N1 hta hl
 go_enter Tryz.func57,Tryz.ntmps57
 go_wp2_with (go_at_call 36;refine(LD.out).mono ?_;rintro e w5 ⟨q5,k5,rfl,h51,h52⟩;have B5:=aD h52;clear h51 h52)
 go_ret
 refine⟨?_,aJ B1.out B5.out lz9⟩
 show Ending.returned (.int .i64 ((lH 2001 t).length:Int))=_
 rw [HL.out]
theorem ZR.cells{base:Nat}{W:World}{g c:Nat}{L:List Zl}(h:ZR base W (.slice (some ⟨g,0,none⟩) L.length c) L){i:Nat}{z:Zl}(hi:L[i]?=some z){j:Nat}{v:Value}(hj:(zc z)[j]?=some v):W.cell? ⟨g,i * 12+j,none⟩=some v:=
 aU h ((kZ L i j z hi (by have:=(i5.1 hj).1;rw [lI] at this;exact this)).trans hj)
section
attribute [local go_sem] bB
theorem xE{w:World}{va vb:Value}{A B:List (Int × Int)}(ha:ArgR w va A)(hb:ArgR w vb B) :
  Calls Tryz.prog 71 #[va,vb] w fun e w'=>e=.returned (.bool (decide (A=B)))/\Below w.heap.size w w':=by
 obtain⟨q1,cap1,rfl,hl1,-,hc1⟩:=ha.slice
 obtain⟨q2,cap2,rfl,hl2,-,hc2⟩:=hb.slice
 have HC1:Hid (∀ (i:Nat) (r:Int × Int),A[i]?=some r->∃ g off,q1=some ⟨g,off,none⟩/\g < w.heap.size/\w.cell? ⟨g,off+2 * i,none⟩=some (.int .i64 r.1)/\w.cell? ⟨g,off+2 * i+1,none⟩=some (.int .i64 r.2)):=hc1
 have HC2:Hid (∀ (i:Nat) (r:Int × Int),B[i]?=some r->∃ g off,q2=some ⟨g,off,none⟩/\g < w.heap.size/\w.cell? ⟨g,off+2 * i,none⟩=some (.int .i64 r.1)/\w.cell? ⟨g,off+2 * i+1,none⟩=some (.int .i64 r.2)):=hc2
 clear hc1 hc2 ha hb
 unfold maxLen at hl1 hl2
 by_cases hne:A.length=B.length
 ·have HNE:Hid (A.length=B.length):=hne
  rw [<- hne]
  have b1:(((A.length:Nat):Int) != ((A.length:Nat):Int))=false:=by simp
  clear hne hl2
  go_enter Tryz.func71,Tryz.ntmps71
  go_wp2
  go_loopw [5] (fun i wr=>∃ k:Nat,k<=A.length/\i=.int .i64 k/\A.take k=B.take k/\Below w.heap.size w wr) (fun i _=>A.length - (intOf i).toNat)
  case atStart=>exact⟨0,m9 _,rfl,by simp,Below.refl _ _⟩
  case round=>
   obtain⟨k,hk,rfl,ht,hbl⟩:=hrel
   have HT:Hid (A.take k=B.take k):=ht
   have BW:Hid (Below w.heap.size w wr):=hbl
   clear ht hbl
   by_cases hlt:k < A.length
   ·obtain⟨a,ea⟩:∃ r,A[k]?=some r:=⟨_,g9 hlt⟩
    obtain⟨b,eb⟩:∃ r,B[k]?=some r:=⟨_,g9 (by have:=HNE.out;omega)⟩
    obtain⟨g1,o1,rfl,hg1,x1,x2⟩:=HC1.out k _ ea
    obtain⟨g2,o2,rfl,hg2,y1,y2⟩:=HC2.out k _ eb
    have d1:=(BW.out.cell (p:=⟨g1,o1+2 * k,none⟩) hg1).trans x1
    have d2:=(BW.out.cell (p:=⟨g1,o1+2 * k+1,none⟩) hg1).trans x2
    have d3:=(BW.out.cell (p:=⟨g2,o2+2 * k,none⟩) hg2).trans y1
    have d4:=(BW.out.cell (p:=⟨g2,o2+2 * k+1,none⟩) hg2).trans y2
    rw [aAJ] at d1 d2 d3 d4
    have s1:g1 < wr.heap.size:=i6 hg1 BW.out.size
    have s2:g2 < wr.heap.size:=i6 hg2 BW.out.size
    have NX:Hid (A.take (k+1)=B.take (k+1) ↔ a=b):=oA ea eb HT.out
    have NE:Hid (a≠b->¬ A=B):=fun q e=>by subst e;rw [ea] at eb;exact q (aAP eb)
    have i0:(0:Int)<=(k:Int):=by omega
    have i1:(k:Int) < (A.length:Int):=by omega
    obtain⟨a1,a2⟩:=a
    obtain⟨b1',b2⟩:=b
    dsimp only at d1 d2 d3 d4
    clear x1 x2 y1 y2 ea eb
    by_cases e1:a1=b1'
    ·by_cases e2:a2=b2
     ·subst e1 e2
      have f1:(a1==a1)=true:=by simp
      have f2:(a2==a2)=true:=by simp
      have NX2:Hid (A.take (k+1)=B.take (k+1)):=NX.out.2 rfl
      clear NX NE
      go_wp2
      refine wx9 ?_
      repeat (go_big_quiet_step (first | exact rfl))
      refine wpQuiet_nil ?_
      intro w7 hw7
      have B7:Hid (Below wr.heap.size wr w7):=aQ hw7
      clear hw7
      go_wp2
      go_roundw
      case rel=>exact⟨k+1,by omega,by go_num,NX2.out,aJ BW.out B7.out lz9⟩
      case measure=>simp [intOf];omega
     ·subst e1
      have f1:(a1==a1)=true:=by simp
      have f2:(a2==b2)=false:=by simp [e2]
      have N2:Hid (decide (A=B)=false):=l8 (NE.out (fun q=>e2 (Prod.mk.inj q).2))
      clear NX NE
      go_wp2
      refine wx9 ?_
      repeat (go_big_quiet_step (first | exact rfl))
      refine wpQuiet_nil ?_
      intro w7 hw7
      have B7:Hid (Below wr.heap.size wr w7):=aQ hw7
      clear hw7
      go_wp2
      go_ret
      exact⟨by rw [N2.out];rfl,aJ BW.out B7.out lz9⟩
    ·have f1:(a1==b1')=false:=by simp [e1]
     have N2:Hid (decide (A=B)=false):=l8 (NE.out (fun q=>e1 (Prod.mk.inj q).1))
     clear NX NE
     go_wp2
     refine wx9 ?_
     repeat (go_big_quiet_step (first | exact rfl))
     refine wpQuiet_nil ?_
     intro w7 hw7
     have B7:Hid (Below wr.heap.size wr w7):=aQ hw7
     clear hw7
     go_wp2
     go_ret
     exact⟨by rw [N2.out];rfl,aJ BW.out B7.out lz9⟩
   ·have i1:¬ (k:Int) < (A.length:Int):=by omega
    have EE:Hid (decide (A=B)=true):=r8 (by
     have e:=HT.out
     rw [j9 (by omega),j9 (by have:=HNE.out;omega)] at e
     exact e)
    go_wp2
    go_ret
    exact⟨by rw [EE.out];rfl,BW.out⟩
 ·have EE:Hid (decide (A=B)=false):=l8 (fun e=>hne (by rw [e]))
  have b1:(((A.length:Nat):Int) != ((B.length:Nat):Int))=true:=by simp;omega
  go_enter Tryz.func71,Tryz.ntmps71
  go_wp2
  go_ret
  exact⟨by rw [EE.out];rfl,Below.refl _ _⟩
end
abbrev Sg:=Int × Int × Int × Int × List (Int × Int) × Nat
def sig(t:Tr):Sg:=(t.f.k,t.f.n,t.f.mn,t.f.mx,t.f.rs,t.ks.length)
def sgs(l:List El):List Sg:=l.map fun x=>sig x.2
theorem kN(a b:List El):sgs (a ++ b)=sgs a ++ sgs b:=by simp [sgs]
theorem aT5{a b:Tr}(h:er a=er b):sig a=sig b:=by
 obtain⟨h1,h2,h3,h4,h5,h6⟩:=(lZ a b).1 h
 have:=congrArg List.length h6
 rw [o8,o8] at this
 unfold sig
 rw [h1,h2,h3,h4,h5,this]
theorem bB4(a:Tr):∀ (b:Tr) (p q:Way) (X Y:List Sg),sgs (pp p a) ++ X=sgs (pp q b) ++ Y->er a=er b/\X=Y:=by
 refine Tr.ind (P:=fun a=>∀ (b:Tr) (p q:Way) (X Y:List Sg),sgs (pp p a) ++ X=sgs (pp q b) ++ Y->er a=er b/\X=Y) (fun a ih b p q X Y h=>?_) a
 have key:∀ (ks js:List Tr) (i i':Nat) (X Y:List Sg),(∀ u∈ks,u∈a.ks)->ks.length=js.length->sgs (pps a p i ks) ++ X=sgs (pps b q i' js) ++ Y->ks.map er=js.map er/\X=Y:=by
  intro ks
  induction ks with
  | nil=>
   intro js i i' X Y _ hl h
   cases js with
   | nil=>rw [cA,cA] at h;exact⟨rfl,h⟩
   | cons v js=>cases hl
  | cons u ks ihk=>
   intro js i i' X Y hm hl h
   cases js with
   | nil=>cases hl
   | cons v js=>
    rw [bL,bL,kN,kN,t9,t9] at h
    obtain⟨h1,h2⟩:=ih u (hm u m8) v _ _ _ _ h
    obtain⟨h3,h4⟩:=ihk js _ _ X Y (fun z hz=>hm z (n6 _ hz)) (by simpa using hl) h2
    rw [r7,r7,h1,h3]
    exact⟨rfl,h4⟩
 rw [cF,cF] at h
 simp only [sgs,r7,r9] at h
 injection h with h1 h2
 obtain⟨h5,h6⟩:=key a.ks b.ks 0 0 X Y (fun _ z=>z) (congrArg (fun s:Sg=>s.2.2.2.2.2) h1) h2
 refine⟨(lZ a b).2 ⟨congrArg (fun s:Sg=>s.1) h1,congrArg (fun s:Sg=>s.2.1) h1,congrArg (fun s:Sg=>s.2.2.1) h1,congrArg (fun s:Sg=>s.2.2.2.1) h1,congrArg (fun s:Sg=>s.2.2.2.2.1) h1,h5⟩,h6⟩
theorem bK4(a:Tr):∀ (b:Tr) (p q:Way),er a=er b->sgs (pp p a)=sgs (pp q b):=by
 refine Tr.ind (P:=fun a=>∀ (b:Tr) (p q:Way),er a=er b->sgs (pp p a)=sgs (pp q b)) (fun a ih b p q h=>?_) a
 have hs:=aT5 h
 obtain⟨-,-,-,-,-,h6⟩:=(lZ a b).1 h
 have key:∀ (ks js:List Tr) (i i':Nat),(∀ u∈ks,u∈a.ks)->ks.map er=js.map er->sgs (pps a p i ks)=sgs (pps b q i' js):=by
  intro ks
  induction ks with
  | nil=>
   intro js i i' _ hl
   cases js with
   | nil=>rw [cA,cA]
   | cons v js=>cases hl
  | cons u ks ihk=>
   intro js i i' hm hl
   cases js with
   | nil=>cases hl
   | cons v js=>
    rw [r7,r7] at hl
    injection hl with h1 h2
    rw [bL,bL,kN,kN,ih u (hm u m8) v _ _ h1,ihk js _ _ (fun z hz=>hm z (n6 _ hz)) h2]
 rw [cF,cF]
 have:=key a.ks b.ks 0 0 (fun _ z=>z) h6
 simp only [sgs,r7] at this ⊢
 rw [hs,this]
theorem sF(a b:Tr):qJ (er a) (er b)=true ↔ sgs (pp [] a)=sgs (pp [] b):=by
 rw [uP]
 refine⟨bK4 a b [] [],fun h=>(bB4 a b [] [] [] [] (by rw [h])).1⟩
theorem bB3(a b:Tr)(h:sgs (pp [] a)=sgs (pp [] b)):(pp [] a).length=(pp [] b).length:=by
 have:=congrArg List.length h
 simpa [sgs] using this
noncomputable def rsB (a b:Tr):Bool:=!decide (2000 < (pp [] a).length) && !decide (2000 < (pp [] b).length) && qJ (er a) (er b)
theorem aT9{a b:Tr}(h:mC a≠mC b\/2000 < mC a):rsB a b=false:=by
 unfold rsB mC at *
 cases hs:qJ (er a) (er b) with
 | false=>rw [Bool.and_false]
 | true=>
  have hl:=bB3 a b ((sF a b).1 hs)
  rw [r8 (show 2000 < (pp [] a).length by omega)]
  rfl
theorem bK8{a b:Tr}(h1:mC a=mC b)(h2:¬ 2000 < mC a):rsB a b=qJ (er a) (er b)/\(pp [] a).length<=2000/\(pp [] b).length<=2000:=by
 unfold rsB mC at *
 have l1:(pp [] a).length<=2000:=by omega
 have l2:(pp [] b).length<=2000:=by omega
 rw [l8 (by omega),l8 (by omega)]
 exact⟨rfl,l1,l2⟩
theorem bK7{w:World}{a b:Tr}(ha:TB w a)(hb:TB w b):Calls Tryz.prog 59 #[.agg #[.int .i64 a.f.k,.int .i64 a.f.n,.int .i64 a.f.mn,.int .i64 a.f.mx,.slice a.f.rq a.f.rs.length a.f.rc,.slice a.f.kq a.f.kl a.f.kc],.agg #[.int .i64 b.f.k,.int .i64 b.f.n,.int .i64 b.f.mn,.int .i64 b.f.mx,.slice b.f.rq b.f.rs.length b.f.rc,.slice b.f.kq b.f.kl b.f.kc]] w fun e w'=>e=.returned (.bool (rsB a b))/\Below w.heap.size w w':=by
 have B1:Hid (Below w.heap.size w ((w.alloc (.cells #[.int .i64 a.f.k,.int .i64 a.f.n,.int .i64 a.f.mn,.int .i64 a.f.mx,.slice a.f.rq a.f.rs.length a.f.rc,.slice a.f.kq a.f.kl a.f.kc] 25)).alloc (.cells #[.int .i64 b.f.k,.int .i64 b.f.n,.int .i64 b.f.mn,.int .i64 b.f.mx,.slice b.f.rq b.f.rs.length b.f.rc,.slice b.f.kq b.f.kl b.f.kc] 25))):=(bz9).alloc (by simp) _
 have NA1:Hid (BoxN ((w.alloc (.cells #[.int .i64 a.f.k,.int .i64 a.f.n,.int .i64 a.f.mn,.int .i64 a.f.mx,.slice a.f.rq a.f.rs.length a.f.rc,.slice a.f.kq a.f.kl a.f.kc] 25)).alloc (.cells #[.int .i64 b.f.k,.int .i64 b.f.n,.int .i64 b.f.mn,.int .i64 b.f.mx,.slice b.f.rq b.f.rs.length b.f.rc,.slice b.f.kq b.f.kl b.f.kc] 25)) w.heap.size a.f):=(Below.heap_alloc _ _ _ (by simp)).trans (aE w _)
 have NB1:Hid (BoxN ((w.alloc (.cells #[.int .i64 a.f.k,.int .i64 a.f.n,.int .i64 a.f.mn,.int .i64 a.f.mx,.slice a.f.rq a.f.rs.length a.f.rc,.slice a.f.kq a.f.kl a.f.kc] 25)).alloc (.cells #[.int .i64 b.f.k,.int .i64 b.f.n,.int .i64 b.f.mn,.int .i64 b.f.mx,.slice b.f.rq b.f.rs.length b.f.rc,.slice b.f.kq b.f.kl b.f.kc] 25)) (w.heap.size+1) b.f):=(by
  have:=aE (w.alloc (.cells #[.int .i64 a.f.k,.int .i64 a.f.n,.int .i64 a.f.mn,.int .i64 a.f.mx,.slice a.f.rq a.f.rs.length a.f.rc,.slice a.f.kq a.f.kl a.f.kc] 25)) (.cells #[.int .i64 b.f.k,.int .i64 b.f.n,.int .i64 b.f.mn,.int .i64 b.f.mx,.slice b.f.rq b.f.rs.length b.f.rc,.slice b.f.kq b.f.kl b.f.kc] 25)
  rwa [a7] at this)
 have HA:=aD ha
 have HB:=aD hb
 obtain⟨R,hR⟩:∃ R,rsB a b=R:=⟨_,rfl⟩
 rw [hR]
 have HR:=aD hR
 clear ha hb hR
 go_enter Tryz.func59,Tryz.ntmps59
 go_upto_region 1 with fail
 generalize ((w.alloc (.cells #[.int .i64 a.f.k,.int .i64 a.f.n,.int .i64 a.f.mn,.int .i64 a.f.mx,.slice a.f.rq a.f.rs.length a.f.rc,.slice a.f.kq a.f.kl a.f.kc] 25)).alloc (.cells #[.int .i64 b.f.k,.int .i64 b.f.n,.int .i64 b.f.mn,.int .i64 b.f.mx,.slice b.f.rq b.f.rs.length b.f.rc,.slice b.f.kq b.f.kl b.f.kc] 25))=W1 at B1 NA1 NB1 ⊢
 generalize w.heap.size+1=bb at NB1 ⊢
 obtain⟨c0,c1,c2,c3,c4,c5⟩:=NA1.out.six
 simp only [g8] at c1 c2 c3 c4 c5
 have LA:=aD (sQ (w:=W1) 2001 (by omega) (HA.out.kept B1.out))
 have hza:=pV a
 have HMA:=aD (lU 2001 a)
 generalize lH 2001 a=ZA at LA hza HMA
 have HZA:=aD hza
 clear hza
 go_upto_region 2 with (go_at_call 36;refine(LA.out).mono ?_;rintro e w5 ⟨q5,k5,rfl,h51,h52⟩;have Z5:=aD h51;have B5:=aD h52;clear h51 h52)
 clear c0 c1 c2 c3 c4 c5 LA
 obtain⟨c0,c1,c2,c3,c4,c5⟩:=(show BoxN w5 bb b.f from (B5.out.block _ (aB NB1.out)).trans NB1.out).six
 simp only [g8] at c1 c2 c3 c4 c5
 have B6:=aD (aJ B1.out B5.out lz9)
 have LB:=aD (sQ (w:=w5) 2001 (by omega) (HB.out.kept B6.out))
 have hzb:=pV b
 have HMB:=aD (lU 2001 b)
 generalize lH 2001 b=ZB at LB hzb HMB
 have HZB:=aD hzb
 clear hzb
 go_upto_region 3 with (go_at_call 36;refine(LB.out).mono ?_;rintro e w7 ⟨q7,k7,rfl,h51,h52⟩;have Z7:=aD h51;have B7:=aD h52;clear h51 h52)
 have Y7:Hid (ZR W1.heap.size w7 (.slice q5 ZA.length k5) ZA):=aM Z5.out (Fr.of_below (S:=fun _=>False) B7.out) (fun _ _ z=>z)
 have B8:=aD (aJ B6.out B7.out lz9)
 have hua:mC a<=2001:=Nat.min_le_right _ _
 have hub:mC b<=2001:=Nat.min_le_right _ _
 have hal:ZA.length<=2001:=by rw [HZA.out];exact hua
 have hbl:ZB.length<=2001:=by rw [HZB.out];exact hub
 clear c0 c1 c2 c3 c4 c5 LB B1 B5 B6 B7 Z5 NA1 NB1 hua hub
 by_cases hne:ZA.length=ZB.length
 ·have e0:((ZA.length:Int) != (ZB.length:Int))=false:=by simp;omega
  by_cases hbig:2000 < ZA.length
  ·have e1:(2000:Int) < (ZA.length:Int):=by omega
   have HF:=aD (HR.out.symm.trans (aT9 (.inr (by rw [<- HZA.out];exact hbig))))
   clear hne hbig
   go_wp2
   go_ret
   exact⟨by rw [HF.out];rfl,B8.out⟩
  ·have e1:¬ (2000:Int) < (ZA.length:Int):=by omega
   obtain⟨h1,h2,h3⟩:=bK8 (a:=a) (b:=b) (by rw [<- HZA.out,<- HZB.out];exact hne) (by rw [<- HZA.out];exact hbig)
   have HQ:=aD (HR.out.symm.trans h1)
   have HEA:=aD (show ZA.map (·.1)=pp [] a by rw [HMA.out,j9 (by omega)])
   have HEB:=aD (show ZB.map (·.1)=pp [] b by rw [HMB.out,j9 (by omega)])
   have HNE:=aD hne
   clear h1 h2 h3 hbig HMA HMB HZA HZB
   go_upto_region 6 with fail
   go_loopw [7] (fun i wr=>∃ j:Nat,j<=ZA.length/\i=.int .i64 (j:Int)/\Below w7.heap.size w7 wr/\(sgs (pp [] a)).take j=(sgs (pp [] b)).take j) (fun i _=>ZA.length - (intOf i).toNat)
   case atStart=>exact⟨0,m9 _,rfl,Below.refl _ _,rfl⟩
   case round=>
    obtain⟨j,hj,rfl,hbw,hsg⟩:=hrel
    have HBW:=aD hbw
    have HSG:=aD hsg
    clear hbw hsg
    by_cases hjl:j < ZA.length
    ·have i0:(j:Int) < (ZA.length:Int):=by omega
     have i1:(j:Int) < (ZB.length:Int):=by omega
     obtain⟨x,hx⟩:∃ x,ZA[j]?=some x:=⟨_,g9 hjl⟩
     obtain⟨y,hy⟩:∃ y,ZB[j]?=some y:=⟨_,g9 (by omega)⟩
     obtain⟨ga,ca,hqa⟩:=aL Y7.out (by omega)
     obtain⟨gb,cb,hqb⟩:=aL Z7.out (by omega)
     injection hqa with hqa1 _ hqa2
     injection hqb with hqb1 _ hqb2
     subst hqa1 hqa2 hqb1 hqb2
     have YA:ZR W1.heap.size wr (.slice (some ⟨ga,0,none⟩) ZA.length k5) ZA:=aM Y7.out (Fr.of_below (S:=fun _=>False) HBW.out) (fun _ _ z=>z)
     have YB:ZR w5.heap.size wr (.slice (some ⟨gb,0,none⟩) ZB.length k7) ZB:=aM Z7.out (Fr.of_below (S:=fun _=>False) HBW.out) (fun _ _ z=>z)
     have x0:wr.cell? ⟨ga,j * 12,none⟩=some (.int .i64 x.1.2.f.k):=YA.cells hx (j:=0) rfl
     have x1:wr.cell? ⟨ga,j * 12+1,none⟩=some (.int .i64 x.1.2.f.n):=YA.cells hx (j:=1) rfl
     have x2:wr.cell? ⟨ga,j * 12+2,none⟩=some (.int .i64 x.1.2.f.mn):=YA.cells hx (j:=2) rfl
     have x3:wr.cell? ⟨ga,j * 12+3,none⟩=some (.int .i64 x.1.2.f.mx):=YA.cells hx (j:=3) rfl
     have x4:wr.cell? ⟨ga,j * 12+4,none⟩=some (.slice x.1.2.f.rq x.1.2.f.rs.length x.1.2.f.rc):=YA.cells hx (j:=4) rfl
     have x5:wr.cell? ⟨ga,j * 12+5,none⟩=some (.slice x.1.2.f.kq x.1.2.f.kl x.1.2.f.kc):=YA.cells hx (j:=5) rfl
     have y0:wr.cell? ⟨gb,j * 12,none⟩=some (.int .i64 y.1.2.f.k):=YB.cells hy (j:=0) rfl
     have y1:wr.cell? ⟨gb,j * 12+1,none⟩=some (.int .i64 y.1.2.f.n):=YB.cells hy (j:=1) rfl
     have y2:wr.cell? ⟨gb,j * 12+2,none⟩=some (.int .i64 y.1.2.f.mn):=YB.cells hy (j:=2) rfl
     have y3:wr.cell? ⟨gb,j * 12+3,none⟩=some (.int .i64 y.1.2.f.mx):=YB.cells hy (j:=3) rfl
     have y4:wr.cell? ⟨gb,j * 12+4,none⟩=some (.slice y.1.2.f.rq y.1.2.f.rs.length y.1.2.f.rc):=YB.cells hy (j:=4) rfl
     have y5:wr.cell? ⟨gb,j * 12+5,none⟩=some (.slice y.1.2.f.kq y.1.2.f.kl y.1.2.f.kc):=YB.cells hy (j:=5) rfl
     have hxa:(pp [] a)[j]?=some x.1:=by rw [<- HEA.out,aAE,hx];rfl
     have hyb:(pp [] b)[j]?=some y.1:=by rw [<- HEB.out,aAE,hy];rfl
     have lga:ga < wr.heap.size:=(aH YA (g:=ga) rfl).2.1
     have lgb:gb < wr.heap.size:=(aH YB (g:=gb) rfl).2.1
     have BW:=aJ B8.out HBW.out lz9
     have TX:=(HA.out.at (i9 hxa)).node.ck (CK.of_below BW)
     have TY:=(HB.out.at (i9 hyb)).node.ck (CK.of_below BW)
     have klx:=TX.kl
     have kly:=TY.kl
     have SN:Hid (sig x.1.2=sig y.1.2->(sgs (pp [] a)).take (j+1)=(sgs (pp [] b)).take (j+1)):=fun h=>(by
      rw [o5,o5,HSG.out]
      simp only [sgs,aAE,hxa,hyb,Option.map_some]
      rw [h])
     have SD:Hid (sig x.1.2≠sig y.1.2->R=false):=fun h=>(by
      rw [HQ.out]
      cases hs:qJ (er a) (er b) with
      | false=>rfl
      | true=>
       exfalso
       have:=(sF a b).1 hs
       have h2:=congrArg (fun l=>l[j]?) this
       simp only [sgs,aAE,hxa,hyb,Option.map_some] at h2
       injection h2 with h2
       exact h h2)
     have SG:=aD (show sig x.1.2=sig y.1.2 ↔ x.1.2.f.k=y.1.2.f.k/\x.1.2.f.n=y.1.2.f.n/\x.1.2.f.mn=y.1.2.f.mn/\x.1.2.f.mx=y.1.2.f.mx/\x.1.2.f.rs=y.1.2.f.rs/\x.1.2.f.kl=y.1.2.f.kl by
      unfold sig
      rw [klx,kly]
      simp [Prod.ext_iff])
     obtain⟨⟨wa,ta⟩,oa⟩:=x
     obtain⟨⟨wb,tb⟩,ob⟩:=y
     dsimp only at *
     have TX':=aD TX
     have TY':=aD TY
     clear hx hy hxa hyb YA YB TX TY klx kly BW
     go_upto_region 10 with fail
     have K2:Below wr.heap.size wr ((wr.alloc (.cells #[.int .i64 ta.f.k,.int .i64 ta.f.n,.int .i64 ta.f.mn,.int .i64 ta.f.mx,.slice ta.f.rq ta.f.rs.length ta.f.rc,.slice ta.f.kq ta.f.kl ta.f.kc] 25)).alloc (.cells #[.int .i64 tb.f.k,.int .i64 tb.f.n,.int .i64 tb.f.mn,.int .i64 tb.f.mx,.slice tb.f.rq tb.f.rs.length tb.f.rc,.slice tb.f.kq tb.f.kl tb.f.kc] 25)):=(bz9).alloc (by simp) _
     have N8:Hid (BoxN ((wr.alloc (.cells #[.int .i64 ta.f.k,.int .i64 ta.f.n,.int .i64 ta.f.mn,.int .i64 ta.f.mx,.slice ta.f.rq ta.f.rs.length ta.f.rc,.slice ta.f.kq ta.f.kl ta.f.kc] 25)).alloc (.cells #[.int .i64 tb.f.k,.int .i64 tb.f.n,.int .i64 tb.f.mn,.int .i64 tb.f.mx,.slice tb.f.rq tb.f.rs.length tb.f.rc,.slice tb.f.kq tb.f.kl tb.f.kc] 25)) wr.heap.size ta.f):=(Below.heap_alloc _ _ _ (by simp)).trans (aE wr _)
     have N9:Hid (BoxN ((wr.alloc (.cells #[.int .i64 ta.f.k,.int .i64 ta.f.n,.int .i64 ta.f.mn,.int .i64 ta.f.mx,.slice ta.f.rq ta.f.rs.length ta.f.rc,.slice ta.f.kq ta.f.kl ta.f.kc] 25)).alloc (.cells #[.int .i64 tb.f.k,.int .i64 tb.f.n,.int .i64 tb.f.mn,.int .i64 tb.f.mx,.slice tb.f.rq tb.f.rs.length tb.f.rc,.slice tb.f.kq tb.f.kl tb.f.kc] 25)) (wr.heap.size+1) tb.f):=(by
      have:=aE (wr.alloc (.cells #[.int .i64 ta.f.k,.int .i64 ta.f.n,.int .i64 ta.f.mn,.int .i64 ta.f.mx,.slice ta.f.rq ta.f.rs.length ta.f.rc,.slice ta.f.kq ta.f.kl ta.f.kc] 25)) (.cells #[.int .i64 tb.f.k,.int .i64 tb.f.n,.int .i64 tb.f.mn,.int .i64 tb.f.mx,.slice tb.f.rq tb.f.rs.length tb.f.rc,.slice tb.f.kq tb.f.kl tb.f.kc] 25)
      rwa [a7] at this)
     have AK:=aD (xE (TX'.out.ck (CK.of_below K2)).r (TY'.out.ck (CK.of_below K2)).r)
     have HK2:=aD K2
     clear K2
     generalize ((wr.alloc (.cells #[.int .i64 ta.f.k,.int .i64 ta.f.n,.int .i64 ta.f.mn,.int .i64 ta.f.mx,.slice ta.f.rq ta.f.rs.length ta.f.rc,.slice ta.f.kq ta.f.kl ta.f.kc] 25)).alloc (.cells #[.int .i64 tb.f.k,.int .i64 tb.f.n,.int .i64 tb.f.mn,.int .i64 tb.f.mx,.slice tb.f.rq tb.f.rs.length tb.f.rc,.slice tb.f.kq tb.f.kl tb.f.kc] 25))=W2 at N8 N9 AK HK2 ⊢
     generalize wr.heap.size+1=b9 at N9 ⊢
     obtain⟨b8,hb8⟩:∃ b8,wr.heap.size=b8:=⟨_,rfl⟩
     rw [hb8] at N8 ⊢
     clear hb8
     have a4:W2.cell? ⟨b8,4,none⟩=some (.slice ta.f.rq ta.f.rs.length ta.f.rc):=N8.out.six.2.2.2.2.1
     have d4:W2.cell? ⟨b9,4,none⟩=some (.slice tb.f.rq tb.f.rs.length tb.f.rc):=N9.out.six.2.2.2.2.1
     obtain⟨rr,hrr⟩:∃ rr,decide (ta.f.rs=tb.f.rs)=rr:=⟨_,rfl⟩
     rw [hrr] at AK
     have HRR:=aD hrr
     clear hrr x0 x1 x2 x3 x4 x5 y0 y1 y2 y3 y4 y5
     go_upto_region 11 with (go_at_call 71;(with_reducible refine(AK.out).mono ?_);rintro e W3 ⟨rfl,h3⟩;have B3:=aD h3;have N8':=aD ((h3.block _ (aB N8.out)).trans N8.out);have N9':=aD ((h3.block _ (aB N9.out)).trans N9.out);clear h3)
     have HB4:=aD (aJ HBW.out (aJ HK2.out B3.out lz9) (by have:=HBW.out.size;omega))
     obtain⟨x0,x1,x2,x3,x4,x5⟩:=(show BoxN W3 b8 ta.f from N8'.out).six
     obtain⟨y0,y1,y2,y3,y4,y5⟩:=(show BoxN W3 b9 tb.f from N9'.out).six
     simp only [g8] at x1 x2 x3 x4 x5 y1 y2 y3 y4 y5
     clear a4 d4 N8 N9 AK HK2 B3 N8' N9'
     obtain⟨S,hS⟩:∃ S:Bool,(S=true ↔ sig ta=sig tb):=by
      by_cases h:sig ta=sig tb
      ·exact⟨true,⟨fun _=>h,fun _=>rfl⟩⟩
      ·exact⟨false,⟨fun z=>(by cases z),fun z=>absurd z h⟩⟩
     have HSS:=aD hS
     clear hS
     go_cut [84] (fun u wx=>u=.bool (!S)/\wx=W3)
     case first=>
      by_cases hk:ta.f.k=tb.f.k
      case neg=>
       have ek:(ta.f.k != tb.f.k)=true:=by simpa using hk
       have HF:=aD (show S=false from aBV.2 fun z0=>(fun z=>hk ((SG.out.1 z).1)) (HSS.out.1 z0))
       clear hk
       go_wp2
       go_meet
       exact⟨by rw [HF.out];rfl,rfl⟩
      have ek:(ta.f.k != tb.f.k)=false:=by simpa using hk
      have Hk9:=aD hk
      clear hk
      by_cases hn:ta.f.n=tb.f.n
      case neg=>
       have en:(ta.f.n != tb.f.n)=true:=by simpa using hn
       have HF:=aD (show S=false from aBV.2 fun z0=>(fun z=>hn ((SG.out.1 z).2.1)) (HSS.out.1 z0))
       clear hn
       go_wp2
       go_meet
       exact⟨by rw [HF.out];rfl,rfl⟩
      have en:(ta.f.n != tb.f.n)=false:=by simpa using hn
      have Hn9:=aD hn
      clear hn
      by_cases hm:ta.f.mn=tb.f.mn
      case neg=>
       have em:(ta.f.mn != tb.f.mn)=true:=by simpa using hm
       have HF:=aD (show S=false from aBV.2 fun z0=>(fun z=>hm ((SG.out.1 z).2.2.1)) (HSS.out.1 z0))
       clear hm
       go_wp2
       go_meet
       exact⟨by rw [HF.out];rfl,rfl⟩
      have em:(ta.f.mn != tb.f.mn)=false:=by simpa using hm
      have Hm9:=aD hm
      clear hm
      by_cases hx:ta.f.mx=tb.f.mx
      case neg=>
       have ex:(ta.f.mx != tb.f.mx)=true:=by simpa using hx
       have HF:=aD (show S=false from aBV.2 fun z0=>(fun z=>hx ((SG.out.1 z).2.2.2.1)) (HSS.out.1 z0))
       clear hx
       go_wp2
       go_meet
       exact⟨by rw [HF.out];rfl,rfl⟩
      have ex:(ta.f.mx != tb.f.mx)=false:=by simpa using hx
      have Hx9:=aD hx
      clear hx
      cases rr with
      | false=>
       have HF:=aD (show S=false from aBV.2 fun z0=>(fun z=>(of_decide_eq_false HRR.out) ((SG.out.1 z).2.2.2.2.1)) (HSS.out.1 z0))
       go_wp2
       go_meet
       exact⟨by rw [HF.out];rfl,rfl⟩
      | true=>
       by_cases hl:ta.f.kl=tb.f.kl
       ·have el:((ta.f.kl:Int) != (tb.f.kl:Int))=false:=by simp;omega
        have HF:=aD (show S=true from HSS.out.2 (SG.out.2 ⟨Hk9.out,Hn9.out,Hm9.out,Hx9.out,of_decide_eq_true HRR.out,hl⟩))
        clear hl
        go_wp2
        go_meet
        exact⟨by rw [HF.out];rfl,rfl⟩
       ·have el:((ta.f.kl:Int) != (tb.f.kl:Int))=true:=by simp;omega
        have HF:=aD (show S=false from aBV.2 fun z0=>(fun z=>hl ((SG.out.1 z).2.2.2.2.2)) (HSS.out.1 z0))
        clear hl
        go_wp2
        go_meet
        exact⟨by rw [HF.out];rfl,rfl⟩
     case rest=>
      obtain⟨rfl,hW⟩:=hcut
      subst hW
      cases S with
      | true=>
       have HN:=aD (SN.out (HSS.out.1 rfl))
       go_wp2
       go_roundw
       case rel=>exact⟨j+1,by omega,by go_num,HB4.out,HN.out⟩
       case measure=>simp only [intOf];omega
      | false=>
       have HF:=aD (SD.out fun z=>by have:=HSS.out.2 z;cases this)
       go_wp2
       go_ret
       exact⟨by rw [HF.out];rfl,aJ B8.out HB4.out lz9⟩
    ·have i0:¬ (j:Int) < (ZA.length:Int):=by omega
     have HF:=aD (show R=true by
      rw [HQ.out]
      refine(sF a b).2 ?_
      have h:=HSG.out
      have la:(sgs (pp [] a)).length=ZA.length:=by rw [<- HEA.out];simp [sgs]
      have lb:(sgs (pp [] b)).length=ZB.length:=by rw [<- HEB.out];simp [sgs]
      have:=HNE.out
      rwa [j9 (by omega),j9 (by omega)] at h)
     go_wp2
     go_ret
     exact⟨by rw [HF.out];rfl,aJ B8.out HBW.out lz9⟩
 ·have e0:((ZA.length:Int) != (ZB.length:Int))=true:=by simp;omega
  have HF:=aD (HR.out.symm.trans (aT9 (.inl (by rw [<- HZA.out,<- HZB.out];exact hne))))
  clear hne
  go_wp2
  go_ret
  exact⟨by rw [HF.out];rfl,B8.out⟩
theorem bK6(k:Int)(w:World):Calls Tryz.prog 115 #[.int .i64 k] w fun e w'=>e=.returned (.bool (cK k))/\w'=w:=by
 have hid:∀ b,cK k=b->Calls Tryz.prog 115 #[.int .i64 k] w fun e w'=>e=.returned (.bool b)/\w'=w:=by
  intro b hb
  by_cases h2:k=2
  ·have e2:(k==2)=true:=by simpa using h2
   have hB:b=true:=by rw [<- hb];simp [cK,h2]
   subst hB
   clear h2 hb
   go_enter Tryz.func115,Tryz.ntmps115
   go_wp2
   go_ret
   exact⟨rfl,rfl⟩
  have e2:(k==2)=false:=by simpa using h2
  by_cases h7:k=7
  ·have e7:(k==7)=true:=by simpa using h7
   have hB:b=true:=by rw [<- hb];simp [cK,h7]
   subst hB
   clear h2 h7 hb
   go_enter Tryz.func115,Tryz.ntmps115
   go_wp2
   go_ret
   exact⟨rfl,rfl⟩
  have e7:(k==7)=false:=by simpa using h7
  by_cases h8:k=8
  ·have e8:(k==8)=true:=by simpa using h8
   have hB:b=true:=by rw [<- hb];simp [cK,h8]
   subst hB
   clear h2 h7 h8 hb
   go_enter Tryz.func115,Tryz.ntmps115
   go_wp2
   go_ret
   exact⟨rfl,rfl⟩
  have e8:(k==8)=false:=by simpa using h8
  by_cases h9:k=9
  ·have e9:(k==9)=true:=by simpa using h9
   have hB:b=true:=by rw [<- hb];simp [cK,h9]
   subst hB
   clear h2 h7 h8 h9 hb
   go_enter Tryz.func115,Tryz.ntmps115
   go_wp2
   go_ret
   exact⟨rfl,rfl⟩
  have e9:(k==9)=false:=by simpa using h9
  have hB:b=false:=by rw [<- hb];simp [cK,h2,h7,h8,h9]
  subst hB
  clear h2 h7 h8 h9 hb
  go_enter Tryz.func115,Tryz.ntmps115
  go_wp2
  go_ret
  exact⟨rfl,rfl⟩
 exact hid _ rfl
theorem bD0(a b:Int)(w:World):Calls Tryz.prog 72 #[.int .i64 a,.int .i64 b] w fun e w'=>e=.returned (.bool (fU a b))/\w'=w:=by
 have hid:∀ r,fU a b=r->Calls Tryz.prog 72 #[.int .i64 a,.int .i64 b] w fun e w'=>e=.returned (.bool r)/\w'=w:=by
  intro r hr
  by_cases h1:(0:Int)<=a
  case neg=>
   have hB:r=false:=by rw [<- hr];simp [fU];omega
   subst hB
   clear hr
   go_enter Tryz.func72,Tryz.ntmps72
   go_wp2
   go_ret
   exact⟨rfl,rfl⟩
  by_cases h2:a<=255
  case neg=>
   have hB:r=false:=by rw [<- hr];simp [fU];omega
   subst hB
   clear hr
   go_enter Tryz.func72,Tryz.ntmps72
   go_wp2
   go_ret
   exact⟨rfl,rfl⟩
  by_cases h3:b=-1
  ·have e3:(b==-1)=true:=by simpa using h3
   have hB:r=true:=by rw [<- hr];simp [fU];omega
   subst hB
   clear hr
   go_enter Tryz.func72,Tryz.ntmps72
   go_wp2
   go_ret
   exact⟨rfl,rfl⟩
  have e3:(b==-1)=false:=by simpa using h3
  by_cases h4:a<=b
  case neg=>
   have hB:r=false:=by rw [<- hr];simp [fU];omega
   subst hB
   clear hr
   go_enter Tryz.func72,Tryz.ntmps72
   go_wp2
   go_ret
   exact⟨rfl,rfl⟩
  by_cases h5:b<=255
  case neg=>
   have hB:r=false:=by rw [<- hr];simp [fU];omega
   subst hB
   clear hr
   go_enter Tryz.func72,Tryz.ntmps72
   go_wp2
   go_ret
   exact⟨rfl,rfl⟩
  have hB:r=true:=by rw [<- hr];simp [fU];omega
  subst hB
  clear hr
  go_enter Tryz.func72,Tryz.ntmps72
  go_wp2
  go_ret
  exact⟨rfl,rfl⟩
 exact hid _ rfl
theorem aN8(F:Fl)(w:World):Calls Tryz.prog 68 #[.agg #[.int .i64 F.k,.int .i64 F.n,.int .i64 F.mn,.int .i64 F.mx,.slice F.rq F.rs.length F.rc,.slice F.kq F.kl F.kc],.bool false,.bool false,.bool false,.bool false] w fun e w'=>e=.returned (.bool (decide (F.n=0/\F.mn=0/\F.mx=0/\F.rs.length=0/\F.kl=0)))/\Below w.heap.size w w':=by
 have N1:BoxN (w.alloc (.cells #[.int .i64 F.k,.int .i64 F.n,.int .i64 F.mn,.int .i64 F.mx,.slice F.rq F.rs.length F.rc,.slice F.kq F.kl F.kc] 25)) w.heap.size F:=aE w _
 have B1:Hid (Below w.heap.size w (w.alloc (.cells #[.int .i64 F.k,.int .i64 F.n,.int .i64 F.mn,.int .i64 F.mx,.slice F.rq F.rs.length F.rc,.slice F.kq F.kl F.kc] 25))):=bz9
 obtain⟨c0,c1,c2,c3,c4,c5⟩:=N1.six
 simp only [g8] at c1 c2 c3 c4 c5
 clear N1
 have hid:∀ r,decide (F.n=0/\F.mn=0/\F.mx=0/\F.rs.length=0/\F.kl=0)=r->Calls Tryz.prog 68 #[.agg #[.int .i64 F.k,.int .i64 F.n,.int .i64 F.mn,.int .i64 F.mx,.slice F.rq F.rs.length F.rc,.slice F.kq F.kl F.kc],.bool false,.bool false,.bool false,.bool false] w fun e w'=>e=.returned (.bool r)/\Below w.heap.size w w':=by
  intro r hr0
  by_cases hn:F.n=0
  case neg=>
   have ehn:(F.n==0)=false:=i4.2 (by omega)
   have hB:r=false:=by rw [<- hr0];exact l8 (by omega)
   clear hn
   subst hB
   clear hr0
   go_enter Tryz.func68,Tryz.ntmps68
   go_wp2
   go_ret
   exact⟨rfl,B1.out⟩
  have ehn:(F.n==0)=true:=beq_iff_eq.2 (by omega)
  have Hhn:=aD hn
  clear hn
  by_cases hm:F.mn=0
  case neg=>
   have ehm:(F.mn==0)=false:=i4.2 (by omega)
   have hB:r=false:=by rw [<- hr0];exact l8 (by omega)
   clear hm
   subst hB
   clear hr0
   go_enter Tryz.func68,Tryz.ntmps68
   go_wp2
   go_ret
   exact⟨rfl,B1.out⟩
  have ehm:(F.mn==0)=true:=beq_iff_eq.2 (by omega)
  have Hhm:=aD hm
  clear hm
  by_cases hx:F.mx=0
  case neg=>
   have ehx:(F.mx==0)=false:=i4.2 (by omega)
   have hB:r=false:=by rw [<- hr0];exact l8 (by omega)
   clear hx
   subst hB
   clear hr0
   go_enter Tryz.func68,Tryz.ntmps68
   go_wp2
   go_ret
   exact⟨rfl,B1.out⟩
  have ehx:(F.mx==0)=true:=beq_iff_eq.2 (by omega)
  have Hhx:=aD hx
  clear hx
  by_cases hr:F.rs.length=0
  case neg=>
   have ehr:((F.rs.length:Int)==0)=false:=i4.2 (by omega)
   have hB:r=false:=by rw [<- hr0];exact l8 (by omega)
   clear hr
   subst hB
   clear hr0
   go_enter Tryz.func68,Tryz.ntmps68
   go_wp2
   go_ret
   exact⟨rfl,B1.out⟩
  have ehr:((F.rs.length:Int)==0)=true:=beq_iff_eq.2 (by omega)
  have Hhr:=aD hr
  clear hr
  by_cases hk:F.kl=0
  case neg=>
   have ehk:((F.kl:Int)==0)=false:=i4.2 (by omega)
   have hB:r=false:=by rw [<- hr0];exact l8 (by omega)
   clear hk
   subst hB
   clear hr0
   go_enter Tryz.func68,Tryz.ntmps68
   go_wp2
   go_ret
   exact⟨rfl,B1.out⟩
  have ehk:((F.kl:Int)==0)=true:=beq_iff_eq.2 (by omega)
  have Hhk:=aD hk
  clear hk
  have hB:r=true:=by rw [<- hr0];exact r8 (by have:=Hhn.out;have:=Hhm.out;have:=Hhx.out;have:=Hhr.out;have:=Hhk.out;omega)
  subst hB
  clear hr0
  go_enter Tryz.func68,Tryz.ntmps68
  go_wp2
  go_ret
  exact⟨rfl,B1.out⟩
 exact hid _ rfl
theorem aN6(F:Fl)(w:World):Calls Tryz.prog 68 #[.agg #[.int .i64 F.k,.int .i64 F.n,.int .i64 F.mn,.int .i64 F.mx,.slice F.rq F.rs.length F.rc,.slice F.kq F.kl F.kc],.bool false,.bool false,.bool true,.bool false] w fun e w'=>e=.returned (.bool (decide (F.n=0/\F.mn=0/\F.mx=0/\F.kl=0)))/\Below w.heap.size w w':=by
 have N1:BoxN (w.alloc (.cells #[.int .i64 F.k,.int .i64 F.n,.int .i64 F.mn,.int .i64 F.mx,.slice F.rq F.rs.length F.rc,.slice F.kq F.kl F.kc] 25)) w.heap.size F:=aE w _
 have B1:Hid (Below w.heap.size w (w.alloc (.cells #[.int .i64 F.k,.int .i64 F.n,.int .i64 F.mn,.int .i64 F.mx,.slice F.rq F.rs.length F.rc,.slice F.kq F.kl F.kc] 25))):=bz9
 obtain⟨c0,c1,c2,c3,c4,c5⟩:=N1.six
 simp only [g8] at c1 c2 c3 c4 c5
 clear N1
 have hid:∀ r,decide (F.n=0/\F.mn=0/\F.mx=0/\F.kl=0)=r->Calls Tryz.prog 68 #[.agg #[.int .i64 F.k,.int .i64 F.n,.int .i64 F.mn,.int .i64 F.mx,.slice F.rq F.rs.length F.rc,.slice F.kq F.kl F.kc],.bool false,.bool false,.bool true,.bool false] w fun e w'=>e=.returned (.bool r)/\Below w.heap.size w w':=by
  intro r hr0
  by_cases hn:F.n=0
  case neg=>
   have ehn:(F.n==0)=false:=i4.2 (by omega)
   have hB:r=false:=by rw [<- hr0];exact l8 (by omega)
   clear hn
   subst hB
   clear hr0
   go_enter Tryz.func68,Tryz.ntmps68
   go_wp2
   go_ret
   exact⟨rfl,B1.out⟩
  have ehn:(F.n==0)=true:=beq_iff_eq.2 (by omega)
  have Hhn:=aD hn
  clear hn
  by_cases hm:F.mn=0
  case neg=>
   have ehm:(F.mn==0)=false:=i4.2 (by omega)
   have hB:r=false:=by rw [<- hr0];exact l8 (by omega)
   clear hm
   subst hB
   clear hr0
   go_enter Tryz.func68,Tryz.ntmps68
   go_wp2
   go_ret
   exact⟨rfl,B1.out⟩
  have ehm:(F.mn==0)=true:=beq_iff_eq.2 (by omega)
  have Hhm:=aD hm
  clear hm
  by_cases hx:F.mx=0
  case neg=>
   have ehx:(F.mx==0)=false:=i4.2 (by omega)
   have hB:r=false:=by rw [<- hr0];exact l8 (by omega)
   clear hx
   subst hB
   clear hr0
   go_enter Tryz.func68,Tryz.ntmps68
   go_wp2
   go_ret
   exact⟨rfl,B1.out⟩
  have ehx:(F.mx==0)=true:=beq_iff_eq.2 (by omega)
  have Hhx:=aD hx
  clear hx
  by_cases hk:F.kl=0
  case neg=>
   have ehk:((F.kl:Int)==0)=false:=i4.2 (by omega)
   have hB:r=false:=by rw [<- hr0];exact l8 (by omega)
   clear hk
   subst hB
   clear hr0
   go_enter Tryz.func68,Tryz.ntmps68
   go_wp2
   go_ret
   exact⟨rfl,B1.out⟩
  have ehk:((F.kl:Int)==0)=true:=beq_iff_eq.2 (by omega)
  have Hhk:=aD hk
  clear hk
  have hB:r=true:=by rw [<- hr0];exact r8 (by have:=Hhn.out;have:=Hhm.out;have:=Hhx.out;have:=Hhk.out;omega)
  subst hB
  clear hr0
  go_enter Tryz.func68,Tryz.ntmps68
  go_wp2
  go_ret
  exact⟨rfl,B1.out⟩
 exact hid _ rfl
theorem aN7(F:Fl)(w:World):Calls Tryz.prog 68 #[.agg #[.int .i64 F.k,.int .i64 F.n,.int .i64 F.mn,.int .i64 F.mx,.slice F.rq F.rs.length F.rc,.slice F.kq F.kl F.kc],.bool false,.bool false,.bool false,.bool true] w fun e w'=>e=.returned (.bool (decide (F.n=0/\F.mn=0/\F.mx=0/\F.rs.length=0)))/\Below w.heap.size w w':=by
 have N1:BoxN (w.alloc (.cells #[.int .i64 F.k,.int .i64 F.n,.int .i64 F.mn,.int .i64 F.mx,.slice F.rq F.rs.length F.rc,.slice F.kq F.kl F.kc] 25)) w.heap.size F:=aE w _
 have B1:Hid (Below w.heap.size w (w.alloc (.cells #[.int .i64 F.k,.int .i64 F.n,.int .i64 F.mn,.int .i64 F.mx,.slice F.rq F.rs.length F.rc,.slice F.kq F.kl F.kc] 25))):=bz9
 obtain⟨c0,c1,c2,c3,c4,c5⟩:=N1.six
 simp only [g8] at c1 c2 c3 c4 c5
 clear N1
 have hid:∀ r,decide (F.n=0/\F.mn=0/\F.mx=0/\F.rs.length=0)=r->Calls Tryz.prog 68 #[.agg #[.int .i64 F.k,.int .i64 F.n,.int .i64 F.mn,.int .i64 F.mx,.slice F.rq F.rs.length F.rc,.slice F.kq F.kl F.kc],.bool false,.bool false,.bool false,.bool true] w fun e w'=>e=.returned (.bool r)/\Below w.heap.size w w':=by
  intro r hr0
  by_cases hn:F.n=0
  case neg=>
   have ehn:(F.n==0)=false:=i4.2 (by omega)
   have hB:r=false:=by rw [<- hr0];exact l8 (by omega)
   clear hn
   subst hB
   clear hr0
   go_enter Tryz.func68,Tryz.ntmps68
   go_wp2
   go_ret
   exact⟨rfl,B1.out⟩
  have ehn:(F.n==0)=true:=beq_iff_eq.2 (by omega)
  have Hhn:=aD hn
  clear hn
  by_cases hm:F.mn=0
  case neg=>
   have ehm:(F.mn==0)=false:=i4.2 (by omega)
   have hB:r=false:=by rw [<- hr0];exact l8 (by omega)
   clear hm
   subst hB
   clear hr0
   go_enter Tryz.func68,Tryz.ntmps68
   go_wp2
   go_ret
   exact⟨rfl,B1.out⟩
  have ehm:(F.mn==0)=true:=beq_iff_eq.2 (by omega)
  have Hhm:=aD hm
  clear hm
  by_cases hx:F.mx=0
  case neg=>
   have ehx:(F.mx==0)=false:=i4.2 (by omega)
   have hB:r=false:=by rw [<- hr0];exact l8 (by omega)
   clear hx
   subst hB
   clear hr0
   go_enter Tryz.func68,Tryz.ntmps68
   go_wp2
   go_ret
   exact⟨rfl,B1.out⟩
  have ehx:(F.mx==0)=true:=beq_iff_eq.2 (by omega)
  have Hhx:=aD hx
  clear hx
  by_cases hr:F.rs.length=0
  case neg=>
   have ehr:((F.rs.length:Int)==0)=false:=i4.2 (by omega)
   have hB:r=false:=by rw [<- hr0];exact l8 (by omega)
   clear hr
   subst hB
   clear hr0
   go_enter Tryz.func68,Tryz.ntmps68
   go_wp2
   go_ret
   exact⟨rfl,B1.out⟩
  have ehr:((F.rs.length:Int)==0)=true:=beq_iff_eq.2 (by omega)
  have Hhr:=aD hr
  clear hr
  have hB:r=true:=by rw [<- hr0];exact r8 (by have:=Hhn.out;have:=Hhm.out;have:=Hhx.out;have:=Hhr.out;omega)
  subst hB
  clear hr0
  go_enter Tryz.func68,Tryz.ntmps68
  go_wp2
  go_ret
  exact⟨rfl,B1.out⟩
 exact hid _ rfl
theorem aN3(F:Fl)(w:World):Calls Tryz.prog 68 #[.agg #[.int .i64 F.k,.int .i64 F.n,.int .i64 F.mn,.int .i64 F.mx,.slice F.rq F.rs.length F.rc,.slice F.kq F.kl F.kc],.bool true,.bool false,.bool false,.bool true] w fun e w'=>e=.returned (.bool (decide (F.mn=0/\F.mx=0/\F.rs.length=0)))/\Below w.heap.size w w':=by
 have N1:BoxN (w.alloc (.cells #[.int .i64 F.k,.int .i64 F.n,.int .i64 F.mn,.int .i64 F.mx,.slice F.rq F.rs.length F.rc,.slice F.kq F.kl F.kc] 25)) w.heap.size F:=aE w _
 have B1:Hid (Below w.heap.size w (w.alloc (.cells #[.int .i64 F.k,.int .i64 F.n,.int .i64 F.mn,.int .i64 F.mx,.slice F.rq F.rs.length F.rc,.slice F.kq F.kl F.kc] 25))):=bz9
 obtain⟨c0,c1,c2,c3,c4,c5⟩:=N1.six
 simp only [g8] at c1 c2 c3 c4 c5
 clear N1
 have hid:∀ r,decide (F.mn=0/\F.mx=0/\F.rs.length=0)=r->Calls Tryz.prog 68 #[.agg #[.int .i64 F.k,.int .i64 F.n,.int .i64 F.mn,.int .i64 F.mx,.slice F.rq F.rs.length F.rc,.slice F.kq F.kl F.kc],.bool true,.bool false,.bool false,.bool true] w fun e w'=>e=.returned (.bool r)/\Below w.heap.size w w':=by
  intro r hr0
  by_cases hm:F.mn=0
  case neg=>
   have ehm:(F.mn==0)=false:=i4.2 (by omega)
   have hB:r=false:=by rw [<- hr0];exact l8 (by omega)
   clear hm
   subst hB
   clear hr0
   go_enter Tryz.func68,Tryz.ntmps68
   go_wp2
   go_ret
   exact⟨rfl,B1.out⟩
  have ehm:(F.mn==0)=true:=beq_iff_eq.2 (by omega)
  have Hhm:=aD hm
  clear hm
  by_cases hx:F.mx=0
  case neg=>
   have ehx:(F.mx==0)=false:=i4.2 (by omega)
   have hB:r=false:=by rw [<- hr0];exact l8 (by omega)
   clear hx
   subst hB
   clear hr0
   go_enter Tryz.func68,Tryz.ntmps68
   go_wp2
   go_ret
   exact⟨rfl,B1.out⟩
  have ehx:(F.mx==0)=true:=beq_iff_eq.2 (by omega)
  have Hhx:=aD hx
  clear hx
  by_cases hr:F.rs.length=0
  case neg=>
   have ehr:((F.rs.length:Int)==0)=false:=i4.2 (by omega)
   have hB:r=false:=by rw [<- hr0];exact l8 (by omega)
   clear hr
   subst hB
   clear hr0
   go_enter Tryz.func68,Tryz.ntmps68
   go_wp2
   go_ret
   exact⟨rfl,B1.out⟩
  have ehr:((F.rs.length:Int)==0)=true:=beq_iff_eq.2 (by omega)
  have Hhr:=aD hr
  clear hr
  have hB:r=true:=by rw [<- hr0];exact r8 (by have:=Hhm.out;have:=Hhx.out;have:=Hhr.out;omega)
  subst hB
  clear hr0
  go_enter Tryz.func68,Tryz.ntmps68
  go_wp2
  go_ret
  exact⟨rfl,B1.out⟩
 exact hid _ rfl
theorem aN4(F:Fl)(w:World):Calls Tryz.prog 68 #[.agg #[.int .i64 F.k,.int .i64 F.n,.int .i64 F.mn,.int .i64 F.mx,.slice F.rq F.rs.length F.rc,.slice F.kq F.kl F.kc],.bool true,.bool false,.bool false,.bool false] w fun e w'=>e=.returned (.bool (decide (F.mn=0/\F.mx=0/\F.rs.length=0/\F.kl=0)))/\Below w.heap.size w w':=by
 have N1:BoxN (w.alloc (.cells #[.int .i64 F.k,.int .i64 F.n,.int .i64 F.mn,.int .i64 F.mx,.slice F.rq F.rs.length F.rc,.slice F.kq F.kl F.kc] 25)) w.heap.size F:=aE w _
 have B1:Hid (Below w.heap.size w (w.alloc (.cells #[.int .i64 F.k,.int .i64 F.n,.int .i64 F.mn,.int .i64 F.mx,.slice F.rq F.rs.length F.rc,.slice F.kq F.kl F.kc] 25))):=bz9
 obtain⟨c0,c1,c2,c3,c4,c5⟩:=N1.six
 simp only [g8] at c1 c2 c3 c4 c5
 clear N1
 have hid:∀ r,decide (F.mn=0/\F.mx=0/\F.rs.length=0/\F.kl=0)=r->Calls Tryz.prog 68 #[.agg #[.int .i64 F.k,.int .i64 F.n,.int .i64 F.mn,.int .i64 F.mx,.slice F.rq F.rs.length F.rc,.slice F.kq F.kl F.kc],.bool true,.bool false,.bool false,.bool false] w fun e w'=>e=.returned (.bool r)/\Below w.heap.size w w':=by
  intro r hr0
  by_cases hm:F.mn=0
  case neg=>
   have ehm:(F.mn==0)=false:=i4.2 (by omega)
   have hB:r=false:=by rw [<- hr0];exact l8 (by omega)
   clear hm
   subst hB
   clear hr0
   go_enter Tryz.func68,Tryz.ntmps68
   go_wp2
   go_ret
   exact⟨rfl,B1.out⟩
  have ehm:(F.mn==0)=true:=beq_iff_eq.2 (by omega)
  have Hhm:=aD hm
  clear hm
  by_cases hx:F.mx=0
  case neg=>
   have ehx:(F.mx==0)=false:=i4.2 (by omega)
   have hB:r=false:=by rw [<- hr0];exact l8 (by omega)
   clear hx
   subst hB
   clear hr0
   go_enter Tryz.func68,Tryz.ntmps68
   go_wp2
   go_ret
   exact⟨rfl,B1.out⟩
  have ehx:(F.mx==0)=true:=beq_iff_eq.2 (by omega)
  have Hhx:=aD hx
  clear hx
  by_cases hr:F.rs.length=0
  case neg=>
   have ehr:((F.rs.length:Int)==0)=false:=i4.2 (by omega)
   have hB:r=false:=by rw [<- hr0];exact l8 (by omega)
   clear hr
   subst hB
   clear hr0
   go_enter Tryz.func68,Tryz.ntmps68
   go_wp2
   go_ret
   exact⟨rfl,B1.out⟩
  have ehr:((F.rs.length:Int)==0)=true:=beq_iff_eq.2 (by omega)
  have Hhr:=aD hr
  clear hr
  by_cases hk:F.kl=0
  case neg=>
   have ehk:((F.kl:Int)==0)=false:=i4.2 (by omega)
   have hB:r=false:=by rw [<- hr0];exact l8 (by omega)
   clear hk
   subst hB
   clear hr0
   go_enter Tryz.func68,Tryz.ntmps68
   go_wp2
   go_ret
   exact⟨rfl,B1.out⟩
  have ehk:((F.kl:Int)==0)=true:=beq_iff_eq.2 (by omega)
  have Hhk:=aD hk
  clear hk
  have hB:r=true:=by rw [<- hr0];exact r8 (by have:=Hhm.out;have:=Hhx.out;have:=Hhr.out;have:=Hhk.out;omega)
  subst hB
  clear hr0
  go_enter Tryz.func68,Tryz.ntmps68
  go_wp2
  go_ret
  exact⟨rfl,B1.out⟩
 exact hid _ rfl
theorem aN5(F:Fl)(w:World):Calls Tryz.prog 68 #[.agg #[.int .i64 F.k,.int .i64 F.n,.int .i64 F.mn,.int .i64 F.mx,.slice F.rq F.rs.length F.rc,.slice F.kq F.kl F.kc],.bool false,.bool true,.bool false,.bool true] w fun e w'=>e=.returned (.bool (decide (F.n=0/\F.rs.length=0)))/\Below w.heap.size w w':=by
 have N1:BoxN (w.alloc (.cells #[.int .i64 F.k,.int .i64 F.n,.int .i64 F.mn,.int .i64 F.mx,.slice F.rq F.rs.length F.rc,.slice F.kq F.kl F.kc] 25)) w.heap.size F:=aE w _
 have B1:Hid (Below w.heap.size w (w.alloc (.cells #[.int .i64 F.k,.int .i64 F.n,.int .i64 F.mn,.int .i64 F.mx,.slice F.rq F.rs.length F.rc,.slice F.kq F.kl F.kc] 25))):=bz9
 obtain⟨c0,c1,c2,c3,c4,c5⟩:=N1.six
 simp only [g8] at c1 c2 c3 c4 c5
 clear N1
 have hid:∀ r,decide (F.n=0/\F.rs.length=0)=r->Calls Tryz.prog 68 #[.agg #[.int .i64 F.k,.int .i64 F.n,.int .i64 F.mn,.int .i64 F.mx,.slice F.rq F.rs.length F.rc,.slice F.kq F.kl F.kc],.bool false,.bool true,.bool false,.bool true] w fun e w'=>e=.returned (.bool r)/\Below w.heap.size w w':=by
  intro r hr0
  by_cases hn:F.n=0
  case neg=>
   have ehn:(F.n==0)=false:=i4.2 (by omega)
   have hB:r=false:=by rw [<- hr0];exact l8 (by omega)
   clear hn
   subst hB
   clear hr0
   go_enter Tryz.func68,Tryz.ntmps68
   go_wp2
   go_ret
   exact⟨rfl,B1.out⟩
  have ehn:(F.n==0)=true:=beq_iff_eq.2 (by omega)
  have Hhn:=aD hn
  clear hn
  by_cases hr:F.rs.length=0
  case neg=>
   have ehr:((F.rs.length:Int)==0)=false:=i4.2 (by omega)
   have hB:r=false:=by rw [<- hr0];exact l8 (by omega)
   clear hr
   subst hB
   clear hr0
   go_enter Tryz.func68,Tryz.ntmps68
   go_wp2
   go_ret
   exact⟨rfl,B1.out⟩
  have ehr:((F.rs.length:Int)==0)=true:=beq_iff_eq.2 (by omega)
  have Hhr:=aD hr
  clear hr
  have hB:r=true:=by rw [<- hr0];exact r8 (by have:=Hhn.out;have:=Hhr.out;omega)
  subst hB
  clear hr0
  go_enter Tryz.func68,Tryz.ntmps68
  go_wp2
  go_ret
  exact⟨rfl,B1.out⟩
 exact hid _ rfl
theorem bB7(p:Way)(t:Tr)(o:Nat)(w:World):Calls Tryz.prog 67 #[.agg #[.int .i64 t.f.k,.int .i64 t.f.n,.int .i64 t.f.mn,.int .i64 t.f.mx,.slice t.f.rq t.f.rs.length t.f.rc,.slice t.f.kq t.f.kl t.f.kc,.int .i64 ((p.length:Int)+1),.int .i64 (arP p),.bool (fiP p),.bool (laP p),.bool (brP p),.int .i64 (o:Int)]] w fun e w'=>e=.returned (.bool (mP p t.f.k))/\Below w.heap.size w w':=by
 have N1:(w.alloc (.cells #[.int .i64 t.f.k,.int .i64 t.f.n,.int .i64 t.f.mn,.int .i64 t.f.mx,.slice t.f.rq t.f.rs.length t.f.rc,.slice t.f.kq t.f.kl t.f.kc,.int .i64 ((p.length:Int)+1),.int .i64 (arP p),.bool (fiP p),.bool (laP p),.bool (brP p),.int .i64 (o:Int)] 65)).heap[w.heap.size]?=some (.cells #[.int .i64 t.f.k,.int .i64 t.f.n,.int .i64 t.f.mn,.int .i64 t.f.mx,.slice t.f.rq t.f.rs.length t.f.rc,.slice t.f.kq t.f.kl t.f.kc,.int .i64 ((p.length:Int)+1),.int .i64 (arP p),.bool (fiP p),.bool (laP p),.bool (brP p),.int .i64 (o:Int)] 65 (0,0)):=aE w _
 have B1:Hid (Below w.heap.size w (w.alloc (.cells #[.int .i64 t.f.k,.int .i64 t.f.n,.int .i64 t.f.mn,.int .i64 t.f.mx,.slice t.f.rq t.f.rs.length t.f.rc,.slice t.f.kq t.f.kl t.f.kc,.int .i64 ((p.length:Int)+1),.int .i64 (arP p),.bool (fiP p),.bool (laP p),.bool (brP p),.int .i64 (o:Int)] 65))):=bz9
 have hid:∀ (k ar:Int) (fi la br:Bool) (r:Bool),(if ar=5 then (if k=3 then br && fi else if k=4 then br && la else cK k) else if ar=9 then cK k else if ar=6 then k != 6 else true)=r->(w.alloc (.cells #[.int .i64 t.f.k,.int .i64 t.f.n,.int .i64 t.f.mn,.int .i64 t.f.mx,.slice t.f.rq t.f.rs.length t.f.rc,.slice t.f.kq t.f.kl t.f.kc,.int .i64 ((p.length:Int)+1),.int .i64 (arP p),.bool (fiP p),.bool (laP p),.bool (brP p),.int .i64 (o:Int)] 65)).cell? ⟨w.heap.size,0,none⟩=some (.int .i64 k)->(w.alloc (.cells #[.int .i64 t.f.k,.int .i64 t.f.n,.int .i64 t.f.mn,.int .i64 t.f.mx,.slice t.f.rq t.f.rs.length t.f.rc,.slice t.f.kq t.f.kl t.f.kc,.int .i64 ((p.length:Int)+1),.int .i64 (arP p),.bool (fiP p),.bool (laP p),.bool (brP p),.int .i64 (o:Int)] 65)).cell? ⟨w.heap.size,7,none⟩=some (.int .i64 ar)->(w.alloc (.cells #[.int .i64 t.f.k,.int .i64 t.f.n,.int .i64 t.f.mn,.int .i64 t.f.mx,.slice t.f.rq t.f.rs.length t.f.rc,.slice t.f.kq t.f.kl t.f.kc,.int .i64 ((p.length:Int)+1),.int .i64 (arP p),.bool (fiP p),.bool (laP p),.bool (brP p),.int .i64 (o:Int)] 65)).cell? ⟨w.heap.size,8,none⟩=some (.bool fi)->(w.alloc (.cells #[.int .i64 t.f.k,.int .i64 t.f.n,.int .i64 t.f.mn,.int .i64 t.f.mx,.slice t.f.rq t.f.rs.length t.f.rc,.slice t.f.kq t.f.kl t.f.kc,.int .i64 ((p.length:Int)+1),.int .i64 (arP p),.bool (fiP p),.bool (laP p),.bool (brP p),.int .i64 (o:Int)] 65)).cell? ⟨w.heap.size,9,none⟩=some (.bool la)->(w.alloc (.cells #[.int .i64 t.f.k,.int .i64 t.f.n,.int .i64 t.f.mn,.int .i64 t.f.mx,.slice t.f.rq t.f.rs.length t.f.rc,.slice t.f.kq t.f.kl t.f.kc,.int .i64 ((p.length:Int)+1),.int .i64 (arP p),.bool (fiP p),.bool (laP p),.bool (brP p),.int .i64 (o:Int)] 65)).cell? ⟨w.heap.size,10,none⟩=some (.bool br)->Calls Tryz.prog 67 #[.agg #[.int .i64 t.f.k,.int .i64 t.f.n,.int .i64 t.f.mn,.int .i64 t.f.mx,.slice t.f.rq t.f.rs.length t.f.rc,.slice t.f.kq t.f.kl t.f.kc,.int .i64 ((p.length:Int)+1),.int .i64 (arP p),.bool (fiP p),.bool (laP p),.bool (brP p),.int .i64 (o:Int)]] w fun e w'=>e=.returned (.bool r)/\Below w.heap.size w w':=by
  intro k ar fi la br r hr x0 x7 x8 x9 x10
  have TH:=aD (fun W=>bK6 k W)
  obtain⟨th,hth⟩:∃ th,cK k=th:=⟨_,rfl⟩
  rw [hth] at TH hr
  clear N1 hth
  by_cases a5:ar=5
  ·by_cases k3:k=3
   ·have e5:(ar==5)=true:=by simpa using a5
    have e3:(k==3)=true:=by simpa using k3
    rw [if_pos a5,if_pos k3] at hr
    clear a5 k3
    cases br <;> cases fi
    all_goals (subst hr;go_enter Tryz.func67,Tryz.ntmps67;go_wp2_with (go_at_call 115;(with_reducible refine(TH.out _).mono ?_);rintro e w5 ⟨rfl,h5⟩;subst w5);go_ret;exact⟨rfl,B1.out⟩)
   by_cases k4:k=4
   ·have e5:(ar==5)=true:=by simpa using a5
    have e3:(k==3)=false:=by simpa using k3
    have e4:(k==4)=true:=by simpa using k4
    rw [if_pos a5,if_neg k3,if_pos k4] at hr
    clear a5 k3 k4
    cases br <;> cases la
    all_goals (subst hr;go_enter Tryz.func67,Tryz.ntmps67;go_wp2_with (go_at_call 115;(with_reducible refine(TH.out _).mono ?_);rintro e w5 ⟨rfl,h5⟩;subst w5);go_ret;exact⟨rfl,B1.out⟩)
   have e5:(ar==5)=true:=by simpa using a5
   have e3:(k==3)=false:=by simpa using k3
   have e4:(k==4)=false:=by simpa using k4
   rw [if_pos a5,if_neg k3,if_neg k4] at hr
   clear a5 k3 k4
   subst hr
   go_enter Tryz.func67,Tryz.ntmps67
   go_wp2_with (go_at_call 115;(with_reducible refine(TH.out _).mono ?_);rintro e w5 ⟨rfl,h5⟩;subst w5)
   go_ret
   exact⟨rfl,B1.out⟩
  have e5:(ar==5)=false:=by simpa using a5
  rw [if_neg a5] at hr
  by_cases a9:ar=9
  ·have e9:(ar==9)=true:=by simpa using a9
   rw [if_pos a9] at hr
   clear a5 a9
   subst hr
   go_enter Tryz.func67,Tryz.ntmps67
   go_wp2_with (go_at_call 115;(with_reducible refine(TH.out _).mono ?_);rintro e w5 ⟨rfl,h5⟩;subst w5)
   go_ret
   exact⟨rfl,B1.out⟩
  have e9:(ar==9)=false:=by simpa using a9
  rw [if_neg a9] at hr
  by_cases a6:ar=6
  ·have e6:(ar==6)=true:=by simpa using a6
   rw [if_pos a6] at hr
   clear a5 a9 a6
   subst hr
   go_enter Tryz.func67,Tryz.ntmps67
   go_wp2_with (go_at_call 115;(with_reducible refine(TH.out _).mono ?_);rintro e w5 ⟨rfl,h5⟩;subst w5)
   go_ret
   exact⟨rfl,B1.out⟩
  have e6:(ar==6)=false:=by simpa using a6
  rw [if_neg a6] at hr
  clear a5 a9 a6
  subst hr
  go_enter Tryz.func67,Tryz.ntmps67
  go_wp2_with (go_at_call 115;(with_reducible refine(TH.out _).mono ?_);rintro e w5 ⟨rfl,h5⟩;subst w5)
  go_ret
  exact⟨rfl,B1.out⟩
 exact hid t.f.k (arP p) (fiP p) (laP p) (brP p) _ rfl (aA N1 (i:=0) rfl) (aA N1 (i:=7) rfl) (aA N1 (i:=8) rfl) (aA N1 (i:=9) rfl) (aA N1 (i:=10) rfl)
structure Srt(S:List (Int × Int)):Prop where
 some:∀ r∈S,r.1<=r.2
 rise:S.Pairwise (fun a b=>a.1<=b.1)
theorem wG:Srt []:=⟨fun _ h=>(by cases h),List.Pairwise.nil⟩
theorem yG{r:Int × Int}{L:List (Int × Int)}(h:Srt (r :: L)):Srt L:=⟨fun x hx=>h.some x (n6 _ hx),(aBM.1 h.rise).2⟩
theorem wH{O L:List (Int × Int)}(h:Srt O)(k:Srt L)(hx:∀ x∈O,∀ y∈L,x.1<=y.1):Srt (O ++ L):=
 ⟨fun r hr=>(n9.1 hr).elim (h.some r) (k.some r),List.pairwise_append.2 ⟨h.rise,k.rise,hx⟩⟩
theorem wF{r:Int × Int}(h:r.1<=r.2):Srt [r]:=⟨fun x hx=>by simp at hx;subst hx;exact h,List.pairwise_singleton _ _⟩
structure MI(A B A' B' O:List (Int × Int)):Prop where
 out:Srt O
 a:Srt A'
 b:Srt B'
 mem:∀ c,(In O c\/In A' c\/In B' c) ↔ (In A c\/In B c)
 le:∀ x∈O,∀ y,y∈A'\/y∈B'->x.1<=y.1
 fit:Fit O/\Fit A'/\Fit B'
 len:O.length+A'.length+B'.length<=A.length+B.length
theorem MI.start{A B:List (Int × Int)}(ha:Srt A)(hb:Srt B)(fa:Fit A)(fb:Fit B):MI A B A B []:=
 ⟨wG,ha,hb,fun c=>⟨fun q=>q.elim (fun q=>absurd q (iA c)) id,.inr⟩,fun _ h=>(by cases h),⟨kX,fa,fb⟩,by simp⟩
theorem MI.right{A B A' B' O:List (Int × Int)}{a b:Int × Int}(I:MI A B (a :: A') (b :: B') O)(h:b.1 < a.1):MI A B (a :: A') B' (O ++ [b]):=by
 refine⟨wH I.out (wF (I.b.some b (by simp))) (fun x hx y hy=>by simp at hy;subst hy;exact I.le x hx y (.inr (by simp))),I.a,yG I.b,fun c=>?_,fun x hx y hy=>?_,⟨eA I.fit.1 (gI I.fit.2.2 fun z hz=>by simp at hz;subst hz;simp),I.fit.2.1,gI I.fit.2.2 fun z hz=>n6 _ hz⟩,by have:=I.len;simp at *;omega⟩
 ·rw [<- I.mem,cH,eK,cQ b B']
  constructor
  ·rintro ((q | q) | q | q)
   ·exact .inl q
   ·exact .inr (.inr (.inl q))
   ·exact .inr (.inl q)
   ·exact .inr (.inr (.inr q))
  ·rintro (q | q | q | q)
   ·exact .inl (.inl q)
   ·exact .inr (.inl q)
   ·exact .inl (.inr q)
   ·exact .inr (.inr q)
 ·rcases n9.1 hx with hx | hx
  ·exact I.le x hx y (hy.elim .inl fun q=>.inr (n6 _ q))
  ·simp at hx
   subst hx
   rcases hy with hy | hy
   ·rcases aAW.1 hy with rfl | hy
    ·omega
    ·have:=(aBM.1 I.a.rise).1 y hy;omega
   ·exact(aBM.1 I.b.rise).1 y hy
theorem MI.left{A B A' B' O:List (Int × Int)}{a:Int × Int}(I:MI A B (a :: A') B' O)(h:∀ b∈B',a.1<=b.1):MI A B A' B' (O ++ [a]):=by
 refine⟨wH I.out (wF (I.a.some a (by simp))) (fun x hx y hy=>by simp at hy;subst hy;exact I.le x hx y (.inl (by simp))),yG I.a,I.b,fun c=>?_,fun x hx y hy=>?_,⟨eA I.fit.1 (gI I.fit.2.1 fun z hz=>by simp at hz;subst hz;simp),gI I.fit.2.1 fun z hz=>n6 _ hz,I.fit.2.2⟩,by have:=I.len;simp at *;omega⟩
 ·rw [<- I.mem,cH,eK,cQ a A']
  constructor
  ·rintro ((q | q) | q | q)
   ·exact .inl q
   ·exact .inr (.inl (.inl q))
   ·exact .inr (.inl (.inr q))
   ·exact .inr (.inr q)
  ·rintro (q |(q | q) | q)
   ·exact .inl (.inl q)
   ·exact .inl (.inr q)
   ·exact .inr (.inl q)
   ·exact .inr (.inr q)
 ·rcases n9.1 hx with hx | hx
  ·exact I.le x hx y (hy.elim (fun q=>.inl (n6 _ q)) .inr)
  ·simp at hx
   subst hx
   rcases hy with hy | hy
   ·exact(aBM.1 I.a.rise).1 y hy
   ·exact h y hy
theorem MI.done{A B B' O:List (Int × Int)}(I:MI A B [] B' O):Srt (O ++ B')/\(∀ c,In (O ++ B') c ↔ (In A c\/In B c))/\Fit (O ++ B')/\(O ++ B').length<=A.length+B.length:=by
 refine⟨wH I.out I.b fun x hx y hy=>I.le x hx y (.inr hy),fun c=>?_,eA I.fit.1 I.fit.2.2,by have:=I.len;simp at *;omega⟩
 rw [<- I.mem,cH]
 exact⟨fun q=>q.elim .inl fun q=>.inr (.inr q),fun q=>q.elim .inl fun q=>q.elim (fun q=>absurd q (iA c)) .inr⟩
def tF(w:World)(L:List (Int × Int))(e:Ending)(w':World):Prop:=∃ v S,e=.returned v/\RR w.heap.size w' v S/\Srt S/\Fit S/\(∀ c,In S c ↔ In L c)/\S.length<=L.length/\Below w.heap.size w w'
theorem ArgR.take{W:World}{g off n cap:Nat}{L:List (Int × Int)}(h:ArgR W (.slice (some ⟨g,off,none⟩) n cap) L){k:Nat}(hk:k<=L.length):ArgR W (.slice (some ⟨g,off,none⟩) k cap) (L.take k):=by
 have hl:(L.take k).length=k:=by simp;omega
 rcases h with⟨p,c,e,rfl,e2⟩ | ⟨g',off',cap',e,h2,h3,h4,h5⟩
 ·simp at hk
  subst hk
  cases e
  exact .inl ⟨_,_,rfl,rfl,fun q=>by cases q⟩
 ·cases e
  refine .inr ⟨g,off,cap,by rw [hl],h2,by omega,h4,fun i r hi=>h5 i r ?_⟩
  rw [List.getElem?_take] at hi
  split at hi
  ·exact hi
  ·cases hi
theorem ArgR.drop{W:World}{g off n cap:Nat}{L:List (Int × Int)}(h:ArgR W (.slice (some ⟨g,off,none⟩) n cap) L){k:Nat}(hk:k < L.length):ArgR W (.slice (some ⟨g,off+k * 2,none⟩) (n - k) (cap - k)) (L.drop k):=by
 rcases h with⟨p,c,e,rfl,e2⟩ | ⟨g',off',cap',e,h2,h3,h4,h5⟩
 ·simp at hk
 ·cases e
  refine .inr ⟨g,off+k * 2,cap - k,by simp,h2,by simp;omega,by omega,fun i r hi=>?_⟩
  rw [List.getElem?_drop] at hi
  have:=h5 (k+i) r hi
  rw [show off+k * 2+2 * i=off+2 * (k+i) by omega]
  exact this
theorem aO9(L:List (Int × Int))(k:Nat)(c:Int):(In (L.take k) c\/In (L.drop k) c) ↔ In L c:=by rw [<- cH,aBG]
section
attribute [local go_sem] bB
theorem oB{w:World}{v:Value}{L:List (Int × Int)}(h:ArgR w v L)(hF:Fit L)(hn:L.length<=1):Calls Tryz.prog 143 #[v] w (tF w L):=by
 obtain⟨t0,ti,hz0,hz1,hz2⟩:=bH cY
 cases L with
 | nil=>
  obtain⟨q,cap,e,-,-,-⟩:=h.slice
  subst e
  clear h
  go_enter Tryz.func143,Tryz.ntmps143
  go_wp2
  go_ret
  exact⟨_,[],rfl,RR.nil _ _,wG,kX,fun _=>Iff.rfl,n8 _,Below.refl _ _⟩
 | cons r L'=>
  obtain rfl:L'=[]:=o3 (by simpa using hn)
  obtain⟨g,off,cap,rfl,hg,hn1,hm1,x1,x2⟩:=h.cons
  have HF:Hid (Fit [r]):=hF
  clear h hF
  obtain⟨lo,hi⟩:=r
  dsimp only [List.length_nil] at x1 x2 hn1 ⊢
  have W1:Hid (w=w):=rfl
  by_cases hq:lo<=hi
  ·have dq:decide (lo<=hi)=true:=r8 hq
   have HQ:Hid (lo<=hi):=hq
   go_enter Tryz.func143,Tryz.ntmps143
   go_wp2
   refine wx9 ?_
   repeat (go_big_quiet_step (first | exact rfl))
   refine wpQuiet_nil ?_
   intro w7 hw7
   have B7:Hid (Below w.heap.size w w7):=aQ hw7
   have c1:=(B7.out.cell (p:=⟨g,off,none⟩) hg).trans x1
   have c2:=(B7.out.cell (p:=⟨g,off+1,none⟩) hg).trans x2
   have hz7:=B7.out.size
   clear hw7 x1 x2
   go_wp2_with (at_builtin;refine wpList_append_own_at _ rfl _ _ 22 rfl w.heap.size 110 t0 (.agg #[.int .i64 0,.int .i64 0]) 2 16 bM ti hz0 hz1 hz2 rfl (by decide) (.slice none 0 0) 0 (aS []) rfl (RR.nil _ _) ⟨w7.heap.size,0,none⟩ 1 1 [.int .i64 lo,.int .i64 hi] rfl rfl (lF _ _ _ _) (by simp [Value.oneCell']) (by unfold maxLen;omega) (by omega) (by simp;omega) ?_;intro v' w6 hown' hgrow _ hblk;obtain⟨g6,cap6,rfl⟩:=aL hown' (aAC _);have A6:Hid (RR w.heap.size w6 (.slice (some ⟨g6,0,none⟩) 1 cap6) [(lo,hi)]):=hown';have B6:Hid (Below w.heap.size w w6):=dC (t:=110) (size:=2) (n:=0) (xs:=[]) (B7.out.alloc hz7 _) (RR.nil _ _) hgrow;clear hown' hgrow hblk)
   go_ret
   exact⟨_,[(lo,hi)],rfl,A6.out,wF HQ.out,HF.out,fun _=>Iff.rfl,n8 _,B6.out⟩
  ·have dq:decide (lo<=hi)=false:=l8 hq
   have HQ:Hid (¬ lo<=hi):=hq
   go_enter Tryz.func143,Tryz.ntmps143
   go_wp2
   refine wx9 ?_
   repeat (go_big_quiet_step (first | exact rfl))
   refine wpQuiet_nil ?_
   intro w7 hw7
   have B7:Hid (Below w.heap.size w w7):=aQ hw7
   clear hw7
   go_wp2
   go_ret
   exact⟨_,[],rfl,RR.nil _ _,wG,kX,fun c=>⟨fun q=>absurd q (iA c),fun q=>by rw [eK] at q;have:=HQ.out;simp only at q;omega⟩,by simp,B7.out⟩
theorem yH{w:World}{v:Value}{L:List (Int × Int)}(ih:∀ (w:World) (v:Value) (L':List (Int × Int)),L'.length < L.length->ArgR w v L'->Fit L'->Calls Tryz.prog 143 #[v] w (tF w L'))(h:ArgR w v L)(hF:Fit L)(hn:1 < L.length)(hl:L.length+1<=8796093022208):Calls Tryz.prog 143 #[v] w (tF w L):=by
 obtain⟨t0,ti,hz0,hz1,hz2⟩:=bH cY
 obtain⟨q,cap,e,-,hcap,hcells⟩:=h.slice
 subst e
 obtain⟨g,off,rfl,hg,-,-⟩:=hcells 0 _ (g9 (by omega))
 obtain⟨k,hk⟩:∃ k,L.length / 2=k:=⟨_,rfl⟩
 have hk1:0 < k:=by omega
 have hk2:k < L.length:=by omega
 have IH:Hid (∀ (w:World) (v:Value) (L':List (Int × Int)),L'.length < L.length->ArgR w v L'->Fit L'->Calls Tryz.prog 143 #[v] w (tF w L')):=ih
 have T1:Hid (ArgR w (.slice (some ⟨g,off,none⟩) k cap) (L.take k)/\Fit (L.take k)/\(L.take k).length < L.length):=⟨h.take (by omega),gI hF fun x hx=>aAU hx,by simp;omega⟩
 have T2:Hid (ArgR w (.slice (some ⟨g,off+k * 2,none⟩) (L.length - k) (cap - k)) (L.drop k)/\Fit (L.drop k)/\(L.drop k).length < L.length):=⟨h.drop hk2,gI hF fun x hx=>List.mem_of_mem_drop hx,by simp;omega⟩
 have HL:Hid ((L.take k).length+(L.drop k).length=L.length):=aD (by simp;omega)
 have q1:((L.length:Int).tdiv 2)=(k:Int):=by rw [<- hk];simp [Int.tdiv_eq_ediv]
 have q2:IntKind.wrap .i64 ((L.length:Int).tdiv 2)=(k:Int):=by rw [q1,IntKind.wrap_i64];omega
 have n0:((L.length:Int)==0)=false:=beq_false_of_ne (by omega)
 have n1:((L.length:Int)==1)=false:=beq_false_of_ne (by omega)
 have k0:(0:Int)<=(k:Int):=by omega
 have k1:(k:Int)<=(cap:Int):=by omega
 have k2:(k:Int)<=(L.length:Int):=by omega
 have k3:¬ cap=k:=by omega
 clear h hF ih hcells hk
 go_enter Tryz.func143,Tryz.ntmps143
 go_wp2_with first
  |(go_at_call 143;have hx:=X5.out;clear hx;have hih:=IH.out w5 _ _ T2.out.2.2 (T2.out.1.kept X5.out.2.2.2.2.2) T2.out.2.1;(with_reducible refine hih.mono ?_);clear hih;rintro e w6 ⟨v6,B,rfl,h1,h2,h3,h4,h5,h6⟩;obtain⟨qb,cb,rfl⟩:=h1.shape;have X6:Hid (RR w5.heap.size w6 (.slice qb B.length cb) B/\Srt B/\Fit B/\(∀ c,In B c ↔ In (L.drop k) c)/\B.length<=(L.drop k).length/\Below w5.heap.size w5 w6):=⟨h1,h2,h3,h4,h5,h6⟩;clear h1 h2 h3 h4 h5 h6)
  |(go_at_call 143;have hih:=IH.out w _ _ T1.out.2.2 T1.out.1 T1.out.2.1;(with_reducible refine hih.mono ?_);clear hih;rintro e w5 ⟨v5,A,rfl,h1,h2,h3,h4,h5,h6⟩;obtain⟨qa,ca,rfl⟩:=h1.shape;have X5:Hid (RR w.heap.size w5 (.slice qa A.length ca) A/\Srt A/\Fit A/\(∀ c,In A c ↔ In (L.take k) c)/\A.length<=(L.take k).length/\Below w.heap.size w w5):=⟨h1,h2,h3,h4,h5,h6⟩;clear h1 h2 h3 h4 h5 h6)
 rename World=>W1
 have ST:Hid (MI A B A B []):=MI.start X5.out.2.1 X6.out.2.1 X5.out.2.2.1 X6.out.2.2.1
 have AA:Hid (ArgR W1 (.slice qa A.length ca) A/\ArgR W1 (.slice qb B.length cb) B):=⟨(X5.out.1.kept X6.out.2.2.2.2.2).arg,X6.out.1.arg⟩
 have hab:A.length+B.length+1<=8796093022208:=by have:=X5.out.2.2.2.2.1;have:=X6.out.2.2.2.2.1;have:=HL.out;omega
 have BW:Hid (Below w.heap.size w W1):=aJ X5.out.2.2.2.2.2 X6.out.2.2.2.2.2 lz9
 have HA:Hid (∀ (i:Nat) (r:Int × Int),A[i]?=some r->∃ g off,qa=some ⟨g,off,none⟩/\g < W1.heap.size/\W1.cell? ⟨g,off+2 * i,none⟩=some (.int .i64 r.1)/\W1.cell? ⟨g,off+2 * i+1,none⟩=some (.int .i64 r.2)):=by
  obtain⟨q',cap',e,-,-,hc⟩:=AA.out.1.slice
  cases e
  exact hc
 have FIN:Hid (∀ O B',MI A B [] B' O->Srt (O ++ B')/\Fit (O ++ B')/\(∀ c,In (O ++ B') c ↔ In L c)/\(O ++ B').length<=L.length):=fun O B' I=>by
  obtain⟨m1,m2,m3,m4⟩:=I.done
  refine⟨m1,m3,fun c=>?_,?_⟩
  ·rw [m2,X5.out.2.2.2.1,X6.out.2.2.2.1,aO9]
  ·have:=X5.out.2.2.2.2.1;have:=X6.out.2.2.2.2.1;have:=HL.out;omega
 clear q1 q2 k0 k1 k2 k3 n0 n1
 go_loopw [3,5,6] (fun ov bv i wr=>∃ (j:Nat) (B' O:List (Int × Int)),j<=A.length/\i=.int .i64 j/\ArgR W1 bv B'/\RR W1.heap.size wr ov O/\MI A B (A.drop j) B' O/\Below W1.heap.size W1 wr) (fun _ _ i _=>A.length - (intOf i).toNat)
 case atStart=>exact⟨0,B,[],m9 _,rfl,AA.out.2,RR.nil _ _,ST.out,Below.refl _ _⟩
 case round=>
  obtain⟨j,B',O,hj,rfl,hbv,hov,hI,hb⟩:=hrel
  have RB:Hid (ArgR W1 u5 B'):=hbv
  have RO:Hid (RR W1.heap.size wr u3 O):=hov
  have I:Hid (MI A B (A.drop j) B' O):=hI
  have BB:Hid (Below W1.heap.size W1 wr):=hb
  clear hbv hov hI hb
  by_cases hlt:j < A.length
  ·obtain⟨a,ea⟩:∃ r,A[j]?=some r:=⟨_,g9 hlt⟩
   have DR:Hid (A.drop j=a :: A.drop (j+1)):=aD (by obtain⟨h1,h2⟩:=i5.1 ea;rw [aAH h1,h2])
   obtain⟨ga,oa,rfl,hga,xa1,xa2⟩:=HA.out j _ ea
   have I2:Hid (MI A B (a :: A.drop (j+1)) B' O):=aD (by rw [<- DR.out];exact I.out)
   rw [aAJ] at xa1 xa2
   obtain⟨la,ra⟩:=a
   dsimp only at xa1 xa2
   have XA:Hid (W1.cell? ⟨ga,oa+j * 2,none⟩=some (.int .i64 la)/\W1.cell? ⟨ga,oa+j * 2+1,none⟩=some (.int .i64 ra)/\ga < W1.heap.size):=⟨xa1,xa2,hga⟩
   have i0:(0:Int)<=(j:Int):=by omega
   have i1:(j:Int) < (A.length:Int):=by omega
   clear xa1 xa2 hga ea
   rename World=>W2
   obtain⟨qq,cc,e5⟩:∃ q c,u5=.slice q B'.length c:=by obtain⟨q,c,e,-⟩:=RB.out.slice;exact⟨q,c,e⟩
   obtain⟨qq3,cc3,e3⟩:=RO.out.shape
   go_wp2
   go_loopw [3,5] (fun ov bv wr=>∃ (B' O:List (Int × Int)),ArgR W1 bv B'/\RR W1.heap.size wr ov O/\MI A B ((la,ra) :: A.drop (j+1)) B' O/\Below W1.heap.size W1 wr) (fun _ bv _=>pU bv)
   case atStart=>exact⟨B',O,RB.out,RO.out,I2.out,BB.out⟩
   case round=>
    clear RB RO I I2 BB e5 e3
    obtain⟨B',O,hbv,hov,hI,hb⟩:=hrel
    obtain⟨qo,co,e3⟩:=hov.shape
    subst e3
    have RO:Hid (RR W1.heap.size wr (.slice qo O.length co) O):=hov
    have I:Hid (MI A B ((la,ra) :: A.drop (j+1)) B' O):=hI
    have BB:Hid (Below W1.heap.size W1 wr):=hb
    have hol:O.length+1<=8796093022208:=by have:=hI.len;simp at this;omega
    have hbs:=hb.size
    have ca1:=(BB.out.cell (p:=⟨ga,oa+j * 2,none⟩) XA.out.2.2).trans XA.out.1
    have sa:ga < wr.heap.size:=i6 XA.out.2.2 hbs
    clear hov hI hb
    cases B' with
    | nil=>
     obtain⟨q2,cap2,e2,-,-,-⟩:=hbv.slice
     simp only [List.length_nil] at e2
     subst e2
     have RB:Hid (ArgR W1 (.slice q2 0 cap2) []):=hbv
     have I2:Hid (MI A B (A.drop (j+1)) [] (O ++ [(la,ra)])):=I.out.left (fun _ h=>by cases h)
     have d0:decide ((0:Int) < 0)=false:=by decide
     clear hbv
     go_wp2
     refine wx9 ?_
     repeat (go_big_quiet_step (first | exact rfl))
     refine wpQuiet_nil ?_
     intro w7 hw7
     have B7:Hid (Below W1.heap.size W1 w7):=aJ BB.out (aQ hw7) lz9
     have R7:Hid (RR W1.heap.size w7 (.slice qo O.length co) O):=RO.out.kept (aQ hw7)
     have e1:=(B7.out.cell (p:=⟨ga,oa+j * 2,none⟩) XA.out.2.2).trans XA.out.1
     have e2:=(B7.out.cell (p:=⟨ga,oa+j * 2+1,none⟩) XA.out.2.2).trans XA.out.2.1
     have hz7:=B7.out.size
     clear hw7 ca1
     go_wp2_with (at_builtin;refine wpList_append_own_at _ rfl _ _ 22 rfl W1.heap.size 110 t0 (.agg #[.int .i64 0,.int .i64 0]) 2 16 bM ti hz0 hz1 hz2 rfl (by decide) (.slice qo O.length co) O.length (aS O) rfl (l9 R7.out (.cells #[.int .i64 la,.int .i64 ra] 110)) ⟨w7.heap.size,0,none⟩ 1 1 [.int .i64 la,.int .i64 ra] rfl rfl (lF _ _ _ _) (by simp [Value.oneCell']) (by unfold maxLen;omega) (by omega) (by simp;omega) ?_;intro v' w6 hown' hgrow _ hblk;obtain⟨g6,cap6,rfl⟩:=aL hown' (aAC _);have A6:Hid (RR W1.heap.size w6 (.slice (some ⟨g6,0,none⟩) (O.length+1) cap6) (O ++ [(la,ra)])):=pR hown';have B6:Hid (Below W1.heap.size W1 w6):=dC (B7.out.alloc B7.out.size _) (l9 R7.out _) hgrow;clear hown' hgrow hblk)
     go_roundw
     case rel=>exact⟨j+1,[],_,by omega,by go_num,RB.out,A6.out,I2.out,B6.out⟩
     case measure=>simp [intOf];omega
    | cons b B'=>
     obtain⟨g2,o2,cap2,e2,hg2,hn2,hm2,y1,y2⟩:=hbv.cons
     subst e2
     have RB:Hid (ArgR W1 (.slice (some ⟨g2,o2,none⟩) (B'.length+1) cap2) (b :: B')):=hbv
     obtain⟨lb,rb⟩:=b
     dsimp only at y1 y2
     have YB:Hid (W1.cell? ⟨g2,o2,none⟩=some (.int .i64 lb)/\W1.cell? ⟨g2,o2+1,none⟩=some (.int .i64 rb)/\g2 < W1.heap.size):=⟨y1,y2,hg2⟩
     have cb1:=(BB.out.cell (p:=⟨g2,o2,none⟩) YB.out.2.2).trans YB.out.1
     have sb:g2 < wr.heap.size:=i6 hg2 hbs
     have d1:(0:Int) < (B'.length:Int)+1:=by omega
     have dd:decide ((0:Int) < (B'.length:Int)+1)=true:=r8 d1
     unfold maxLen at hm2
     clear hbv y1 y2 hg2
     by_cases hq:lb < la
     ·have I2:Hid (MI A B ((la,ra) :: A.drop (j+1)) B' (O ++ [(lb,rb)])):=I.out.right hq
      have dq:decide (lb < la)=true:=r8 hq
      have TT:=RB.out.tail
      by_cases hcap:cap2=1
      ·have T1':Hid (ArgR W1 (.slice (some ⟨g2,o2,none⟩) 0 0) B'):=TT.1 hcap
       have hA0:B'.length=0:=by omega
       subst hcap
       clear TT
       go_wp2
       refine wx9 ?_
       repeat (go_big_quiet_step (first | exact rfl))
       refine wpQuiet_nil ?_
       intro w7 hw7
       have B7:Hid (Below W1.heap.size W1 w7):=aJ BB.out (aQ hw7) lz9
       have R7:Hid (RR W1.heap.size w7 (.slice qo O.length co) O):=RO.out.kept (aQ hw7)
       have e1:=(B7.out.cell (p:=⟨g2,o2,none⟩) YB.out.2.2).trans YB.out.1
       have e2:=(B7.out.cell (p:=⟨g2,o2+1,none⟩) YB.out.2.2).trans YB.out.2.1
       have hz7:=B7.out.size
       clear hw7 ca1 cb1
       go_wp2_with (at_builtin;refine wpList_append_own_at _ rfl _ _ 22 rfl W1.heap.size 110 t0 (.agg #[.int .i64 0,.int .i64 0]) 2 16 bM ti hz0 hz1 hz2 rfl (by decide) (.slice qo O.length co) O.length (aS O) rfl (l9 R7.out (.cells #[.int .i64 lb,.int .i64 rb] 110)) ⟨w7.heap.size,0,none⟩ 1 1 [.int .i64 lb,.int .i64 rb] rfl rfl (lF _ _ _ _) (by simp [Value.oneCell']) (by unfold maxLen;omega) (by omega) (by simp;omega) ?_;intro v' w6 hown' hgrow _ hblk;obtain⟨g6,cap6,rfl⟩:=aL hown' (aAC _);have A6:Hid (RR W1.heap.size w6 (.slice (some ⟨g6,0,none⟩) (O.length+1) cap6) (O ++ [(lb,rb)])):=pR hown';have B6:Hid (Below W1.heap.size W1 w6):=dC (B7.out.alloc B7.out.size _) (l9 R7.out _) hgrow;clear hown' hgrow hblk)
       go_roundw
       case rel=>exact⟨B',_,T1'.out,A6.out,I2.out,B6.out⟩
       case measure=>simp only [pU];omega
      ·have T1':Hid (ArgR W1 (.slice (some ⟨g2,o2+2,none⟩) B'.length (cap2 - 1)) B'):=TT.2 hcap
       clear TT
       go_wp2
       refine wx9 ?_
       repeat (go_big_quiet_step (first | exact rfl))
       refine wpQuiet_nil ?_
       intro w7 hw7
       have B7:Hid (Below W1.heap.size W1 w7):=aJ BB.out (aQ hw7) lz9
       have R7:Hid (RR W1.heap.size w7 (.slice qo O.length co) O):=RO.out.kept (aQ hw7)
       have e1:=(B7.out.cell (p:=⟨g2,o2,none⟩) YB.out.2.2).trans YB.out.1
       have e2:=(B7.out.cell (p:=⟨g2,o2+1,none⟩) YB.out.2.2).trans YB.out.2.1
       have hz7:=B7.out.size
       clear hw7 ca1 cb1
       go_wp2_with (at_builtin;refine wpList_append_own_at _ rfl _ _ 22 rfl W1.heap.size 110 t0 (.agg #[.int .i64 0,.int .i64 0]) 2 16 bM ti hz0 hz1 hz2 rfl (by decide) (.slice qo O.length co) O.length (aS O) rfl (l9 R7.out (.cells #[.int .i64 lb,.int .i64 rb] 110)) ⟨w7.heap.size,0,none⟩ 1 1 [.int .i64 lb,.int .i64 rb] rfl rfl (lF _ _ _ _) (by simp [Value.oneCell']) (by unfold maxLen;omega) (by omega) (by simp;omega) ?_;intro v' w6 hown' hgrow _ hblk;obtain⟨g6,cap6,rfl⟩:=aL hown' (aAC _);have A6:Hid (RR W1.heap.size w6 (.slice (some ⟨g6,0,none⟩) (O.length+1) cap6) (O ++ [(lb,rb)])):=pR hown';have B6:Hid (Below W1.heap.size W1 w6):=dC (B7.out.alloc B7.out.size _) (l9 R7.out _) hgrow;clear hown' hgrow hblk)
       go_roundw
       case rel=>exact⟨B',_,T1'.out,A6.out,I2.out,B6.out⟩
       case measure=>simp only [pU];omega
     ·have I2:Hid (MI A B (A.drop (j+1)) ((lb,rb) :: B') (O ++ [(la,ra)])):=I.out.left (fun y hy=>by
       rcases aAW.1 hy with rfl | hy
       ·simp only;omega
       ·have:=(aBM.1 I.out.b.rise).1 y hy;simp only at this ⊢;omega)
      have dq:decide (lb < la)=false:=l8 hq
      go_wp2
      refine wx9 ?_
      repeat (go_big_quiet_step (first | exact rfl))
      refine wpQuiet_nil ?_
      intro w7 hw7
      have B7:Hid (Below W1.heap.size W1 w7):=aJ BB.out (aQ hw7) lz9
      have R7:Hid (RR W1.heap.size w7 (.slice qo O.length co) O):=RO.out.kept (aQ hw7)
      have e1:=(B7.out.cell (p:=⟨ga,oa+j * 2,none⟩) XA.out.2.2).trans XA.out.1
      have e2:=(B7.out.cell (p:=⟨ga,oa+j * 2+1,none⟩) XA.out.2.2).trans XA.out.2.1
      have hz7:=B7.out.size
      clear hw7 ca1 cb1
      go_wp2_with (at_builtin;refine wpList_append_own_at _ rfl _ _ 22 rfl W1.heap.size 110 t0 (.agg #[.int .i64 0,.int .i64 0]) 2 16 bM ti hz0 hz1 hz2 rfl (by decide) (.slice qo O.length co) O.length (aS O) rfl (l9 R7.out (.cells #[.int .i64 la,.int .i64 ra] 110)) ⟨w7.heap.size,0,none⟩ 1 1 [.int .i64 la,.int .i64 ra] rfl rfl (lF _ _ _ _) (by simp [Value.oneCell']) (by unfold maxLen;omega) (by omega) (by simp;omega) ?_;intro v' w6 hown' hgrow _ hblk;obtain⟨g6,cap6,rfl⟩:=aL hown' (aAC _);have A6:Hid (RR W1.heap.size w6 (.slice (some ⟨g6,0,none⟩) (O.length+1) cap6) (O ++ [(la,ra)])):=pR hown';have B6:Hid (Below W1.heap.size W1 w6):=dC (B7.out.alloc B7.out.size _) (l9 R7.out _) hgrow;clear hown' hgrow hblk)
      go_roundw
      case rel=>exact⟨j+1,(lb,rb) :: B',_,by omega,by go_num,RB.out,A6.out,I2.out,B6.out⟩
      case measure=>simp [intOf];omega
  ·have i1:¬ (j:Int) < (A.length:Int):=by omega
   have D0:Hid (A.drop j=[]):=aD (List.drop_of_length_le (by omega))
   have I2:Hid (MI A B [] B' O):=aD (by rw [<- D0.out];exact I.out)
   obtain⟨q2,cap2,e5,-,-,-⟩:=RB.out.slice
   subst e5
   obtain⟨qo,co,e3⟩:=RO.out.shape
   subst e3
   have F:=FIN.out O B' I2.out
   have FF:Hid _:=F
   have hlen:=F.2.2.2
   rw [m7] at hlen
   have hbs:=BB.out.size
   clear F
   cases q2 with
   | none=>
    have e0:Value.slice none B'.length cap2=.slice none 0 0/\B'=[]:=by
     rcases RB.out with⟨p,cap',e,e2,e3⟩ | ⟨g',off',cap',e,_⟩
     ·subst e2
      cases e
      have:=e3 rfl
      subst this
      exact⟨rfl,rfl⟩
     ·cases e
    obtain⟨e1,e2⟩:=e0
    subst e2
    cases e1
    go_wp2_with (at_builtin;refine wpList_append_own_none rfl _ _ 22 rfl W1.heap.size 110 t0 2 bM ti (.slice qo O.length co) O.length (aS O) rfl RO.out rfl ?_)
    go_ret
    refine⟨_,O ++ [],rfl,?_,FF.out.1,FF.out.2.1,FF.out.2.2.1,FF.out.2.2.2,aJ BW.out BB.out lz9⟩
    rw [aBH]
    exact RO.out.mono BW.out.size
   | some ad=>
    have NW:Hid (∀ j u,(aS B')[j]?=some u->wr.cell? (ad.add j)=some u):=(RB.out.kept BB.out).news
    go_wp2_with (at_builtin;refine wpList_append_own_at _ rfl _ _ 22 rfl W1.heap.size 110 t0 (.agg #[.int .i64 0,.int .i64 0]) 2 16 bM ti hz0 hz1 hz2 rfl (by decide) (.slice qo O.length co) O.length (aS O) rfl RO.out ad B'.length cap2 (aS B') rfl (dS B') NW.out (lA B') (by unfold maxLen;omega) (by omega) hbs ?_;intro v' w6 hown' hgrow _ hblk;have A6:Hid (RR W1.heap.size w6 v' (O ++ B')):=rA hown';have B6:Hid (Below W1.heap.size W1 w6):=dC BB.out RO.out hgrow;clear hown' hgrow hblk)
    go_ret
    exact⟨_,O ++ B',rfl,A6.out.mono BW.out.size,FF.out.1,FF.out.2.1,FF.out.2.2.1,FF.out.2.2.2,aJ BW.out B6.out lz9⟩
theorem aT1(n:Nat):∀ (w:World) (v:Value) (L:List (Int × Int)),L.length<=n->n+1<=8796093022208->ArgR w v L->Fit L->Calls Tryz.prog 143 #[v] w (tF w L):=by
 induction n with
 | zero=>exact fun w v L hn _ h hF=>oB h hF (by omega)
 | succ n ih=>
  intro w v L hn hl h hF
  by_cases h1:L.length<=1
  ·exact oB h hF h1
  ·exact yH (fun w v L' hL' h' hF'=>ih w v L' (by omega) (by omega) h' hF') h hF (by omega) (by omega)
end
end Go.Proofs.YtlaimbkenbijeaaGreatDoor
