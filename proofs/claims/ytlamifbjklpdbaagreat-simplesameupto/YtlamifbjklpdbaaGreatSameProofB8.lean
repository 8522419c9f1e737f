/-
  Parts of the proof.
-/
import Derived.Test.YtlamifbjklpdbaaGreatSameProofA0
import Derived.Test.YtlamifbjklpdbaaGreatSameProofB6
import Derived.Test.YtlamifbjklpdbaaGreatSameProofB7
import Derived.Laws.AppendOwnNone
import Derived.Test.YtlamifbjklpdbaaGreatSameProofB0
import Derived.Test.YtlamifbjklpdbaaGreatSameProofB4
import Derived.Test.YtlamifbjklpdbaaGreatSameProofB5
import Derived.Deep.WholeRow
set_option linter.unusedSimpArgs false
set_option maxRecDepth 100000
set_option maxHeartbeats 8000000
namespace Go.Proofs.YtlamifbjklpdbaaGreat
open Go Go.RowKit
def fC(V:List (Value×List (Int×Int))):List (Int×Int):=V.flatMap fun p=>p.2
theorem rK{V:List (Value×List (Int×Int))}{k:Nat}{p:Value×List (Int×Int)}(h:V[k]?=some p):fC (V.take (k+1))=fC (V.take k)++p.2:=by
 obtain⟨hk,rfl⟩:=m8.1 h
 rw [dK V k hk]
 unfold fC
 rw [aBM]
 simp only [aAN,List.flatMap_nil,t9]
theorem zY(V:List (Value×List (Int×Int)))(k:Nat):(fC (V.take k)).length<=(fC V).length:=by
 have e:fC V=fC (V.take k)++fC (V.drop k):=by unfold fC;rw [<- aBM,aBG]
 rw [e,o5]
 omega
theorem mC{base:Nat}{w:World}{n:Nat}{v:Value}{F L:List (Int×Int)}(h:w.ownsRow base 53 2 v n (aL F++aL L)):RR base w v (F++L):=by
 have hn:n=(F++L).length:=by have:=h.1;simp [cI] at this;simp;omega
 subst hn
 unfold RR
 rw [gO]
 exact h
theorem aF5(w:World):Calls Tryz.prog 102 #[.slice none 0 0,.int .i64 0] w fun e w'=>e=.returned (.slice none 0 0)/\w'=w:=
 Any8.slices_Grow_room Tryz.growPl none 0 0 0 w (by omega) (by omega) (by omega) (by omega)
theorem bM3(n:Nat)(w:World)(hn:n<=8796093022208):Calls Tryz.prog 102 #[.slice none 0 0,.int .i64 (n:Int)] w fun e w'=>∃ v,e=.returned v/\RR w.heap.size w' v []/\Below w.heap.size w w':=by
 rcases Nat.eq_zero_or_pos n with rfl | hp
 ·exact(aF5 w).mono fun e w' ⟨h1,h2⟩=>⟨_,h1,RR.nil _ _,by rw [h2];exact Below.refl _ _⟩
 ·obtain⟨i0,hi,hz0,hz1,hz2⟩:=aR cL
  have h:=Any8.slices_Grow_grow Tryz.growPl i0 (.agg #[.int .i64 0,.int .i64 0]) hi hz0 (by rw [hz1];decide) none 0 0 n [] w (by omega) (by omega) (by rw [hz2];omega) (by omega) (by simp) (fun _=>rfl) (fun _ q=>by cases q)
  refine Calls.mono (show Calls Tryz.prog 102 _ _ _ from h) ?_
  rintro e w' ⟨rfl,rfl⟩
  have hg:=grownCap_ge w (0+n) 0 53
  have hm:=grownCap_le_maxLen w (0+n) 0 53 (by unfold maxLen;omega)
  refine⟨_,rfl,?_,(Below.refl _ _).drew.alloc (by simp) _⟩
  have hz:∀ k,(Builtin.zeroCells #[.int .i64 0,.int .i64 0] k).size=k*2:=fun k=>by simp [Builtin.zeroCells]
  refine World.ownsRow_made w.drew _ _ lz9 hm ?_
  show (#[]++Builtin.zeroCells #[.int .i64 0,.int .i64 0] (0+n-0)++Builtin.zeroCells #[.int .i64 0,.int .i64 0] (grownCap w (0+n) 0 53-(0+n))).size=grownCap w (0+n) 0 53*2
  rw [Array.size_append,Array.size_append,hz,hz]
  generalize grownCap w (0+n) 0 53=G at *
  show 0+(0+n-0)*2+(G-(0+n))*2=G*2
  omega
theorem vP{w:World}{g m:Nat}{V:List (Value×List (Int×Int))}(hm:V.length=m)(hV:∀ (i:Nat) (p:Value×List (Int×Int)),V[i]?=some p->w.cell? ⟨g,i,none⟩=some p.1/\ArgR w p.1 p.2)(hg:g<w.heap.size)(hml:m<=1000)(hl:(fC V).length+1<=8796093022208) :
  Calls Tryz.prog 90 #[.slice (some ⟨g,0,none⟩) m m] w fun e w'=>∃ v,e=.returned v/\RR w.heap.size w' v (fC V)/\Below w.heap.size w w':=by
 have HV:Hid (∀ (i:Nat) (p:Value×List (Int×Int)),V[i]?=some p->w.cell? ⟨g,i,none⟩=some p.1/\ArgR w p.1 p.2):=hV
 have HM:Hid (V.length=m):=hm
 obtain⟨t0,ti,hz0,hz1,hz2⟩:=aR cL
 clear hV hm
 go_enter Tryz.func90,Tryz.ntmps90
 go_wp2
 go_loopw [3,11] (fun s i wr=>∃ k:Nat,k<=m/\i=.int .i64 k/\s=.int .i64 ((fC (V.take k)).length:Nat)/\wr=w) (fun _ i _=>m-(intOf i).toNat)
 case atStart=>exact⟨0,o9 _,rfl,rfl,rfl⟩
 case round=>
  obtain⟨k,hk,rfl,rfl,hw⟩:=hrel
  subst wr
  by_cases hlt:k<m
  ·obtain⟨⟨v,L⟩,hp⟩:∃ p,V[k]?=some p:=⟨_,g9 (by have:=HM.out;omega)⟩
   obtain⟨d0,ha⟩:=HV.out k _ hp
   dsimp only at d0 ha
   obtain⟨q,cap,rfl,-,-,-⟩:=ha.slice
   have NX:Hid ((fC (V.take (k+1))).length=(fC (V.take k)).length+L.length):=aA (by rw [rK hp,o5])
   have le1:=zY V (k+1)
   rw [NX.out] at le1
   clear hp ha
   generalize (fC (V.take k)).length=n at *
   have i0:(0:Int)<=(k:Int):=by omega
   have i1:(k:Int)<(m:Int):=by omega
   have wn:IntKind.wrap .i64 ((n:Int)+(L.length:Int))=(n:Int)+(L.length:Int):=by rw [IntKind.wrap_i64];omega
   have nn:¬ ((n:Int)+(L.length:Int)<0):=by omega
   go_wp2
   go_roundw
   case rel=>exact⟨k+1,by omega,by go_num,by rw [NX.out];rfl,by first | rfl | trivial⟩
   case measure=>simp [intOf];omega
  ·have i1:¬ (k:Int)<(m:Int):=by omega
   have E:Hid (V.take k=V):=aA (o4 (by rw [HM.out];omega))
   rw [E.out]
   have LB:Hid ((fC V).length<=8796093022208):=aA (by omega)
   go_wp2_with (go_at_call 102;refine(bM3 _ _ LB.out).mono ?_;rintro e w5 ⟨v5,rfl,h1,h2⟩;have R5:Hid (RR w.heap.size w5 v5 []):=h1;have B5:Hid (Below w.heap.size w w5):=h2;clear h1 h2)
   rename World=>W1
   go_loopw [6,27] (fun s i wr=>∃ k:Nat,k<=m/\i=.int .i64 k/\RR w.heap.size wr s (fC (V.take k))/\Below w.heap.size w wr) (fun _ i _=>m-(intOf i).toNat)
   case atStart=>exact⟨0,o9 _,rfl,R5.out,B5.out⟩
   case round=>
    obtain⟨j,hj,rfl,hrr,hb⟩:=hrel
    obtain⟨qg,cg,rfl⟩:=hrr.shape
    have RG:Hid (RR w.heap.size wr (.slice qg (fC (V.take j)).length cg) (fC (V.take j))):=hrr
    have B:Hid (Below w.heap.size w wr):=hb
    have hbs:w.heap.size<=wr.heap.size:=hb.size
    clear hrr hb
    by_cases hjlt:j<m
    ·obtain⟨⟨v,L⟩,hp⟩:∃ p,V[j]?=some p:=⟨_,g9 (by have:=HM.out;omega)⟩
     obtain⟨d0,ha⟩:=HV.out j _ hp
     dsimp only at d0 ha
     have d1:=(B.out.cell (p:=⟨g,j,none⟩) hg).trans d0
     have NX:Hid (fC (V.take (j+1))=fC (V.take j)++L):=rK hp
     have le1:=zY V (j+1)
     rw [NX.out,o5] at le1
     have hA:=ha.kept B.out
     obtain⟨q,cap,rfl,-,-,-⟩:=ha.slice
     have j0:(0:Int)<=(j:Int):=by omega
     have j1:(j:Int)<(m:Int):=by omega
     clear hp d0
     generalize fC (V.take j)=F at *
     cases q with
     | none=>
      have e0:Value.slice none L.length cap=.slice none 0 0/\L=[]:=by
       rcases ha with⟨p,cap',e,e2,e3⟩ | ⟨g',off',cap',e,_⟩
       ·subst e2
        cases e
        have:=e3 rfl
        subst this
        exact⟨rfl,rfl⟩
       ·cases e
      rw [e0.1] at d1
      have EL:Hid (L=[]):=e0.2
      clear ha hA e0
      go_wp2_with (at_builtin;refine wpList_append_own_none rfl _ _ 22 rfl w.heap.size 53 t0 2 aY ti (.slice qg F.length cg) F.length (aL F) rfl RG.out rfl ?_)
      go_roundw
      case rel=>exact⟨j+1,by omega,by go_num,by rw [NX.out,EL.out,t9];exact RG.out,B.out⟩
      case measure=>simp [intOf];omega
     | some ad=>
      have NW:Hid (∀ j u,(aL L)[j]?=some u->wr.cell? (ad.add j)=some u):=hA.news
      clear ha hA
      go_wp2_with (at_builtin;refine wpList_append_own_at _ rfl _ _ 22 rfl w.heap.size 53 t0 (.agg #[.int .i64 0,.int .i64 0]) 2 16 aY ti hz0 hz1 hz2 rfl (by decide) (.slice qg F.length cg) F.length (aL F) rfl RG.out ad L.length cap (aL L) rfl (cI L) NW.out (fY L) (by unfold maxLen;omega) (by omega) hbs ?_;intro v' w6 hown' hgrow _ hblk;have A6:Hid (RR w.heap.size w6 v' (F++L)):=mC hown';have B6:Hid (Below w.heap.size w w6):=bZ B.out RG.out hgrow;clear hown' hgrow hblk)
      go_roundw
      case rel=>exact⟨j+1,by omega,by go_num,by rw [NX.out];exact A6.out,B6.out⟩
      case measure=>simp [intOf];omega
    ·have j1:¬ (j:Int)<(m:Int):=by omega
     have E2:Hid (V.take j=V):=aA (o4 (by rw [HM.out];omega))
     rw [E2.out] at RG ⊢
     go_wp2
     go_ret
     exact⟨_,rfl,RG.out,B.out⟩
def top(m:Bool):Int:=if m then 1114111 else 255
def eB(m:Bool)(c:Int):Prop:=0<=c/\c<=top m/\(m=true->c<55296\/57343<c)
def cV(m:Bool):List (Int×Int):=if m then [(0,55295),(57344,1114111)] else [(0,255)]
theorem iF(m:Bool):IsC (cV m) (eB m):=by
 cases m with
 | true=>
  refine⟨⟨by simp [cV],by simp [cV]⟩,fun r hr=>?_,fun c=>?_⟩
  ·simp [cV] at hr
   rcases hr with rfl | rfl <;> simp
  ·simp [cV,In,eB,top]
   omega
 | false=>
  refine⟨⟨by simp [cV],by simp [cV]⟩,fun r hr=>?_,fun c=>?_⟩
  ·simp [cV] at hr
   subst hr;simp
  ·simp [cV,In,eB,top]
theorem gN(m:Bool):(cV m).length<=2:=by cases m <;> simp [cV]
theorem bD9(m:Bool)(w:World):Calls Tryz.prog 118 #[.bool m] w fun e w'=>e=.returned (.int .i64 (top m))/\w'=w:=by
 cases m with
 | true=>
  go_enter Tryz.func118,Tryz.ntmps118
  go_wp2
  go_ret
  exact⟨rfl,rfl⟩
 | false=>
  go_enter Tryz.func118,Tryz.ntmps118
  go_wp2
  go_ret
  exact⟨rfl,rfl⟩
theorem bC2(m:Bool)(w:World):Calls Tryz.prog 113 #[.bool m] w fun e w'=>∃ v,e=.returned v/\RR w.heap.size w' v (cV m)/\Below w.heap.size w w':=by
 cases m with
 | true=>
  go_enter Tryz.func113,Tryz.ntmps113
  go_wp2_with (go_at_call 118;refine(bD9 _ _).mono ?_;rintro e w5 ⟨rfl,h5⟩;subst w5)
  go_ret
  exact⟨_,rfl,World.ownsRow_lit w #[.int .i64 0,.int .i64 55295,.int .i64 57344,.int .i64 1114111] 2 lz9 (by unfold maxLen;omega) rfl,bz9⟩
 | false=>
  go_enter Tryz.func113,Tryz.ntmps113
  go_wp2_with (go_at_call 118;refine(bD9 _ _).mono ?_;rintro e w5 ⟨rfl,h5⟩;subst w5)
  go_ret
  exact⟨_,rfl,World.ownsRow_lit w #[.int .i64 0,.int .i64 255] 1 lz9 (by unfold maxLen;omega) rfl,bz9⟩
def num(c:Int):Prop:=-9223372036854775808<=c/\c<=9223372036854775807
theorem bK4{w:World}{v:Value}{L:List (Int×Int)}{m:Bool}(h:ArgR w v L)(hF:Fit L)(hl:L.length+3<=8796093022208) :
  Calls Tryz.prog 107 #[v,.bool m] w (qW w (fun c=>In L c/\eB m c) (L.length+2)):=by
 have H:Hid (ArgR w v L/\Fit L):=⟨h,hF⟩
 have hl1:L.length<=8796093022208:=by omega
 clear h hF
 go_enter Tryz.func107,Tryz.ntmps107
 go_wp2_with first
  |(go_at_call 89;refine(eW H.out.1 H.out.2 hl1).mono ?_;rintro e w5 ⟨v5,C5,rfl,h1,h2,h3,h4⟩;have X5:Hid (RR w.heap.size w5 v5 C5/\IsC C5 (In L)/\C5.length<=L.length/\Below w.heap.size w w5):=⟨h1,h2,h3,h4⟩;clear h1 h2 h3 h4)
  |(go_at_call 113;refine(bC2 m _).mono ?_;rintro e w6 ⟨v6,rfl,h1,h2⟩;have X6:Hid (RR w5.heap.size w6 v6 (cV m)/\Below w5.heap.size w5 w6):=⟨h1,h2⟩;clear h1 h2)
  |(go_at_call 112;refine(vQ (X5.out.1.kept X6.out.2).arg X6.out.1.arg X5.out.2.1.cls (iF m).cls X5.out.2.1.fit (iF m).fit (by have:=X5.out.2.2.1;have:=gN m;omega)).mono ?_;rintro e w7 ⟨v7,C7,rfl,h1,h2,h3,h4⟩;have X7:Hid (RR w6.heap.size w7 v7 C7/\IsC C7 (fun c=>In C5 c/\In (cV m) c)/\C7.length<=C5.length+(cV m).length/\Below w6.heap.size w6 w7):=⟨h1,h2,h3,h4⟩;clear h1 h2 h3 h4)
 go_ret
 have B6:=aG X5.out.2.2.2 X6.out.2 lz9
 refine⟨_,_,rfl,X7.out.1.mono B6.size,X7.out.2.1.to fun c=>?_,?_,aG B6 X7.out.2.2.2 lz9⟩
 ·rw [X5.out.2.1.mem,(iF m).mem]
 ·have:=X7.out.2.2.1
  have:=X5.out.2.2.1
  have:=gN m
  omega
theorem bP8{w:World}{va vb:Value}{A B:List (Int×Int)}(ha:ArgR w va A)(hb:ArgR w vb B)(fa:Fit A)(fb:Fit B)(hl:A.length+B.length+1<=8796093022208) :
  Calls Tryz.prog 114 #[va,vb] w (qW w (fun c=>In A c/\In B c) (A.length+B.length)):=by
 have H:Hid (ArgR w va A/\Fit A):=⟨ha,fa⟩
 have K:Hid (ArgR w vb B/\Fit B):=⟨hb,fb⟩
 have hl1:A.length<=8796093022208:=by omega
 have hl2:B.length<=8796093022208:=by omega
 clear ha hb fa fb
 go_enter Tryz.func114,Tryz.ntmps114
 go_wp2_with first
  |(have hx:=X5.out;clear hx;go_at_call 89;have hih:=eW (K.out.1.kept X5.out.2.2.2) K.out.2 hl2;refine hih.mono ?_;clear hih;rintro e w6 ⟨v6,C6,rfl,h1,h2,h3,h4⟩;have X6:Hid (RR w5.heap.size w6 v6 C6/\IsC C6 (In B)/\C6.length<=B.length/\Below w5.heap.size w5 w6):=⟨h1,h2,h3,h4⟩;clear h1 h2 h3 h4)
  |(go_at_call 89;refine(eW H.out.1 H.out.2 hl1).mono ?_;rintro e w5 ⟨v5,C5,rfl,h1,h2,h3,h4⟩;have X5:Hid (RR w.heap.size w5 v5 C5/\IsC C5 (In A)/\C5.length<=A.length/\Below w.heap.size w w5):=⟨h1,h2,h3,h4⟩;clear h1 h2 h3 h4)
  |(go_at_call 112;refine(vQ (X5.out.1.kept X6.out.2.2.2).arg X6.out.1.arg X5.out.2.1.cls X6.out.2.1.cls X5.out.2.1.fit X6.out.2.1.fit (by have:=X5.out.2.2.1;have:=X6.out.2.2.1;omega)).mono ?_;rintro e w7 ⟨v7,C7,rfl,h1,h2,h3,h4⟩;have X7:Hid (RR w6.heap.size w7 v7 C7/\IsC C7 (fun c=>In C5 c/\In C6 c)/\C7.length<=C5.length+C6.length/\Below w6.heap.size w6 w7):=⟨h1,h2,h3,h4⟩;clear h1 h2 h3 h4)
 go_ret
 have B6:=aG X5.out.2.2.2 X6.out.2.2.2 lz9
 refine⟨_,_,rfl,X7.out.1.mono B6.size,X7.out.2.1.to fun c=>?_,?_,aG B6 X7.out.2.2.2 lz9⟩
 ·rw [X5.out.2.1.mem,X6.out.2.1.mem]
 ·have:=X7.out.2.2.1
  have:=X5.out.2.2.1
  have:=X6.out.2.2.1
  omega
theorem aI6{w:World}{va vb:Value}{A B:List (Int×Int)}(ha:ArgR w va A)(hb:ArgR w vb B)(t:TypeId):∀ (i:Nat) (p:Value×List (Int×Int)),[(va,A),(vb,B)][i]?=some p->(w.alloc (.cells #[va,vb] t)).cell? ⟨w.heap.size,i,none⟩=some p.1/\ArgR (w.alloc (.cells #[va,vb] t)) p.1 p.2:=by
 have B1:Below w.heap.size w (w.alloc (.cells #[va,vb] t)):=bz9
 intro i p hp
 match i,hp with
 | 0,hp=>simp at hp;subst hp;exact⟨aB (aD w _) (i:=0) rfl,ha.kept B1⟩
 | 1,hp=>simp at hp;subst hp;exact⟨aB (aD w _) (i:=1) rfl,hb.kept B1⟩
theorem bQ1{w:World}{va vb:Value}{A B:List (Int×Int)}(ha:ArgR w va A)(hb:ArgR w vb B)(fa:Fit A)(fb:Fit B)(hl:A.length+B.length+1<=8796093022208) :
  Calls Tryz.prog 72 #[va,vb] w (qW w (fun c=>In A c\/In B c) (A.length+B.length)):=by
 obtain⟨q1,k1,e1,-,-,-⟩:=ha.slice
 obtain⟨q2,k2,e2,-,-,-⟩:=hb.slice
 subst e1 e2
 have H:Hid (ArgR w (.slice q1 A.length k1) A/\ArgR w (.slice q2 B.length k2) B):=⟨ha,hb⟩
 have FF:Hid (Fit (A++B)):=cU fa fb
 have B1:Hid (Below w.heap.size w (w.alloc (.cells #[.slice q1 A.length k1,.slice q2 B.length k2] 22))):=bz9
 clear ha hb fa fb
 have CC:Hid (Calls Tryz.prog 90 #[.slice (some ⟨w.heap.size,0,none⟩) 2 2] (w.alloc (.cells #[.slice q1 A.length k1,.slice q2 B.length k2] 22)) fun e w'=>∃ v,e=.returned v/\RR w.heap.size w' v (A++B)/\Below w.heap.size w w'):=
  aA ((vP (V:=[(.slice q1 A.length k1,A),(.slice q2 B.length k2,B)]) (m:=2) rfl (aI6 H.out.1 H.out.2 22) (by simp) (by omega) (by simp [fC];omega)).mono fun e w' ⟨v,h1,h2,h3⟩=>⟨v,h1,by have:=h2.mono (base':=w.heap.size) (by simp);simpa [fC] using this,aG B1.out h3 lz9⟩)
 go_enter Tryz.func72,Tryz.ntmps72
 go_wp2_with first
  |(go_at_call 90;refine CC.out.mono ?_;rintro e w5 ⟨v5,rfl,h1,h2⟩;have X5:Hid (RR w.heap.size w5 v5 (A++B)/\Below w.heap.size w w5):=⟨h1,h2⟩;clear h1 h2)
  |(go_at_call 89;refine(eW X5.out.1.arg FF.out (by simp;omega)).mono ?_;rintro e w6 ⟨v6,C6,rfl,h1,h2,h3,h4⟩;have X6:Hid (RR w5.heap.size w6 v6 C6/\IsC C6 (In (A++B))/\C6.length<=(A++B).length/\Below w5.heap.size w5 w6):=⟨h1,h2,h3,h4⟩;clear h1 h2 h3 h4)
 go_ret
 refine⟨_,_,rfl,X6.out.1.mono X5.out.2.size,X6.out.2.1.to fun c=>cA A B c,by have:=X6.out.2.2.1;simpa using this,aG X5.out.2 X6.out.2.2.2 lz9⟩
theorem aL9{base:Nat}{w:World}{n:Nat}{v:Value}{L:List (Int×Int)}(h:w.ownsRow base 53 2 v n (aL L))(hn:L.length=n):RR base w v L:=by subst hn;exact h
def shK(C:List (Int×Int))(k:Nat)(d:Int):List (Int×Int):=C.mapIdx fun i r=>if i<k then (r.1+d,r.2+d) else r
theorem aL0(C:List (Int×Int))(d:Int):shK C 0 d=C:=by
 unfold shK
 apply aBX
 ·simp
 ·intro i h1 h2;simp
theorem pO(C:List (Int×Int))(k:Nat)(d:Int):(shK C k d).length=C.length:=by simp [shK]
theorem aW5{C:List (Int×Int)}{k:Nat}{r:Int×Int}(h:C[k]?=some r)(d:Int):(shK C k d)[k]?=some r:=by
 simp [shK,h]
theorem aW4{C:List (Int×Int)}{k:Nat}{r:Int×Int}(h:C[k]?=some r)(d:Int):(shK C k d).set k (r.1+d,r.2+d)=shK C (k+1) d:=by
 obtain⟨hk,rfl⟩:=m8.1 h
 unfold shK
 apply aBX
 ·simp
 ·intro i h1 h2
  rw [List.getElem_set]
  simp only [List.getElem_mapIdx]
  by_cases hik:k=i
  ·subst hik;simp
  ·rw [if_neg hik]
   by_cases q:i<k
   ·rw [if_pos q,if_pos (by omega)]
   ·rw [if_neg q,if_neg (by omega)]
theorem aW6(C:List (Int×Int))(d:Int):shK C C.length d=C.map fun r=>(r.1+d,r.2+d):=by
 unfold shK
 apply aBX
 ·simp
 ·intro i h1 h2
  simp only [List.length_mapIdx] at h1
  simp [h1]
theorem iQ(C:List (Int×Int))(d c:Int):In (C.map fun r=>(r.1+d,r.2+d)) c↔In C (c-d):=by
 unfold In
 constructor
 ·rintro ⟨r,hr,h1,h2⟩
  obtain⟨x,hx,rfl⟩:=s4.1 hr
  exact⟨x,hx,by simp only at h1 h2;omega,by simp only at h1 h2;omega⟩
 ·rintro ⟨r,hr,h1,h2⟩
  exact⟨_,s4.2 ⟨r,hr,rfl⟩,by simp only;omega,by simp only;omega⟩
theorem zK{w:World}{v:Value}{L:List (Int×Int)}{a b d:Int}(h:ArgR w v L)(hF:Fit L)(hl:L.length+2<=8796093022208)(h0:65<=a)(hab:a<=b)(h1:b<=122)(hd1:-32<=d)(hd2:d<=32) :
  Calls Tryz.prog 108 #[v,.agg #[.int .i64 a,.int .i64 b],.int .i64 d] w fun e w'=>∃ v' D,e=.returned v'/\RR w.heap.size w' v' D/\Fit D/\(∀ c,In D c↔In L (c-d)/\a<=c-d/\c-d<=b)/\D.length<=L.length+1/\Below w.heap.size w w':=by
 have H:Hid (ArgR w v L/\Fit L):=⟨h,hF⟩
 have FB:Hid (Fit [(a,b)]):=gJ (by omega)
 have B2:Hid (Below w.heap.size w ((w.alloc (.cells #[.int .i64 a,.int .i64 b] 53)).alloc (.cells #[.int .i64 a,.int .i64 b] 53))):=(bz9).alloc (by simp) _
 have AB:Hid (ArgR ((w.alloc (.cells #[.int .i64 a,.int .i64 b] 53)).alloc (.cells #[.int .i64 a,.int .i64 b] 53)) (.slice (some ⟨w.heap.size+1,0,none⟩) 1 1) [(a,b)]):=aA <| by
  have:RR w.heap.size ((w.alloc (.cells #[.int .i64 a,.int .i64 b] 53)).alloc (.cells #[.int .i64 a,.int .i64 b] 53)) (.slice (some ⟨(w.alloc (.cells #[.int .i64 a,.int .i64 b] 53)).heap.size,0,none⟩) 1 1) [(a,b)]:=World.ownsRow_lit _ #[.int .i64 a,.int .i64 b] 1 (by simp) (by unfold maxLen;omega) rfl
  simpa using this.arg
 clear h hF
 go_enter Tryz.func108,Tryz.ntmps108
 go_wp2_with (go_at_call 114;refine(bP8 (H.out.1.kept B2.out) AB.out H.out.2 FB.out (by simp;omega)).mono ?_;rintro e w5 ⟨v5,C,rfl,p1,p2,p3,p4⟩;obtain⟨q5,c5,rfl⟩:=p1.shape;have X5:Hid (RR w.heap.size w5 (.slice q5 C.length c5) C/\IsC C (fun c=>In L c/\In [(a,b)] c)/\C.length<=L.length+1/\Below w.heap.size w w5):=⟨p1.mono B2.out.size,p2,p3,aG B2.out p4 lz9⟩;clear p1 p2 p3 p4)
 have hcl:=X5.out.2.2.1
 have BD:Hid (∀ (i:Nat) (r:Int×Int),C[i]?=some r->(a<=r.1/\r.1<=b)/\(a<=r.2/\r.2<=b)):=fun i r hr=>by
  have hm:=n8 hr
  have hs:=X5.out.2.1.cls.some r hm
  have p:=((X5.out.2.1.mem r.1).1 ⟨r,hm,aAW _,hs⟩).2
  have q:=((X5.out.2.1.mem r.2).1 ⟨r,hm,hs,aAW _⟩).2
  rw [dZ] at p q
  exact⟨p,q⟩
 go_loopw [15] (fun i wr=>∃ k:Nat,k<=C.length/\i=.int .i64 k/\RR w.heap.size wr (.slice q5 C.length c5) (shK C k d)/\Below w.heap.size w wr) (fun i _=>C.length-(intOf i).toNat)
 case atStart=>exact⟨0,o9 _,rfl,by rw [aL0];exact X5.out.1,X5.out.2.2.2⟩
 case round=>
  obtain⟨k,hk,rfl,hrr,hb⟩:=hrel
  have RK:Hid (RR w.heap.size wr (.slice q5 C.length c5) (shK C k d)):=hrr
  have B:Hid (Below w.heap.size w wr):=hb
  clear hrr hb
  by_cases hlt:k<C.length
  ·obtain⟨r,hr⟩:∃ r,C[k]?=some r:=⟨_,g9 hlt⟩
   have hbd:=BD.out k r hr
   have OW:Hid (wr.ownsRow w.heap.size 53 2 (.slice q5 C.length c5) C.length (aL (shK C k d))):=aA (by have:=RK.out;unfold RR at this;rwa [pO] at this)
   obtain⟨g,c',e⟩:=aO OW.out (by omega)
   cases e
   obtain⟨z1,z2⟩:=fZ _ k r (aW5 hr d)
   have d1:=aP OW.out z1
   have d2:=aP OW.out z2
   rw [aBB] at d1 d2
   have f1:=OW.out.frozenAt (k*2)
   have f2:=OW.out.frozenAt (k*2+1)
   have O2:Hid ((((wr.setCell ⟨g,k*2,none⟩ (.int .i64 (r.1+d))).setCell ⟨g,k*2+1,none⟩ (.int .i64 (r.2+d)))).ownsRow w.heap.size 53 2 (.slice (some ⟨g,0,none⟩) C.length c5) C.length (aL (shK C (k+1) d))):=aA (by
    have:=((OW.out.stored (k*2) (.int .i64 (r.1+d))).1.stored (k*2+1) (.int .i64 (r.2+d))).1
    rwa [qJ,aW4 hr] at this)
   have hgb:=(aF OW.out rfl).1
   have hgs:=(aF OW.out rfl).2.1
   have FB2:Hid (Below w.heap.size w ((wr.setCell ⟨g,k*2,none⟩ (.int .i64 (r.1+d))).setCell ⟨g,k*2+1,none⟩ (.int .i64 (r.2+d)))):=(B.out.setCell (p:=⟨g,k*2,none⟩) hgb _).setCell (p:=⟨g,k*2+1,none⟩) hgb _
   obtain⟨r1,r2⟩:=r
   dsimp only at d1 d2 hbd
   have w1:IntKind.wrap .i64 (r1+d)=r1+d:=by rw [IntKind.wrap_i64];omega
   have w2:IntKind.wrap .i64 (r2+d)=r2+d:=by rw [IntKind.wrap_i64];omega
   have i0:(0:Int)<=(k:Int):=by omega
   have i1:(k:Int)<(C.length:Int):=by omega
   clear z1 z2 hr hbd
   go_wp2
   go_roundw
   case rel=>exact⟨k+1,by omega,by go_num,aL9 O2.out (pO C (k+1) d),FB2.out⟩
   case measure=>simp [intOf];omega
  ·have i1:¬ (k:Int)<(C.length:Int):=by omega
   obtain rfl:k=C.length:=by omega
   rw [aW6] at RK
   go_wp2
   go_ret
   refine⟨_,rfl,_,RK.out,fun r hr=>?_,fun c=>?_,by simp;omega,B.out⟩
   ·obtain⟨x,hx,e⟩:=s4.1 hr
    subst e
    obtain⟨i,hi⟩:=List.getElem?_of_mem hx
    have:=BD.out i x hi
    simp only
    omega
   ·rw [iQ,X5.out.2.1.mem,dZ]
section
attribute [local go_sem] aU
theorem lT{A B:List (Int×Int)}{k:Nat}{a b:Int×Int}(ha:A[k]?=some a)(hb:B[k]?=some b)(h:A.take k=B.take k):A.take (k+1)=B.take (k+1)↔a=b:=by
 obtain⟨h1,rfl⟩:=m8.1 ha
 obtain⟨h2,rfl⟩:=m8.1 hb
 rw [dK A k h1,dK B k h2,h]
 simp only [List.append_cancel_left_eq,List.cons.injEq,and_true]
theorem tE{w:World}{va vb:Value}{A B:List (Int×Int)}(ha:ArgR w va A)(hb:ArgR w vb B) :
  Calls Tryz.prog 103 #[va,vb] w fun e w'=>e=.returned (.bool (decide (A=B)))/\Below w.heap.size w w':=by
 obtain⟨q1,cap1,rfl,hl1,-,hc1⟩:=ha.slice
 obtain⟨q2,cap2,rfl,hl2,-,hc2⟩:=hb.slice
 have HC1:Hid (∀ (i:Nat) (r:Int×Int),A[i]?=some r->∃ g off,q1=some ⟨g,off,none⟩/\g<w.heap.size/\w.cell? ⟨g,off+2*i,none⟩=some (.int .i64 r.1)/\w.cell? ⟨g,off+2*i+1,none⟩=some (.int .i64 r.2)):=hc1
 have HC2:Hid (∀ (i:Nat) (r:Int×Int),B[i]?=some r->∃ g off,q2=some ⟨g,off,none⟩/\g<w.heap.size/\w.cell? ⟨g,off+2*i,none⟩=some (.int .i64 r.1)/\w.cell? ⟨g,off+2*i+1,none⟩=some (.int .i64 r.2)):=hc2
 clear hc1 hc2 ha hb
 unfold maxLen at hl1 hl2
 by_cases hne:A.length=B.length
 ·have HNE:Hid (A.length=B.length):=hne
  rw [<- hne]
  have b1:(((A.length:Nat):Int) != ((A.length:Nat):Int))=false:=by simp
  clear hne hl2
  go_enter Tryz.func103,Tryz.ntmps103
  go_wp2
  go_loopw [13] (fun i wr=>∃ k:Nat,k<=A.length/\i=.int .i64 k/\A.take k=B.take k/\Below w.heap.size w wr) (fun i _=>A.length-(intOf i).toNat)
  case atStart=>exact⟨0,o9 _,rfl,by simp,Below.refl _ _⟩
  case round=>
   obtain⟨k,hk,rfl,ht,hbl⟩:=hrel
   have HT:Hid (A.take k=B.take k):=ht
   have BW:Hid (Below w.heap.size w wr):=hbl
   clear ht hbl
   by_cases hlt:k<A.length
   ·obtain⟨a,ea⟩:∃ r,A[k]?=some r:=⟨_,g9 hlt⟩
    obtain⟨b,eb⟩:∃ r,B[k]?=some r:=⟨_,g9 (by have:=HNE.out;omega)⟩
    obtain⟨g1,o1,rfl,hg1,x1,x2⟩:=HC1.out k _ ea
    obtain⟨g2,o2,rfl,hg2,y1,y2⟩:=HC2.out k _ eb
    have d1:=(BW.out.cell (p:=⟨g1,o1+2*k,none⟩) hg1).trans x1
    have d2:=(BW.out.cell (p:=⟨g1,o1+2*k+1,none⟩) hg1).trans x2
    have d3:=(BW.out.cell (p:=⟨g2,o2+2*k,none⟩) hg2).trans y1
    have d4:=(BW.out.cell (p:=⟨g2,o2+2*k+1,none⟩) hg2).trans y2
    rw [aBB] at d1 d2 d3 d4
    have s1:g1<wr.heap.size:=o8 hg1 BW.out.size
    have s2:g2<wr.heap.size:=o8 hg2 BW.out.size
    have NX:Hid (A.take (k+1)=B.take (k+1)↔a=b):=lT ea eb HT.out
    have NE:Hid (a≠b->¬ A=B):=fun q e=>by subst e;rw [ea] at eb;exact q (aAE eb)
    have i0:(0:Int)<=(k:Int):=by omega
    have i1:(k:Int)<(A.length:Int):=by omega
    obtain⟨a1,a2⟩:=a
    obtain⟨b1',b2⟩:=b
    dsimp only at d1 d2 d3 d4
    clear x1 x2 y1 y2 ea eb
    by_cases e1:a1=b1'
    ·by_cases e2:a2=b2
     ·subst e1 e2
      have f1:(a1==a1)=true:=by simp
      have f2:(a2==a2)=true:=by simp
      have NX2:Hid (A.take (k+1)=B.take (k+1)):=NX.out.2 rfl
      clear NX NE
      go_wp2
      refine wx9 ?_
      repeat (go_big_quiet_step (first | exact rfl))
      refine wpQuiet_nil ?_
      intro w7 hw7
      have B7:Hid (Below wr.heap.size wr w7):=aM hw7
      clear hw7
      go_wp2
      go_roundw
      case rel=>exact⟨k+1,by omega,by go_num,NX2.out,aG BW.out B7.out lz9⟩
      case measure=>simp [intOf];omega
     ·subst e1
      have f1:(a1==a1)=true:=by simp
      have f2:(a2==b2)=false:=by simp [e2]
      have N2:Hid (decide (A=B)=false):=r9 (NE.out (fun q=>e2 (Prod.mk.inj q).2))
      clear NX NE
      go_wp2
      refine wx9 ?_
      repeat (go_big_quiet_step (first | exact rfl))
      refine wpQuiet_nil ?_
      intro w7 hw7
      have B7:Hid (Below wr.heap.size wr w7):=aM hw7
      clear hw7
      go_wp2
      go_ret
      exact⟨by rw [N2.out];rfl,aG BW.out B7.out lz9⟩
    ·have f1:(a1==b1')=false:=by simp [e1]
     have N2:Hid (decide (A=B)=false):=r9 (NE.out (fun q=>e1 (Prod.mk.inj q).1))
     clear NX NE
     go_wp2
     refine wx9 ?_
     repeat (go_big_quiet_step (first | exact rfl))
     refine wpQuiet_nil ?_
     intro w7 hw7
     have B7:Hid (Below wr.heap.size wr w7):=aM hw7
     clear hw7
     go_wp2
     go_ret
     exact⟨by rw [N2.out];rfl,aG BW.out B7.out lz9⟩
   ·have i1:¬ (k:Int)<(A.length:Int):=by omega
    have EE:Hid (decide (A=B)=true):=aAM (by
     have e:=HT.out
     rw [o4 (by omega),o4 (by have:=HNE.out;omega)] at e
     exact e)
    go_wp2
    go_ret
    exact⟨by rw [EE.out];rfl,BW.out⟩
 ·have EE:Hid (decide (A=B)=false):=r9 (fun e=>hne (by rw [e]))
  have b1:(((A.length:Nat):Int) != ((B.length:Nat):Int))=true:=by simp;omega
  go_enter Tryz.func103,Tryz.ntmps103
  go_wp2
  go_ret
  exact⟨by rw [EE.out];rfl,Below.refl _ _⟩
end
def kX(L:List (Int×Int))(c:Int):Prop:=In L c\/(In L (c-32)/\65<=c-32/\c-32<=90)\/(In L (c+32)/\97<=c+32/\c+32<=122)
theorem wL{w:World}{va vb vc:Value}{A B C:List (Int×Int)}(ha:ArgR w va A)(hb:ArgR w vb B)(hc:ArgR w vc C)(t:TypeId):∀ (i:Nat) (p:Value×List (Int×Int)),[(va,A),(vb,B),(vc,C)][i]?=some p->(w.alloc (.cells #[va,vb,vc] t)).cell? ⟨w.heap.size,i,none⟩=some p.1/\ArgR (w.alloc (.cells #[va,vb,vc] t)) p.1 p.2:=by
 have B1:Below w.heap.size w (w.alloc (.cells #[va,vb,vc] t)):=bz9
 intro i p hp
 match i,hp with
 | 0,hp=>simp at hp;subst hp;exact⟨aB (aD w _) (i:=0) rfl,ha.kept B1⟩
 | 1,hp=>simp at hp;subst hp;exact⟨aB (aD w _) (i:=1) rfl,hb.kept B1⟩
 | 2,hp=>simp at hp;subst hp;exact⟨aB (aD w _) (i:=2) rfl,hc.kept B1⟩
theorem bC1{w:World}{va vb vc:Value}{A B C:List (Int×Int)}(ha:ArgR w va A)(hb:ArgR w vb B)(hc:ArgR w vc C)(hl:A.length+B.length+C.length+1<=8796093022208) :
  Calls Tryz.prog 90 #[.slice (some ⟨w.heap.size,0,none⟩) 3 3] (w.alloc (.cells #[va,vb,vc] 22)) fun e w'=>∃ v,e=.returned v/\RR w.heap.size w' v (A++(B++C))/\Below w.heap.size w w':=
 (vP (V:=[(va,A),(vb,B),(vc,C)]) (m:=3) rfl (wL ha hb hc 22) (by simp) (by omega) (by simp [fC];omega)).mono fun e w' ⟨v,h1,h2,h3⟩=>⟨v,h1,by have:=h2.mono (base':=w.heap.size) (by simp);simpa [fC] using this,aG (bz9) h3 lz9⟩
theorem bM4{w:World}{v:Value}{L:List (Int×Int)}(h:ArgR w v L)(hF:Fit L)(hl:3*L.length+9<=8796093022208) :
  Calls Tryz.prog 97 #[v] w (qW w (kX L) (3*L.length+2)):=by
 obtain⟨q1,k1,e1,-,-,-⟩:=h.slice
 subst e1
 have H:Hid (ArgR w (.slice q1 L.length k1) L/\Fit L):=⟨h,hF⟩
 have hl1:L.length+2<=8796093022208:=by omega
 clear h hF
 go_enter Tryz.func97,Tryz.ntmps97
 go_wp2_with first
  |(have hx:=X5.out;clear hx;go_at_call 108;have hih:=zK (a:=97) (b:=122) (d:=-32) (H.out.1.kept X5.out.2.2.2.2) H.out.2 hl1 (by omega) (by omega) (by omega) (by omega) (by omega);refine hih.mono ?_;clear hih;rintro e w6 ⟨v6,D6,rfl,h1,h2,h3,h4,h5⟩;obtain⟨q6,c6,rfl⟩:=h1.shape;have X6:Hid (RR w5.heap.size w6 (.slice q6 D6.length c6) D6/\Fit D6/\(∀ c,In D6 c↔In L (c - -32)/\97<=c - -32/\c - -32<=122)/\D6.length<=L.length+1/\Below w5.heap.size w5 w6):=⟨h1,h2,h3,h4,h5⟩;clear h1 h2 h3 h4 h5)
  |(go_at_call 108;have hih:=zK (a:=65) (b:=90) (d:=32) H.out.1 H.out.2 hl1 (by omega) (by omega) (by omega) (by omega) (by omega);refine hih.mono ?_;clear hih;rintro e w5 ⟨v5,D5,rfl,h1,h2,h3,h4,h5⟩;obtain⟨q5,c5,rfl⟩:=h1.shape;have X5:Hid (RR w.heap.size w5 (.slice q5 D5.length c5) D5/\Fit D5/\(∀ c,In D5 c↔In L (c-32)/\65<=c-32/\c-32<=90)/\D5.length<=L.length+1/\Below w.heap.size w w5):=⟨h1,h2,h3,h4,h5⟩;clear h1 h2 h3 h4 h5)
  |(go_at_call 90;refine(bC1 ((H.out.1.kept X5.out.2.2.2.2).kept X6.out.2.2.2.2) (X5.out.1.kept X6.out.2.2.2.2).arg X6.out.1.arg (by have:=X5.out.2.2.2.1;have:=X6.out.2.2.2.1;omega)).mono ?_;rintro e w7 ⟨v7,rfl,h1,h2⟩;have X7:Hid (RR w6.heap.size w7 v7 (L++(D5++D6))/\Below w6.heap.size w6 w7):=⟨h1,h2⟩;clear h1 h2)
  |(go_at_call 89;refine(eW X7.out.1.arg (cU H.out.2 (cU X5.out.2.1 X6.out.2.1)) (by have:=X5.out.2.2.2.1;have:=X6.out.2.2.2.1;simp;omega)).mono ?_;rintro e w8 ⟨v8,C8,rfl,h1,h2,h3,h4⟩;have X8:Hid (RR w7.heap.size w8 v8 C8/\IsC C8 (In (L++(D5++D6)))/\C8.length<=(L++(D5++D6)).length/\Below w7.heap.size w7 w8):=⟨h1,h2,h3,h4⟩;clear h1 h2 h3 h4)
 go_ret
 have B7:=aG (aG X5.out.2.2.2.2 X6.out.2.2.2.2 lz9) X7.out.2 lz9
 refine⟨_,_,rfl,X8.out.1.mono B7.size,X8.out.2.1.to fun c=>?_,?_,aG B7 X8.out.2.2.2 lz9⟩
 ·rw [cA,cA,X5.out.2.2.1,X6.out.2.2.1]
  unfold kX
  rw [show c - -32=c+32 by omega]
 ·have:=X8.out.2.2.1
  have:=X5.out.2.2.2.1
  have:=X6.out.2.2.2.1
  simp at *
  omega
theorem bI5{w:World}{va vb:Value}{A B:List (Int×Int)}(ha:ArgR w va A)(hb:ArgR w vb B)(fa:Fit A)(fb:Fit B)(hl1:A.length<=8796093022208)(hl2:B.length<=8796093022208) :
  Calls Tryz.prog 96 #[va,vb] w fun e w'=>∃ b:Bool,e=.returned (.bool b)/\(b=true ↔ ∀ c,In A c↔In B c)/\Below w.heap.size w w':=by
 have H:Hid (ArgR w va A/\Fit A):=⟨ha,fa⟩
 have K:Hid (ArgR w vb B/\Fit B):=⟨hb,fb⟩
 clear ha hb fa fb
 go_enter Tryz.func96,Tryz.ntmps96
 go_wp2_with first
  |(have hx:=X5.out;clear hx;go_at_call 89;have hih:=eW (K.out.1.kept X5.out.2.2.2) K.out.2 hl2;refine hih.mono ?_;clear hih;rintro e w6 ⟨v6,C6,rfl,h1,h2,h3,h4⟩;have X6:Hid (RR w5.heap.size w6 v6 C6/\IsC C6 (In B)/\C6.length<=B.length/\Below w5.heap.size w5 w6):=⟨h1,h2,h3,h4⟩;clear h1 h2 h3 h4)
  |(go_at_call 89;refine(eW H.out.1 H.out.2 hl1).mono ?_;rintro e w5 ⟨v5,C5,rfl,h1,h2,h3,h4⟩;have X5:Hid (RR w.heap.size w5 v5 C5/\IsC C5 (In A)/\C5.length<=A.length/\Below w.heap.size w w5):=⟨h1,h2,h3,h4⟩;clear h1 h2 h3 h4)
  |(go_at_call 103;refine(tE (X5.out.1.kept X6.out.2.2.2).arg X6.out.1.arg).mono ?_;obtain⟨bb,hbb⟩:∃ bb,decide (C5=C6)=bb:=⟨_,rfl⟩;rw [hbb];have EB:Hid (decide (C5=C6)=bb):=hbb;clear hbb;rintro e w7 ⟨rfl,h1⟩;have X7:Hid (Below w6.heap.size w6 w7):=h1;clear h1)
 go_ret
 refine⟨bb,rfl,?_,aG (aG X5.out.2.2.2 X6.out.2.2.2 lz9) X7.out lz9⟩
 rw [<- EB.out,decide_eq_true_iff]
 constructor
 ·intro e c
  rw [<- X5.out.2.1.mem,<- X6.out.2.1.mem,e]
 ·intro e
  exact X5.out.2.1.one X6.out.2.1 e
theorem yZ{w:World}{v:Value}{L:List (Int×Int)}{m:Bool}(h:ArgR w v L)(hF:Fit L)(hl:L.length+3<=8796093022208) :
  Calls Tryz.prog 95 #[v,.bool m] w fun e w'=>∃ b:Bool,e=.returned (.bool b)/\(b=true↔IsC L (fun c=>In L c/\eB m c))/\Below w.heap.size w w':=by
 have H:Hid (ArgR w v L/\Fit L):=⟨h,hF⟩
 clear h hF
 go_enter Tryz.func95,Tryz.ntmps95
 go_wp2_with first
  |(go_at_call 107;refine(bK4 H.out.1 H.out.2 hl).mono ?_;rintro e w5 ⟨v5,C5,rfl,h1,h2,h3,h4⟩;have X5:Hid (RR w.heap.size w5 v5 C5/\IsC C5 (fun c=>In L c/\eB m c)/\C5.length<=L.length+2/\Below w.heap.size w w5):=⟨h1,h2,h3,h4⟩;clear h1 h2 h3 h4)
  |(go_at_call 103;refine(tE (H.out.1.kept X5.out.2.2.2) X5.out.1.arg).mono ?_;obtain⟨bb,hbb⟩:∃ bb,decide (L=C5)=bb:=⟨_,rfl⟩;rw [hbb];have EB:Hid (decide (L=C5)=bb):=hbb;clear hbb;rintro e w7 ⟨rfl,h1⟩;have X7:Hid (Below w5.heap.size w5 w7):=h1;clear h1)
 go_ret
 refine⟨bb,rfl,?_,aG X5.out.2.2.2 X7.out lz9⟩
 rw [<- EB.out,decide_eq_true_iff]
 constructor
 ·intro e
  have h2:=X5.out.2.1
  rw [<- e] at h2
  exact h2
 ·intro e
  exact e.one X5.out.2.1 fun _=>Iff.rfl
section
attribute [local go_sem] aU
def lK(L:List (Int×Int))(c:Int):Bool:=L.any fun r=>decide (r.1<=c)&&decide (c<=r.2)
theorem aQ8(L:List (Int×Int))(c:Int):lK L c=true↔In L c:=by
 simp [lK,In]
theorem rH{L:List (Int×Int)}{k:Nat}{r:Int×Int}(h:L[k]?=some r)(c:Int):lK (L.take (k+1)) c=(lK (L.take k) c ||(decide (r.1<=c)&&decide (c<=r.2))):=by
 obtain⟨hk,rfl⟩:=m8.1 h
 rw [dK L k hk]
 unfold lK
 rw [List.any_append]
 simp only [aCC,List.any_nil,Bool.or_false]
theorem yB{L:List (Int×Int)}{k:Nat}{r:Int×Int}{c:Int}(h:L[k]?=some r)(h1:r.1<=c)(h2:c<=r.2):lK L c=true:=(aQ8 L c).2 ⟨r,n8 h,h1,h2⟩
end
theorem aG6{m:Bool}{c:Int}(h:eB m c):0<=c/\c<1114112:=by
 obtain⟨h1,h2,_⟩:=h
 unfold top at h2
 split at h2 <;> omega
theorem aA2:∀ (C:List (Int×Int)) (lo hi:Int),Cls C->(∀ c,In C c->lo<=c/\c<=hi)->C=[]\/2*(C.length:Int)<=hi-lo+2
 | [],_,_,_,_=>.inl rfl
 | r :: C,lo,hi,h,hb=>by
  have hr:=eO h
  have b1:=hb r.1 ((bK ..).2 (.inl ⟨aAW _,hr⟩))
  have b2:=hb r.2 ((bK ..).2 (.inl ⟨hr,aAW _⟩))
  refine .inr ?_
  rcases aA2 C (r.2+2) hi (jS h) (fun c hc=>⟨by have:=dL h hc;omega,(hb c ((bK ..).2 (.inr hc))).2⟩) with rfl | q
  ·simp;omega
  ·simp;omega
theorem aS9{C:List (Int×Int)}{p:Int->Prop}{m:Bool}(h:IsC C p)(hc:∀ c,p c->eB m c):C.length<=600000:=by
 rcases aA2 C 0 1114111 h.cls (fun c q=>by have:=aG6 (hc c ((h.mem c).1 q));omega) with rfl | q
 ·simp
 ·omega
section
attribute [local go_sem] aU
def lC(c f:Bool)(L:List (Int×Int)):Prop:=IsC L (fun x=>In L x/\eB c x)/\(f=true->∀ x,In L x↔kX L x)
theorem mA{c:Bool}{L:List (Int×Int)}(h:IsC L (fun x=>In L x/\eB c x)):L.length<=600000:=aS9 (m:=c) h (fun _ q=>q.2)
theorem pQ{w:World}{q:Option Addr}{k:Nat}{L:List (Int×Int)}(c f:Bool)(h:ArgR w (.slice q L.length k) L)(hF:Fit L)(hl:L.length+3<=8796093022208) :
  Calls Tryz.prog 84 #[.slice q L.length k,.agg #[.bool c,.bool f]] w fun e w'=>∃ r:Bool,e=.returned (.bool r)/\(r=true↔lC c f L)/\Below w.heap.size w w':=by
 have H:=aA h
 have B1:Hid (Below w.heap.size w (w.alloc (.cells #[.bool c,.bool f] 27))):=bz9
 have N1:=aD w (.cells #[.bool c,.bool f] 27)
 have m0:(w.alloc (.cells #[.bool c,.bool f] 27)).cell? ⟨w.heap.size,0,none⟩=some (.bool c):=aB N1 (i:=0) rfl
 clear h
 by_cases hc:IsC L (fun x=>In L x/\eB c x)
 ·have hlen:=mA hc
  have HC:=aA hc
  have HR:Hid (∀ W:World,Below w.heap.size w W->Calls Tryz.prog 95 #[.slice q L.length k,.bool c] W fun e w'=>e=.returned (.bool true)/\Below W.heap.size W w'):=fun W hW=>(yZ (m:=c) (H.out.kept hW) hF hl).mono fun e w' ⟨b,h1,h2,h3⟩=>⟨by rw [h1,h2.2 HC.out],h3⟩
  clear hc
  cases f with
  | false=>
   go_enter Tryz.func84,Tryz.ntmps84
   go_wp2_with (go_at_call 95;(with_reducible refine(HR.out _ B1.out).mono ?_);rintro e w2 ⟨rfl,h2⟩;have B2:Hid (Below w.heap.size w w2):=aG B1.out h2 lz9;have m1:w2.cell? ⟨w.heap.size,1,none⟩=some (.bool false):=(h2.cell (p:=⟨w.heap.size,1,none⟩) (aC N1)).trans (aB N1 (i:=1) rfl);clear h2)
   go_ret
   exact⟨true,rfl,by simp [lC,HC.out],B2.out⟩
  | true=>
   go_enter Tryz.func84,Tryz.ntmps84
   go_wp2_with first |(go_at_call 95;(with_reducible refine(HR.out _ B1.out).mono ?_);rintro e w2 ⟨rfl,h2⟩;have B2:Hid (Below w.heap.size w w2):=aG B1.out h2 lz9;have m1:w2.cell? ⟨w.heap.size,1,none⟩=some (.bool true):=(h2.cell (p:=⟨w.heap.size,1,none⟩) (aC N1)).trans (aB N1 (i:=1) rfl);clear h2) |(go_at_call 97;(with_reducible refine(bM4 (H.out.kept B2.out) hF (by omega)).mono ?_);rintro e w3 ⟨v3,C3,rfl,h31,h32,h33,h34⟩;obtain⟨q3,c3,rfl⟩:=h31.shape;have X3:Hid (RR w2.heap.size w3 (.slice q3 C3.length c3) C3/\IsC C3 (kX L)/\C3.length<=3*L.length+2/\Below w.heap.size w w3):=⟨h31,h32,h33,aG B2.out h34 lz9⟩;clear h31 h32 h33 h34) |(go_at_call 96;(with_reducible refine(bI5 (H.out.kept X3.out.2.2.2) X3.out.1.arg hF X3.out.2.1.fit (by omega) (by have:=X3.out.2.2.1;omega)).mono ?_);rintro e w4 ⟨r4,rfl,h41,h42⟩;have X4:Hid ((r4=true ↔ ∀ x,In L x↔In C3 x)/\Below w.heap.size w w4):=⟨h41,aG X3.out.2.2.2 h42 lz9⟩;clear h41 h42)
   go_ret
   refine⟨r4,rfl,?_,X4.out.2⟩
   rw [X4.out.1]
   unfold lC
   constructor
   ·intro h
    exact⟨HC.out,fun _ x=>(h x).trans (X3.out.2.1.mem x)⟩
   ·intro h x
    exact(h.2 rfl x).trans (X3.out.2.1.mem x).symm
 ·have HC:=aA hc
  have HR:Hid (∀ W:World,Below w.heap.size w W->Calls Tryz.prog 95 #[.slice q L.length k,.bool c] W fun e w'=>e=.returned (.bool false)/\Below W.heap.size W w'):=fun W hW=>(yZ (m:=c) (H.out.kept hW) hF hl).mono fun e w' ⟨b,h1,h2,h3⟩=>⟨by
   cases b with
   | false=>exact h1
   | true=>exact absurd (h2.1 rfl) HC.out,h3⟩
  clear hc
  go_enter Tryz.func84,Tryz.ntmps84
  go_wp2_with (go_at_call 95;(with_reducible refine(HR.out _ B1.out).mono ?_);rintro e w2 ⟨rfl,h2⟩;have B2:Hid (Below w.heap.size w w2):=aG B1.out h2 lz9;clear h2)
  go_ret
  exact⟨false,rfl,by simp [lC,HC.out],B2.out⟩
def aS(c f:Bool)(g:Int)(F:Fl):Prop:=
 if F.k=2 then lC c f F.rs/\F.n=0/\F.mn=0/\F.mx=0
 else if F.k=7 then F.n=g/\F.mn=0/\F.mx=0/\F.rs.length=0
 else if F.k=8 then (1<=F.n/\F.n<=9)/\F.mn=0/\F.mx=0/\F.rs.length=0
 else if F.k=9 then eX F.mn F.mx=true/\F.n=0/\F.rs.length=0
 else F.n=0/\F.mn=0/\F.mx=0/\F.rs.length=0
theorem nC{n:Nat}{w W:World}(h:Below n w W){b:Nat}(hb:n<=b)(j:Nat)(u:Value)(hn:n<=w.heap.size):Below n w (W.setCell ⟨b,j,none⟩ u):=
 bB h (S:=fun z=>z=b) ((Fr.refl (fun z=>z=b) W).setCell (p:=⟨b,j,none⟩) rfl u) hn (fun k e=>by omega)
theorem qN{w:World}(F:Fl)(c f:Bool)(g:Int)(h:ArgR w (.slice F.rq F.rs.length F.rc) F.rs)(hF:Fit F.rs)(hl:F.rs.length+3<=8796093022208) :
  Calls Tryz.prog 63 #[.agg #[.int .i64 F.k,.int .i64 F.n,.int .i64 F.mn,.int .i64 F.mx,.slice F.rq F.rs.length F.rc,.slice F.kq F.kl F.kc],.agg #[.bool c,.bool f],.int .i64 g] w fun e w'=>∃ r:Bool,e=.returned (.bool r)/\(r=true↔aS c f g F)/\Below w.heap.size w w':=by
 obtain⟨r,hr⟩:∃ r:Bool,r=true↔aS c f g F:=⟨@decide (aS c f g F) (Classical.propDecidable _),by simp⟩
 suffices hs:Calls Tryz.prog 63 #[.agg #[.int .i64 F.k,.int .i64 F.n,.int .i64 F.mn,.int .i64 F.mx,.slice F.rq F.rs.length F.rc,.slice F.kq F.kl F.kc],.agg #[.bool c,.bool f],.int .i64 g] w fun e w'=>e=.returned (.bool r)/\Below w.heap.size w w' from hs.mono fun e w' ⟨h1,h2⟩=>⟨r,h1,hr,h2⟩
 have HR:=aA hr
 clear hr
 have B1:Hid (Below w.heap.size w ((w.alloc (.cells #[.int .i64 F.k,.int .i64 F.n,.int .i64 F.mn,.int .i64 F.mx,.slice F.rq F.rs.length F.rc,.slice F.kq F.kl F.kc] 25)).alloc (.cells #[.bool c,.bool f] 27))):=(bz9).alloc (by simp) _
 have N1:Hid (BoxN ((w.alloc (.cells #[.int .i64 F.k,.int .i64 F.n,.int .i64 F.mn,.int .i64 F.mx,.slice F.rq F.rs.length F.rc,.slice F.kq F.kl F.kc] 25)).alloc (.cells #[.bool c,.bool f] 27)) w.heap.size F):=(Below.heap_alloc _ _ _ (by simp)).trans (aD w _)
 have M1:Hid (((w.alloc (.cells #[.int .i64 F.k,.int .i64 F.n,.int .i64 F.mn,.int .i64 F.mx,.slice F.rq F.rs.length F.rc,.slice F.kq F.kl F.kc] 25)).alloc (.cells #[.bool c,.bool f] 27)).heap[w.heap.size+1]?=some (.cells #[.bool c,.bool f] 27 (0,0))):=(by
  have:=aD (w.alloc (.cells #[.int .i64 F.k,.int .i64 F.n,.int .i64 F.mn,.int .i64 F.mx,.slice F.rq F.rs.length F.rc,.slice F.kq F.kl F.kc] 25)) (.cells #[.bool c,.bool f] 27)
  rwa [v9] at this)
 have H:=aA h
 obtain⟨k,n,mn,mx,rs,rq,rc,kq,kl,kc⟩:=F
 dsimp only at *
 have m0:((w.alloc (.cells #[.int .i64 k,.int .i64 n,.int .i64 mn,.int .i64 mx,.slice rq rs.length rc,.slice kq kl kc] 25)).alloc (.cells #[.bool c,.bool f] 27)).cell? ⟨w.heap.size+1,0,none⟩=some (.bool c):=aB M1.out (i:=0) rfl
 have m1:((w.alloc (.cells #[.int .i64 k,.int .i64 n,.int .i64 mn,.int .i64 mx,.slice rq rs.length rc,.slice kq kl kc] 25)).alloc (.cells #[.bool c,.bool f] 27)).cell? ⟨w.heap.size+1,1,none⟩=some (.bool f):=aB M1.out (i:=1) rfl
 obtain⟨c0,c1,c2,c3,c4,c5⟩:=N1.out.six
 simp only [m7] at c1 c2 c3 c4 c5
 have fz:=fun j=>aK N1.out j
 have ln:=aC N1.out
 clear h
 by_cases k2:k=2
 ·subst k2
  by_cases z0:lC c f rs
  ·have HS:Hid (∀ W:World,Below w.heap.size w W->Calls Tryz.prog 84 #[.slice rq rs.length rc,.agg #[.bool c,.bool f]] W fun e w'=>e=.returned (.bool true)/\Below W.heap.size W w'):=fun W hW=>(pQ c f (H.out.kept hW) hF hl).mono fun e w' ⟨b,h1,h2,h3⟩=>⟨by rw [h1];cases b <;> simp_all,h3⟩
   by_cases z1:n=0
   ·subst z1
    by_cases z2:mn=0
    ·subst z2
     by_cases z3:mx=0
     ·subst z3
      have R:r=true:=HR.out.2 (by unfold aS;simp_all)
      subst R
      go_enter Tryz.func63,Tryz.ntmps63
      go_wp2_with (go_at_call 84;(with_reducible refine(HS.out _ B1.out).mono ?_);rintro e w2 ⟨rfl,h2⟩;have B2:Hid (Below w.heap.size w (w2.setCell ⟨w.heap.size,4,none⟩ (.slice none 0 0))):=nC (aG B1.out h2 lz9) lz9 _ _ lz9;have N2:BoxN w2 w.heap.size _:=(h2.block _ (aC N1.out)).trans N1.out;obtain⟨d0,d1,d2,d3,d4,d5⟩:=N2.six;simp only [m7] at d1 d2 d3 d4 d5;have gz:=aK N2 4;have p1:=aE (j:=4) (u:=.slice none 0 0) d1 (by decide);have p2:=aE (j:=4) (u:=.slice none 0 0) d2 (by decide);have p3:=aE (j:=4) (u:=.slice none 0 0) d3 (by decide);have p4:=s8 w2 ⟨w.heap.size,4,none⟩ (.slice none 0 0) d4;have ln2:=aC N2;clear h2 N2)
      go_ret
      exact⟨rfl,B2.out⟩
     ·have R:r=false:=(by cases r with | false=>rfl | true=>exact absurd (HR.out.1 rfl) (by unfold aS;simp_all <;> omega))
      subst R
      have ez3:(mx==0)=false:=by simpa using z3
      go_enter Tryz.func63,Tryz.ntmps63
      go_wp2_with (go_at_call 84;(with_reducible refine(HS.out _ B1.out).mono ?_);rintro e w2 ⟨rfl,h2⟩;have B2:Hid (Below w.heap.size w (w2.setCell ⟨w.heap.size,4,none⟩ (.slice none 0 0))):=nC (aG B1.out h2 lz9) lz9 _ _ lz9;have N2:BoxN w2 w.heap.size _:=(h2.block _ (aC N1.out)).trans N1.out;obtain⟨d0,d1,d2,d3,d4,d5⟩:=N2.six;simp only [m7] at d1 d2 d3 d4 d5;have gz:=aK N2 4;have p1:=aE (j:=4) (u:=.slice none 0 0) d1 (by decide);have p2:=aE (j:=4) (u:=.slice none 0 0) d2 (by decide);have p3:=aE (j:=4) (u:=.slice none 0 0) d3 (by decide);have p4:=s8 w2 ⟨w.heap.size,4,none⟩ (.slice none 0 0) d4;have ln2:=aC N2;clear h2 N2)
      go_ret
      exact⟨rfl,B2.out⟩
    ·have R:r=false:=(by cases r with | false=>rfl | true=>exact absurd (HR.out.1 rfl) (by unfold aS;simp_all <;> omega))
     subst R
     have ez2:(mn==0)=false:=by simpa using z2
     go_enter Tryz.func63,Tryz.ntmps63
     go_wp2_with (go_at_call 84;(with_reducible refine(HS.out _ B1.out).mono ?_);rintro e w2 ⟨rfl,h2⟩;have B2:Hid (Below w.heap.size w (w2.setCell ⟨w.heap.size,4,none⟩ (.slice none 0 0))):=nC (aG B1.out h2 lz9) lz9 _ _ lz9;have N2:BoxN w2 w.heap.size _:=(h2.block _ (aC N1.out)).trans N1.out;obtain⟨d0,d1,d2,d3,d4,d5⟩:=N2.six;simp only [m7] at d1 d2 d3 d4 d5;have gz:=aK N2 4;have p1:=aE (j:=4) (u:=.slice none 0 0) d1 (by decide);have p2:=aE (j:=4) (u:=.slice none 0 0) d2 (by decide);have p3:=aE (j:=4) (u:=.slice none 0 0) d3 (by decide);have p4:=s8 w2 ⟨w.heap.size,4,none⟩ (.slice none 0 0) d4;have ln2:=aC N2;clear h2 N2)
     go_ret
     exact⟨rfl,B2.out⟩
   ·have R:r=false:=(by cases r with | false=>rfl | true=>exact absurd (HR.out.1 rfl) (by unfold aS;simp_all <;> omega))
    subst R
    have ez1:(n==0)=false:=by simpa using z1
    go_enter Tryz.func63,Tryz.ntmps63
    go_wp2_with (go_at_call 84;(with_reducible refine(HS.out _ B1.out).mono ?_);rintro e w2 ⟨rfl,h2⟩;have B2:Hid (Below w.heap.size w (w2.setCell ⟨w.heap.size,4,none⟩ (.slice none 0 0))):=nC (aG B1.out h2 lz9) lz9 _ _ lz9;have N2:BoxN w2 w.heap.size _:=(h2.block _ (aC N1.out)).trans N1.out;obtain⟨d0,d1,d2,d3,d4,d5⟩:=N2.six;simp only [m7] at d1 d2 d3 d4 d5;have gz:=aK N2 4;have p1:=aE (j:=4) (u:=.slice none 0 0) d1 (by decide);have p2:=aE (j:=4) (u:=.slice none 0 0) d2 (by decide);have p3:=aE (j:=4) (u:=.slice none 0 0) d3 (by decide);have p4:=s8 w2 ⟨w.heap.size,4,none⟩ (.slice none 0 0) d4;have ln2:=aC N2;clear h2 N2)
    go_ret
    exact⟨rfl,B2.out⟩
  ·have HS:Hid (∀ W:World,Below w.heap.size w W->Calls Tryz.prog 84 #[.slice rq rs.length rc,.agg #[.bool c,.bool f]] W fun e w'=>e=.returned (.bool false)/\Below W.heap.size W w'):=fun W hW=>(pQ c f (H.out.kept hW) hF hl).mono fun e w' ⟨b,h1,h2,h3⟩=>⟨by rw [h1];cases b <;> simp_all,h3⟩
   have R:r=false:=(by cases r with | false=>rfl | true=>exact absurd (HR.out.1 rfl) (by unfold aS;simp_all))
   subst R
   go_enter Tryz.func63,Tryz.ntmps63
   go_wp2_with (go_at_call 84;(with_reducible refine(HS.out _ B1.out).mono ?_);rintro e w2 ⟨rfl,h2⟩;have B2:Hid (Below w.heap.size w (w2.setCell ⟨w.heap.size,4,none⟩ (.slice none 0 0))):=nC (aG B1.out h2 lz9) lz9 _ _ lz9;have N2:BoxN w2 w.heap.size _:=(h2.block _ (aC N1.out)).trans N1.out;obtain⟨d0,d1,d2,d3,d4,d5⟩:=N2.six;simp only [m7] at d1 d2 d3 d4 d5;have gz:=aK N2 4;have p1:=aE (j:=4) (u:=.slice none 0 0) d1 (by decide);have p2:=aE (j:=4) (u:=.slice none 0 0) d2 (by decide);have p3:=aE (j:=4) (u:=.slice none 0 0) d3 (by decide);have p4:=s8 w2 ⟨w.heap.size,4,none⟩ (.slice none 0 0) d4;have ln2:=aC N2;clear h2 N2)
   go_ret
   exact⟨rfl,B2.out⟩
 ·have eb2:(k==2)=false:=by simpa using k2
  by_cases k7:k=7
  ·subst k7
   have p1:=s8 _ _ (.int .i64 0) c1
   have p2:=aE (j:=1) (u:=.int .i64 0) c2 (by decide)
   have p3:=aE (j:=1) (u:=.int .i64 0) c3 (by decide)
   have p4:=aE (j:=1) (u:=.int .i64 0) c4 (by decide)
   by_cases z0:n=g
   ·subst z0
    by_cases z2:mn=0
    ·subst z2
     by_cases z3:mx=0
     ·subst z3
      by_cases z4:rs.length=0
      ·obtain rfl:=aAD z4
       have R:r=true:=HR.out.2 (by unfold aS;simp_all)
       subst R
       go_enter Tryz.func63,Tryz.ntmps63
       go_wp2
       go_ret
       exact⟨rfl,(bz9).alloc (by simp) _⟩
      ·have R:r=false:=(by cases r with | false=>rfl | true=>exact absurd (HR.out.1 rfl) (by unfold aS;simp_all <;> omega))
       subst R
       have el:((rs.length:Int)==0)=false:=by simpa using z4
       go_enter Tryz.func63,Tryz.ntmps63
       go_wp2
       go_ret
       exact⟨rfl,(bz9).alloc (by simp) _⟩
     ·have R:r=false:=(by cases r with | false=>rfl | true=>exact absurd (HR.out.1 rfl) (by unfold aS;simp_all <;> omega))
      subst R
      have ez3:(mx==0)=false:=by simpa using z3
      go_enter Tryz.func63,Tryz.ntmps63
      go_wp2
      go_ret
      exact⟨rfl,(bz9).alloc (by simp) _⟩
    ·have R:r=false:=(by cases r with | false=>rfl | true=>exact absurd (HR.out.1 rfl) (by unfold aS;simp_all <;> omega))
     subst R
     have ez2:(mn==0)=false:=by simpa using z2
     go_enter Tryz.func63,Tryz.ntmps63
     go_wp2
     go_ret
     exact⟨rfl,(bz9).alloc (by simp) _⟩
   ·have R:r=false:=(by cases r with | false=>rfl | true=>exact absurd (HR.out.1 rfl) (by unfold aS;simp_all <;> omega))
    subst R
    have e0:(n==g)=false:=by simpa using z0
    go_enter Tryz.func63,Tryz.ntmps63
    go_wp2
    go_ret
    exact⟨rfl,(bz9).alloc (by simp) _⟩
  ·have eb7:(k==7)=false:=by simpa using k7
   by_cases k8:k=8
   ·subst k8
    have p1:=s8 _ _ (.int .i64 0) c1
    have p2:=aE (j:=1) (u:=.int .i64 0) c2 (by decide)
    have p3:=aE (j:=1) (u:=.int .i64 0) c3 (by decide)
    have p4:=aE (j:=1) (u:=.int .i64 0) c4 (by decide)
    by_cases z0:1<=n
    ·skip
     by_cases z1:n<=9
     ·skip
      by_cases z2:mn=0
      ·subst z2
       by_cases z3:mx=0
       ·subst z3
        by_cases z4:rs.length=0
        ·obtain rfl:=aAD z4
         have R:r=true:=HR.out.2 (by unfold aS;simp_all)
         subst R
         go_enter Tryz.func63,Tryz.ntmps63
         go_wp2
         go_ret
         exact⟨rfl,(bz9).alloc (by simp) _⟩
        ·have R:r=false:=(by cases r with | false=>rfl | true=>exact absurd (HR.out.1 rfl) (by unfold aS;simp_all <;> omega))
         subst R
         have el:((rs.length:Int)==0)=false:=by simpa using z4
         go_enter Tryz.func63,Tryz.ntmps63
         go_wp2
         go_ret
         exact⟨rfl,(bz9).alloc (by simp) _⟩
       ·have R:r=false:=(by cases r with | false=>rfl | true=>exact absurd (HR.out.1 rfl) (by unfold aS;simp_all <;> omega))
        subst R
        have ez3:(mx==0)=false:=by simpa using z3
        go_enter Tryz.func63,Tryz.ntmps63
        go_wp2
        go_ret
        exact⟨rfl,(bz9).alloc (by simp) _⟩
      ·have R:r=false:=(by cases r with | false=>rfl | true=>exact absurd (HR.out.1 rfl) (by unfold aS;simp_all <;> omega))
       subst R
       have ez2:(mn==0)=false:=by simpa using z2
       go_enter Tryz.func63,Tryz.ntmps63
       go_wp2
       go_ret
       exact⟨rfl,(bz9).alloc (by simp) _⟩
     ·have R:r=false:=(by cases r with | false=>rfl | true=>exact absurd (HR.out.1 rfl) (by unfold aS;simp_all <;> omega))
      subst R
      go_enter Tryz.func63,Tryz.ntmps63
      go_wp2
      go_ret
      exact⟨rfl,(bz9).alloc (by simp) _⟩
    ·have R:r=false:=(by cases r with | false=>rfl | true=>exact absurd (HR.out.1 rfl) (by unfold aS;simp_all <;> omega))
     subst R
     go_enter Tryz.func63,Tryz.ntmps63
     go_wp2
     go_ret
     exact⟨rfl,(bz9).alloc (by simp) _⟩
   ·have eb8:(k==8)=false:=by simpa using k8
    by_cases k9:k=9
    ·subst k9
     have p2:=aE (j:=3) (u:=.int .i64 0) (s8 _ _ (.int .i64 0) c2) (by decide)
     have q3:=aE (j:=2) (u:=.int .i64 0) c3 (by decide)
     have p3:=s8 _ _ (.int .i64 0) q3
     have p1:=aE (j:=3) (u:=.int .i64 0) (aE (j:=2) (u:=.int .i64 0) c1 (by decide)) (by decide)
     have p4:=aE (j:=3) (u:=.int .i64 0) (aE (j:=2) (u:=.int .i64 0) c4 (by decide)) (by decide)
     have HB:=aA (qP mn mx)
     obtain⟨bb,hbb⟩:∃ bb,eX mn mx=bb:=⟨_,rfl⟩
     rw [hbb] at HB
     cases bb with
     | true=>
      by_cases z1:n=0
      ·subst z1
       by_cases z4:rs.length=0
       ·obtain rfl:=aAD z4
        have R:r=true:=HR.out.2 (by unfold aS;simp_all)
        subst R
        go_enter Tryz.func63,Tryz.ntmps63
        go_wp2_with (go_at_call 85;(with_reducible refine(HB.out _).mono ?_);rintro e w5 ⟨rfl,h5⟩;subst w5)
        go_ret
        exact⟨rfl,(bz9).alloc (by simp) _⟩
       ·have R:r=false:=(by cases r with | false=>rfl | true=>exact absurd (HR.out.1 rfl) (by unfold aS;simp_all <;> omega))
        subst R
        have el:((rs.length:Int)==0)=false:=by simpa using z4
        go_enter Tryz.func63,Tryz.ntmps63
        go_wp2_with (go_at_call 85;(with_reducible refine(HB.out _).mono ?_);rintro e w5 ⟨rfl,h5⟩;subst w5)
        go_ret
        exact⟨rfl,(bz9).alloc (by simp) _⟩
      ·have R:r=false:=(by cases r with | false=>rfl | true=>exact absurd (HR.out.1 rfl) (by unfold aS;simp_all <;> omega))
       subst R
       have ez1:(n==0)=false:=by simpa using z1
       go_enter Tryz.func63,Tryz.ntmps63
       go_wp2_with (go_at_call 85;(with_reducible refine(HB.out _).mono ?_);rintro e w5 ⟨rfl,h5⟩;subst w5)
       go_ret
       exact⟨rfl,(bz9).alloc (by simp) _⟩
     | false=>
      have R:r=false:=(by cases r with | false=>rfl | true=>exact absurd (HR.out.1 rfl) (by unfold aS;simp_all))
      subst R
      go_enter Tryz.func63,Tryz.ntmps63
      go_wp2_with (go_at_call 85;(with_reducible refine(HB.out _).mono ?_);rintro e w5 ⟨rfl,h5⟩;subst w5)
      go_ret
      exact⟨rfl,(bz9).alloc (by simp) _⟩
    ·have eb9:(k==9)=false:=by simpa using k9
     by_cases z1:n=0
     ·subst z1
      by_cases z2:mn=0
      ·subst z2
       by_cases z3:mx=0
       ·subst z3
        by_cases z4:rs.length=0
        ·obtain rfl:=aAD z4
         have R:r=true:=HR.out.2 (by unfold aS;simp_all)
         subst R
         go_enter Tryz.func63,Tryz.ntmps63
         go_wp2
         go_ret
         exact⟨rfl,B1.out⟩
        ·have R:r=false:=(by cases r with | false=>rfl | true=>exact absurd (HR.out.1 rfl) (by unfold aS;simp_all <;> omega))
         subst R
         have el:((rs.length:Int)==0)=false:=by simpa using z4
         go_enter Tryz.func63,Tryz.ntmps63
         go_wp2
         go_ret
         exact⟨rfl,B1.out⟩
       ·have R:r=false:=(by cases r with | false=>rfl | true=>exact absurd (HR.out.1 rfl) (by unfold aS;simp_all <;> omega))
        subst R
        have ez3:(mx==0)=false:=by simpa using z3
        go_enter Tryz.func63,Tryz.ntmps63
        go_wp2
        go_ret
        exact⟨rfl,B1.out⟩
      ·have R:r=false:=(by cases r with | false=>rfl | true=>exact absurd (HR.out.1 rfl) (by unfold aS;simp_all <;> omega))
       subst R
       have ez2:(mn==0)=false:=by simpa using z2
       go_enter Tryz.func63,Tryz.ntmps63
       go_wp2
       go_ret
       exact⟨rfl,B1.out⟩
     ·have R:r=false:=(by cases r with | false=>rfl | true=>exact absurd (HR.out.1 rfl) (by unfold aS;simp_all <;> omega))
      subst R
      have ez1:(n==0)=false:=by simpa using z1
      go_enter Tryz.func63,Tryz.ntmps63
      go_wp2
      go_ret
      exact⟨rfl,B1.out⟩
end
section
attribute [local go_sem] aU
def sN:Fl:=⟨0,0,0,0,[],none,0,none,0,0⟩
def SA(A:Nat->dF):Way->Prop
 | []=>(A 0).f=sN
 |(par,i) :: rest=>A (rest.length+1)=⟨par.f,(i:Int)+1⟩/\SA A rest
def BA(A:Nat->dF):Way->Prop
 | []=>(A 0).f=sN
 |(par,i) :: rest=>A (rest.length+1)=⟨par.f,(i:Int)⟩/\SA A rest
theorem SA.tail{A:Nat->dF}:∀ {s rest:Way} {x:Tr×Nat},SA A (s++x :: rest)->A (rest.length+1)=⟨x.1.f,(x.2:Int)+1⟩/\SA A rest
 | [],_,_,h=>h
 | _ :: s,_,_,h=>SA.tail (s:=s) h.2
theorem SA.same{A B:Nat->dF}:∀ {p:Way},SA A p->(∀ i,i<=p.length->B i=A i)->SA B p
 | [],h,hb=>by unfold SA at *;rw [hb 0 lz9];exact h
 |(par,i) :: rest,h,hb=>⟨by rw [hb _ (by simp)];exact h.1,h.2.same fun i hi=>hb i (by simp;omega)⟩
theorem BA.next{A:Nat->dF}{x y:El}(h:Nx x y)(hs:SA A x.1)(hx:A (x.1.length+1)=⟨x.2.f,0⟩):BA A y.1:=by
 obtain⟨par,j,rest,e,(⟨rfl,rfl,rfl⟩ | ⟨s,i,e2,rfl⟩)⟩:=h
 ·rw [e]
  exact⟨hx,hs⟩
 ·rw [e]
  rw [e2] at hs
  exact hs.tail
def fI(A:Nat->dF)(d:Nat)(f:Fl):Nat->dF:=nL (nL A d ⟨(A d).f,(A d).s+1⟩) (d+1) ⟨f,0⟩
theorem SA.enter{A:Nat->dF}{p:Way}{f:Fl}(h:BA A p):SA (fI A p.length f) p/\fI A p.length f (p.length+1)=⟨f,0⟩:=by
 refine⟨?_,by simp [fI,nL]⟩
 cases p with
 | nil=>simp only [SA,fI,nL,List.length_nil];exact h
 | cons x rest=>
  obtain⟨par,i⟩:=x
  refine⟨?_,h.2.same fun i hi=>?_⟩
  ·simp only [fI,nL,o7]
   rw [if_neg (by omega),if_pos trivial,h.1]
  ·simp only [fI,nL,o7]
   rw [if_neg (by omega),if_neg (by omega)]
def fJ(p:Way)(num:Int):Bool:=p.any fun x=>x.1.f.k==7&&x.1.f.n==num
theorem SA.inEq{A:Nat->dF}{num:Int}:∀ {p:Way},SA A p->inB A (p.length+1) num=fJ p num
 | [],h=>by
  unfold SA at h
  rw [mQ]
  simp [inB,fJ,h,sN]
 |(par,i) :: rest,h=>by
  rw [o7,mQ,h.2.inEq,h.1]
  simp only [fJ,aCC]
  rw [Bool.or_comm]
theorem BA.inEq{A:Nat->dF}{num:Int}:∀ {p:Way},BA A p->inB A (p.length+1) num=fJ p num
 | [],h=>SA.inEq (p:=[]) h
 |(par,i) :: rest,h=>by
  rw [o7,mQ,h.2.inEq,h.1]
  simp only [fJ,aCC]
  rw [Bool.or_comm]
def bQ(p:Way)(k:Int):Bool:=match p with
 | []=>cP k
 |(par,i) :: _=>cS par.f.k (i:Int) par.ks.length k
theorem BA.stand{A:Nat->dF}{k:Int}:∀ {p:Way},BA A p->(∀ x∈p,x.1.f.kl=x.1.ks.length)->cS (A p.length).f.k (A p.length).s (A p.length).f.kl k=bQ p k
 | [],h,_=>by
  unfold BA at h
  simp [cS,bQ,h,sN]
 |(par,i) :: rest,h,hk=>by
  rw [o7,h.1]
  simp only [bQ]
  rw [hk (par,i) (n9 ..)]
open Classical in
noncomputable def bR (c f:Bool) (p:Way) (t:Tr) (ah gr:Nat):Int:=
 if ah=2000 then 42 else if 40<p.length+1 then 43
 else if ¬ (bQ p t.f.k=true/\aS c f ((gr:Int)+1) t.f/\dY t.f.k t.ks.length=true) then 50
 else if t.f.k=7/\30<t.f.n then 42
 else if t.f.k=8/\¬ (fJ p t.f.n=false/\t.f.n<=(gr:Int)) then 41 else 0
theorem qO{w:World}(F:Fl)(c f:Bool)(g:Int){r:Bool}(hr:r=true↔aS c f g F)(h:ArgR w (.slice F.rq F.rs.length F.rc) F.rs)(hF:Fit F.rs)(hl:F.rs.length+3<=8796093022208) :
  Calls Tryz.prog 63 #[.agg #[.int .i64 F.k,.int .i64 F.n,.int .i64 F.mn,.int .i64 F.mx,.slice F.rq F.rs.length F.rc,.slice F.kq F.kl F.kc],.agg #[.bool c,.bool f],.int .i64 g] w fun e w'=>e=.returned (.bool r)/\Below w.heap.size w w':=
 (qN F c f g h hF hl).mono fun e w' ⟨b,h1,h2,h3⟩=>⟨by rw [h1];congr 2;rw [Bool.eq_iff_iff,h2,hr],h3⟩
def aU6(w:World)(b:Nat)(c f:Bool)(A:Nat->dF)(p:Way)(t:Tr)(ah gr:Nat)(e:Ending)(w':World):Prop:=
 e=.returned (.int .i64 (bR c f p t ah gr))/\(bR c f p t ah gr=0->CB w' b c f ((ah:Int)+1) ((gr:Int)+(if t.f.k=7 then 1 else 0)) (fI A p.length t.f))/\Fr (fun z=>z=b) w w'
theorem bL2{w:World}{b:Nat}{c f:Bool}{ah gr:Nat}{A:Nat->dF}{p:Way}{t:Tr}(h:CB w b c f (ah:Int) (gr:Int) A)(hb:BA A p)(hk:∀ x∈p,x.1.f.kl=x.1.ks.length)(hl:(A p.length).f.kl<=9223372036854775807)(hs:0<=(A p.length).s/\(A p.length).s<=1000000)(hn:NB w t)(ha:ah<=2000)(hg:gr<=2000)(hp:p.length<=1000000) :
  Calls Tryz.prog 39 #[.pointer (some ⟨b,0,none⟩),.int .i64 ((p.length:Int)+1),.agg #[.int .i64 t.f.k,.int .i64 t.f.n,.int .i64 t.f.mn,.int .i64 t.f.mx,.slice t.f.rq t.f.rs.length t.f.rc,.slice t.f.kq t.f.kl t.f.kc]] w (aU6 w b c f A p t ah gr):=by
 obtain⟨m,hm⟩:∃ m,bR c f p t ah gr=m:=⟨_,rfl⟩
 have HM:=aA hm
 have H:=aA h
 have HB:=aA hb
 have HN:=aA hn
 have HKK:=aA hk
 have HSS:=aA hs
 have HLL:=aA hl
 have B1:Hid (Below w.heap.size w (w.alloc (.cells #[.int .i64 t.f.k,.int .i64 t.f.n,.int .i64 t.f.mn,.int .i64 t.f.mx,.slice t.f.rq t.f.rs.length t.f.rc,.slice t.f.kq t.f.kl t.f.kc] 25))):=bz9
 have N1:Hid (BoxN (w.alloc (.cells #[.int .i64 t.f.k,.int .i64 t.f.n,.int .i64 t.f.mn,.int .i64 t.f.mx,.slice t.f.rq t.f.rs.length t.f.rc,.slice t.f.kq t.f.kl t.f.kc] 25)) w.heap.size t.f):=aD w _
 have H1:Hid (CB (w.alloc (.cells #[.int .i64 t.f.k,.int .i64 t.f.n,.int .i64 t.f.mn,.int .i64 t.f.mx,.slice t.f.rq t.f.rs.length t.f.rc,.slice t.f.kq t.f.kl t.f.kc] 25)) b c f (ah:Int) (gr:Int) A):=h.kept B1.out
 have A1:Hid (NB (w.alloc (.cells #[.int .i64 t.f.k,.int .i64 t.f.n,.int .i64 t.f.mn,.int .i64 t.f.mx,.slice t.f.rq t.f.rs.length t.f.rc,.slice t.f.kq t.f.kl t.f.kc] 25)) t):=hn.ck (CK.of_below B1.out)
 have F1:Hid (Fr (fun z=>z=b) w (w.alloc (.cells #[.int .i64 t.f.k,.int .i64 t.f.n,.int .i64 t.f.mn,.int .i64 t.f.mx,.slice t.f.rq t.f.rs.length t.f.rc,.slice t.f.kq t.f.kl t.f.kc] 25))):=Fr.of_below B1.out
 have hne:w.heap.size≠b:=by have:=h.lt;omega
 unfold bR at hm
 clear h hb hn hk hs hl
 by_cases h1:ah=2000
 ·rw [if_pos h1] at hm
  subst hm h1
  have c2:=H1.out.c2
  have lb:=H1.out.lt
  go_enter Tryz.func39,Tryz.ntmps39
  go_wp2
  go_ret
  exact⟨by rw [HM.out];rfl,fun z=>(by rw [HM.out] at z;cases z),F1.out⟩
 ·rw [if_neg h1] at hm
  have h1b:(((ah:Int))==2000)=false:=by simp;omega
  by_cases h2:40<p.length+1
  ·rw [if_pos h2] at hm
   subst hm
   have c2:=H1.out.c2
   have lb:=H1.out.lt
   have h2b:(40:Int)<(p.length:Int)+1:=by omega
   go_enter Tryz.func39,Tryz.ntmps39
   go_wp2
   go_ret
   exact⟨by rw [HM.out];rfl,fun z=>(by rw [HM.out] at z;cases z),F1.out⟩
  ·rw [if_neg h2] at hm
   have h2b:¬ (40:Int)<(p.length:Int)+1:=by omega
   have c0:=H1.out.c0
   have c1:=H1.out.c1
   have c2:=H1.out.c2
   have c3:=H1.out.c3
   have lb:=H1.out.lt
   obtain⟨n0,n1,n2,n3,n4,n5⟩:=N1.out.six
   simp only [m7] at n1 n2 n3 n4 n5
   have ln:=aC N1.out
   have HMM:=aA hm
   clear hm
   go_enter Tryz.func39,Tryz.ntmps39
   go_upto_region 5 with fail
   generalize (w.alloc (.cells #[.int .i64 t.f.k,.int .i64 t.f.n,.int .i64 t.f.mn,.int .i64 t.f.mx,.slice t.f.rq t.f.rs.length t.f.rc,.slice t.f.kq t.f.kl t.f.kc] 25))=w1 at *
   have e41:p.length<41:=by omega
   obtain⟨sb,hsb⟩:∃ sb,bQ p t.f.k=sb:=⟨_,rfl⟩
   obtain⟨rf,hrf⟩:∃ rf:Bool,rf=true↔aS c f ((gr:Int)+1) t.f:=⟨@decide (aS c f ((gr:Int)+1) t.f) (Classical.propDecidable _),by simp⟩
   obtain⟨kb,hkb⟩:∃ kb,dY t.f.k t.ks.length=kb:=⟨_,rfl⟩
   have MS:Hid (∀ z:Ext w1,Calls Tryz.prog 62 #[.pointer (some ⟨b,0,none⟩),.int .i64 ((p.length:Int)+1),.int .i64 t.f.k] z.val fun e w''=>e=.returned (.bool sb)/\∃ y:Ext w1,w''=y.val):=fun z=>dJ ((xX (H1.out.kept (nT z)) e41 t.f.k HLL.out).mono fun e w' ⟨h1,h2⟩=>⟨by rw [h1,HB.out.stand HKK.out,hsb],h2⟩)
   have RF:Hid (∀ z:Ext w1,Calls Tryz.prog 63 #[.agg #[.int .i64 t.f.k,.int .i64 t.f.n,.int .i64 t.f.mn,.int .i64 t.f.mx,.slice t.f.rq t.f.rs.length t.f.rc,.slice t.f.kq t.f.kl t.f.kc],.agg #[.bool c,.bool f],.int .i64 ((gr:Int)+1)] z.val fun e w''=>e=.returned (.bool rf)/\∃ y:Ext w1,w''=y.val):=fun z=>dJ (qO t.f c f _ hrf (A1.out.r.kept (nT z)) A1.out.fit A1.out.len)
   have RK:Hid (∀ z:Ext w1,Calls Tryz.prog 64 #[.agg #[.int .i64 t.f.k,.int .i64 t.f.n,.int .i64 t.f.mn,.int .i64 t.f.mx,.slice t.f.rq t.f.rs.length t.f.rc,.slice t.f.kq t.f.kl t.f.kc]] z.val fun e w''=>e=.returned (.bool kb)/\∃ y:Ext w1,w''=y.val):=fun z=>dJ ((uD t.f z.val).mono fun e w' ⟨h1,h2⟩=>⟨by rw [h1,A1.out.kl,hkb],h2⟩)
   have HX:=aA (⟨hsb,hrf,hkb⟩:bQ p t.f.k=sb/\(rf=true↔aS c f ((gr:Int)+1) t.f)/\dY t.f.k t.ks.length=kb)
   clear hsb hrf hkb
   cases sb with
   | false=>
    have E:=HMM.out
    rw [if_pos (by rw [HX.out.1];simp)] at E
    subst E
    refine wx9 ?_
    repeat (go_big_quiet_step (first | exact rfl |(go_at_call 62;with_reducible exact MS.out _) |(go_at_call 63;with_reducible exact RF.out _) |(go_at_call 64;with_reducible exact RK.out _)))
    refine wpQuiet_nil ?_
    intro w2 hw
    have hb2:=aM hw
    clear hw
    have F2:Hid (Fr (fun z=>z=b) w w2):=F1.out.trans (Fr.of_below hb2)
    clear hb2 MS RF RK
    go_wp2
    go_ret
    exact⟨by rw [HM.out];rfl,fun z=>(by rw [HM.out] at z;cases z),F2.out⟩
   | true=>
    cases rf with
    | false=>
     have E:=HMM.out
     rw [if_pos (fun z=>by have:=HX.out.2.1.2 z.2.1;cases this)] at E
     subst E
     refine wx9 ?_
     repeat (go_big_quiet_step (first | exact rfl |(go_at_call 62;with_reducible exact MS.out _) |(go_at_call 63;with_reducible exact RF.out _) |(go_at_call 64;with_reducible exact RK.out _)))
     refine wpQuiet_nil ?_
     intro w2 hw
     have hb2:=aM hw
     clear hw
     have F2:Hid (Fr (fun z=>z=b) w w2):=F1.out.trans (Fr.of_below hb2)
     clear hb2 MS RF RK
     go_wp2
     go_ret
     exact⟨by rw [HM.out];rfl,fun z=>(by rw [HM.out] at z;cases z),F2.out⟩
    | true=>
     cases kb with
     | false=>
      have E:=HMM.out
      rw [if_pos (fun z=>by have:=HX.out.2.2;rw [z.2.2] at this;cases this)] at E
      subst E
      refine wx9 ?_
      repeat (go_big_quiet_step (first | exact rfl |(go_at_call 62;with_reducible exact MS.out _) |(go_at_call 63;with_reducible exact RF.out _) |(go_at_call 64;with_reducible exact RK.out _)))
      refine wpQuiet_nil ?_
      intro w2 hw
      have hb2:=aM hw
      clear hw
      have F2:Hid (Fr (fun z=>z=b) w w2):=F1.out.trans (Fr.of_below hb2)
      clear hb2 MS RF RK
      go_wp2
      go_ret
      exact⟨by rw [HM.out];rfl,fun z=>(by rw [HM.out] at z;cases z),F2.out⟩
     | true=>
      have E:=HMM.out
      rw [if_neg (fun z=>z ⟨HX.out.1,HX.out.2.1.1 rfl,HX.out.2.2⟩)] at E
      refine wx9 ?_
      repeat (go_big_quiet_step (first | exact rfl |(go_at_call 62;with_reducible exact MS.out _) |(go_at_call 63;with_reducible exact RF.out _) |(go_at_call 64;with_reducible exact RK.out _)))
      refine wpQuiet_nil ?_
      intro w2 hw
      have hb2:=aM hw
      clear hw
      have F2:Hid (Fr (fun z=>z=b) w w2):=F1.out.trans (Fr.of_below hb2)
      have H2:=aA (H1.out.kept hb2)
      have N2:Hid (BoxN w2 w.heap.size t.f):=(hb2.block _ (aC N1.out)).trans N1.out
      clear hb2 MS RF RK n0 n1 n2 n3 n4 n5 c0 c1 c2 c3 lb ln H1 N1 F1
      obtain⟨n0,n1,n2,n3,n4,n5⟩:=N2.out.six
      simp only [m7] at n1 n2 n3 n4 n5
      have XX:=H2
      have FF:=F2
      by_cases k7:t.f.k=7
      ·have e7:(t.f.k==7)=true:=by simpa using k7
       have e8:(t.f.k==8)=false:=by simp [k7]
       by_cases g30:30<t.f.n
       ·rw [if_pos ⟨k7,g30⟩] at E
        subst E
        clear k7
        go_wp2
        go_ret
        exact⟨by rw [HM.out];rfl,fun z=>(by rw [HM.out] at z;cases z),F2.out⟩
       ·rw [if_neg (fun z=>g30 z.2),if_neg (fun z=>by have:=z.1;omega)] at E
        subst E
        clear k7
        go_wp2_with (go_at_call 66;(with_reducible refine(tF XX.out (d:=p.length) (by omega) t.f (by omega) (by omega) HSS.out).mono ?_);rintro e w5 ⟨rfl,h51,h52⟩;have X5:Hid (CB w5 b c f ((ah:Int)+1) ((gr:Int)+(if t.f.k=7 then 1 else 0)) (fI A p.length t.f)):=h51;have F5:Hid (Fr (fun z=>z=b) w w5):=FF.out.trans h52;clear h51 h52)
        go_ret
        exact⟨by rw [HM.out];rfl,fun _=>X5.out,F5.out⟩
      ·have e7:(t.f.k==7)=false:=by simpa using k7
       rw [if_neg (fun z=>k7 z.1)] at E
       by_cases k8:t.f.k=8
       ·have e8:(t.f.k==8)=true:=by simpa using k8
        have HE:Calls Tryz.prog 65 #[.pointer (some ⟨b,0,none⟩),.int .i64 ((p.length:Int)+1),.int .i64 t.f.n] w2 fun e w'=>e=.returned (.bool (!fJ p t.f.n&&decide (t.f.n<=(gr:Int))))/\Below w2.heap.size w2 w':=(yA H2.out (d:=p.length+1) (by omega) t.f.n).mono fun e w' ⟨h1,h2⟩=>⟨by rw [h1,HB.out.inEq],h2⟩
        by_cases hen:fJ p t.f.n=false/\t.f.n<=(gr:Int)
        ·rw [if_neg (fun z=>z.2 hen)] at E
         subst E
         rw [hen.1] at HE
         have en:(!false&&decide (t.f.n<=(gr:Int)))=true:=by simp [hen.2]
         rw [en] at HE
         have HE':=aA HE
         clear HE k8 hen XX FF
         go_wp2_with first |(go_at_call 65;(with_reducible refine(HE'.out).mono ?_);rintro e w3 ⟨rfl,h3⟩;have XX:=aA (H2.out.kept h3);have FF:Hid (Fr (fun z=>z=b) w w3):=F2.out.trans (Fr.of_below h3);have N3:BoxN w3 w.heap.size t.f:=(h3.block _ (aC N2.out)).trans N2.out;obtain⟨r0,r1,r2,r3,r4,r5⟩:=N3.six;simp only [m7] at r1 r2 r3 r4 r5;clear h3 N3) |(go_at_call 66;(with_reducible refine(tF XX.out (d:=p.length) (by omega) t.f (by omega) (by omega) HSS.out).mono ?_);rintro e w5 ⟨rfl,h51,h52⟩;have X5:Hid (CB w5 b c f ((ah:Int)+1) ((gr:Int)+(if t.f.k=7 then 1 else 0)) (fI A p.length t.f)):=h51;have F5:Hid (Fr (fun z=>z=b) w w5):=FF.out.trans h52;clear h51 h52)
         go_ret
         exact⟨by rw [HM.out];rfl,fun _=>X5.out,F5.out⟩
        ·rw [if_pos ⟨k8,hen⟩] at E
         subst E
         have en:(!fJ p t.f.n&&decide (t.f.n<=(gr:Int)))=false:=by
          cases hq:fJ p t.f.n
          ·simp;exact Int.not_le.1 (fun z=>hen ⟨hq,z⟩)
          ·rfl
         rw [en] at HE
         have HE':=aA HE
         clear HE k8 hen XX FF
         go_wp2_with (go_at_call 65;(with_reducible refine(HE'.out).mono ?_);rintro e w3 ⟨rfl,h3⟩;have FF:Hid (Fr (fun z=>z=b) w w3):=F2.out.trans (Fr.of_below h3);clear h3)
         go_ret
         exact⟨by rw [HM.out];rfl,fun z=>(by rw [HM.out] at z;cases z),FF.out⟩
       ·have e8:(t.f.k==8)=false:=by simpa using k8
        rw [if_neg (fun z=>k8 z.1)] at E
        subst E
        go_wp2_with (go_at_call 66;(with_reducible refine(tF XX.out (d:=p.length) (by omega) t.f (by omega) (by omega) HSS.out).mono ?_);rintro e w5 ⟨rfl,h51,h52⟩;have X5:Hid (CB w5 b c f ((ah:Int)+1) ((gr:Int)+(if t.f.k=7 then 1 else 0)) (fI A p.length t.f)):=h51;have F5:Hid (Fr (fun z=>z=b) w w5):=FF.out.trans h52;clear h51 h52)
        go_ret
        exact⟨by rw [HM.out];rfl,fun _=>X5.out,F5.out⟩
end
section
open Go Go.RowKit Go.Shelf
attribute [local go_sem] Oper.semAt_some
def eR:List El->Nat
 | []=>0
 | x :: r=>max (x.1.length+1) (eR r)
def aN:List El->Nat
 | []=>0
 | x :: r=>(if x.2.f.k=7 then 1 else 0)+aN r
theorem dB(a b:List El):aN (a++b)=aN a+aN b:=by
 induction a with
 | nil=>simp [aN]
 | cons y a ih=>simp only [t4,aN,ih];omega
theorem fQ(a:List El)(x:El):aN (a++[x])=aN a+(if x.2.f.k=7 then 1 else 0):=by rw [dB];simp [aN]
theorem tC(a:List El):aN a<=a.length:=by
 induction a with
 | nil=>simp [aN]
 | cons y a ih=>simp only [aN,o7];split <;> omega
theorem qZ{t:Tr}:∀ {pre:List El} {x:El},pre++[x] <+: pp [] t->x.1.length<=pre.length:=by
 intro pre
 have:∀ (m:Nat) (pre:List El),pre.length=m->∀ x,pre++[x] <+: pp [] t->x.1.length<=m:=by
  intro m
  induction m with
  | zero=>
   intro pre hp x h
   obtain rfl:=aAD hp
   rw [aAI] at h
   rw [pI h]
   simp
  | succ m ih=>
   intro pre hp x h
   obtain⟨pre',y,rfl⟩:∃ pre' y,pre=pre'++[y]:=⟨pre.dropLast,pre.getLast (by intro e;rw [e] at hp;simp at hp),(List.dropLast_concat_getLast _).symm⟩
   have h1:=ih pre' (by simp at hp;omega) y (List.IsPrefix.trans (List.prefix_append _ _) h)
   obtain⟨par,j,rest,e,(⟨-,-,e2⟩ | ⟨s,i,e2,-⟩)⟩:=qY h
   ·rw [e,e2];simp;omega
   ·rw [e]
    rw [e2] at h1
    simp at h1 ⊢
    omega
 exact fun {x} h=>this pre.length pre rfl x h
end
section
open Go Go.RowKit Go.Shelf
attribute [local go_sem] Oper.semAt_some
def Ax1(s B:Nat)(y:Act)(x:El)(a':Act)(W:World):Prop:=∃ bx,BoxN W bx x.2.f/\B<=bx/\a'={ y with tmps:=y.tmps.setIfInBounds s (.pointer (some ⟨bx,0,none⟩)) }
theorem bC9(s B:Nat)(y:Act)(x:El)(a':Act):OwnFrom B (fun (_:Unit) W=>Ax1 s B y x a' W):=fun _ _ _ _ h hg hr=>by
 obtain⟨bx,h1,h2,h3⟩:=h
 exact⟨bx,eD hg hr h1,h2,h3⟩
theorem aF6(n:Nat)(hn:3<=n){w:World}{t:Tr}(hta:TB w t) :
  CallsIn Fence.wide n Tryz.prog 68 #[.agg #[.int .i64 t.f.k,.int .i64 t.f.n,.int .i64 t.f.mn,.int .i64 t.f.mx,.slice t.f.rq t.f.rs.length t.f.rc,.slice t.f.kq t.f.kl t.f.kc]] w fun e w'=>e=.returned (.int .i64 ((if 2000<(pp [] t).length then 0 else aN (pp [] t):Nat):Int))/\Below w.heap.size w w':=by
 have hfn:∀ f,Fence.wide.fn f:=fun _=>trivial
 refine callsIn_of_wp_marks Tryz.func68 rfl trivial ?_ rfl
 simp only [Tryz.ntmps68,aBT,o7,List.length_nil,Nat.reduceAdd,Nat.reduceSub,Array.replicate_succ,Array.replicate_zero,List.push_toArray,List.append_toArray,aAI,t4]
 refine wpIn_wide.2 ?_
 have HTA:=aA hta
 have B1:Hid (Below w.heap.size w (w.alloc (.cells #[.int .i64 t.f.k,.int .i64 t.f.n,.int .i64 t.f.mn,.int .i64 t.f.mx,.slice t.f.rq t.f.rs.length t.f.rc,.slice t.f.kq t.f.kl t.f.kc] 25))):=bz9
 have N1:Hid (BoxN (w.alloc (.cells #[.int .i64 t.f.k,.int .i64 t.f.n,.int .i64 t.f.mn,.int .i64 t.f.mx,.slice t.f.rq t.f.rs.length t.f.rc,.slice t.f.kq t.f.kl t.f.kc] 25)) w.heap.size t.f):=aD w _
 obtain⟨c0,c1,c2,c3,c4,c5⟩:=N1.out.six
 simp only [m7] at c1 c2 c3 c4 c5
 have HT:=aA (nI (HTA.out.kept B1.out))
 clear hta
 by_cases hm:2000<(pp [] t).length
 ·have e1:decide (2000<(pp [] t).length)=true:=by simp;omega
  have e2:(if 2000<(pp [] t).length then 0 else aN (pp [] t))=0:=by rw [if_pos hm]
  rw [e1] at HT
  rw [e2]
  clear e1 e2 hm
  go_wp2_with (go_at_call 86;(with_reducible refine(HT.out).mono ?_);rintro e w2 ⟨rfl,h2⟩;have B2:Hid (Below w.heap.size w w2):=aG B1.out h2 lz9;clear h2)
  exact⟨.int .i64 0,by simp [results,Tryz.results68,go_sem],rfl,B2.out⟩
 ·have e1:decide (2000<(pp [] t).length)=false:=by simp;omega
  have e2:(if 2000<(pp [] t).length then 0 else aN (pp [] t))=aN (pp [] t):=by rw [if_neg hm]
  rw [e1] at HT
  rw [e2]
  clear e1 e2
  have HM:=aA hm
  clear hm
  go_wp2_with first |(go_at_call 86;(with_reducible refine(HT.out).mono ?_);rintro e w2 ⟨rfl,h2⟩;have B2:Hid (Below w.heap.size w w2):=aG B1.out h2 lz9;have N2:Hid (BoxN (w2.alloc (.cells #[.int .i64 0] 3)) w.heap.size t.f):=(Below.heap_alloc _ _ _ (o8 (aC N1.out) h2.size)).trans ((h2.block _ (aC N1.out)).trans N1.out);clear h2;obtain⟨d0,d1,d2,d3,d4,d5⟩:=N2.out.six;simp only [m7] at d1 d2 d3 d4 d5) |(go_at_call 38;(with_reducible refine(sM _ _).mono ?_);rintro e w3 ⟨rfl,rfl⟩)
  have N3:BoxN ((w2.alloc (.cells #[.int .i64 0] 3)).alloc (.cells #[.int .i64 t.f.k,.int .i64 t.f.n,.int .i64 t.f.mn,.int .i64 t.f.mx,.slice t.f.rq t.f.rs.length t.f.rc,.slice t.f.kq t.f.kl t.f.kc] 25)) (w2.heap.size+1) t.f:=(by
   have:=aD (w2.alloc (.cells #[.int .i64 0] 3)) (.cells #[.int .i64 t.f.k,.int .i64 t.f.n,.int .i64 t.f.mn,.int .i64 t.f.mx,.slice t.f.rq t.f.rs.length t.f.rc,.slice t.f.kq t.f.kl t.f.kc] 25)
   rwa [v9] at this)
  have I3:BoxI ((w2.alloc (.cells #[.int .i64 0] 3)).alloc (.cells #[.int .i64 t.f.k,.int .i64 t.f.n,.int .i64 t.f.mn,.int .i64 t.f.mx,.slice t.f.rq t.f.rs.length t.f.rc,.slice t.f.kq t.f.kl t.f.kc] 25)) w2.heap.size 0:=(Below.heap_alloc _ _ _ (by simp)).trans (aD w2 _)
  have B3:Below w.heap.size w ((w2.alloc (.cells #[.int .i64 0] 3)).alloc (.cells #[.int .i64 t.f.k,.int .i64 t.f.n,.int .i64 t.f.mn,.int .i64 t.f.mx,.slice t.f.rq t.f.rs.length t.f.rc,.slice t.f.kq t.f.kl t.f.kc] 25)):=(B2.out.alloc B2.out.size _).alloc (by simp;exact aBL B2.out.size) _
  have hwi:=B2.out.size
  generalize ((w2.alloc (.cells #[.int .i64 0] 3)).alloc (.cells #[.int .i64 t.f.k,.int .i64 t.f.n,.int .i64 t.f.mn,.int .i64 t.f.mx,.slice t.f.rq t.f.rs.length t.f.rc,.slice t.f.kq t.f.kl t.f.kc] 25))=w4 at N3 I3 B3 ⊢
  have L3:=aC N3
  have L4:=aC I3
  generalize w2.heap.size+1=bn at N3 L3 ⊢
  generalize w2.heap.size=bi at I3 L4 hwi ⊢
  clear N1 N2 B1 B2 c0 c1 c2 c3 c4 c5 d0 d1 d2 d3 d4 d5 HT
  refine(wpIn_wide (n:=n)).1 ?_
  refine xB (by omega) 10 11 bn rfl rfl N3 HTA.out (CK.of_below B3) (fun pre V=>BoxI V bi (aN pre:Int)/\pre <+: pp [] t/\Below w.heap.size w V) (fun _ _ _=>False)
   ?_ (fun _ _ _ _ _ h=>h.elim) (fun pre W h=>by have:=h.2.1.length_le;have:=HM.out;omega) ⟨I3,List.nil_prefix,B3⟩ (Ax1 5 w4.heap.size) ?_ ?_ ?_ ?_ ?_
  ·rintro pre A A' row ⟨h1,h2,h3⟩ hg hr
   exact⟨h1.row hg hr,h2,iG h3 lz9 B3.size hg hr⟩
  ·exact bC9 _ _
  ·intro l pre x V K _ _ hs _ hK
   have HS:=aA hs
   simp only [fT]
   gi_wp2
   exact hK _ _ (bz9) ⟨_,aD V _,HS.out,rfl⟩
  ·rintro l pre x a' V ⟨h1,h2,h3⟩ hck hsz ht ⟨bx,hbx,hbl,rfl⟩
   have H1:=aA h1
   have H3:=aA h3
   have k0:=h1.cell
   have k1:=hbx.six.1
   have fz:=aK h1 0
   have HT:=aA ht
   have hl:aN pre<=2000:=by have:=tC pre;have:=h2.length_le;have:=HM.out;omega
   by_cases hk:x.2.f.k=7
   ·have F1:Hid (Fr (fun z=>z=bi) V (V.setCell ⟨bi,0,none⟩ (.int .i64 ((aN pre:Int)+1)))):=BoxI.fr _
    have X1:Hid (BoxI (V.setCell ⟨bi,0,none⟩ (.int .i64 ((aN pre:Int)+1))) bi (aN (pre++[x]):Int)):=(by rw [fQ,if_pos hk];exact H1.out.set _)
    have HP:Hid (KeepsFrom w4.heap.size V (V.setCell ⟨bi,0,none⟩ (.int .i64 ((aN pre:Int)+1)))/\CKeep (Nn w.heap.size w4.heap.size) V (V.setCell ⟨bi,0,none⟩ (.int .i64 ((aN pre:Int)+1)))/\Below w.heap.size w (V.setCell ⟨bi,0,none⟩ (.int .i64 ((aN pre:Int)+1)))):=
     ⟨F1.out.keepsFrom (fun k hk=>by omega),F1.out.ckeep (fun k hk=>by rintro (z | z) <;> omega),bB H3.out F1.out lz9 (fun k e=>by omega)⟩
    rw [hk] at k1
    clear h1 h3 hck ht hsz h2
    simp only [fT,hk]
    gi_wp2
    exact⟨HP.out.1,HP.out.2.1,X1.out,HT.out,HP.out.2.2⟩
   ·have X1:Hid (BoxI V bi (aN (pre++[x]):Int)):=(by rw [fQ,if_neg hk];exact H1.out)
    have e1:(x.2.f.k==7)=false:=by simpa using hk
    have HP:Hid (KeepsFrom w4.heap.size V V/\CKeep (Nn w.heap.size w4.heap.size) V V):=⟨oE (Below.refl _ _),oF (Below.refl _ _)⟩
    clear h1 h3 hck ht hsz h2
    simp only [fT]
    gi_wp2
    exact⟨HP.out.1,HP.out.2,X1.out,HT.out,H3.out⟩
  ·rintro D V hD ⟨h1,h2,h3⟩ hck hK
   have k0:=h1.cell
   have H3:=aA h3
   have HK:=aA hK
   have HD:=aA hD
   simp only [iX]
   go_wp2
   refine⟨by simp,.inl ⟨_,_,rfl,run_takeDeferred HK.out,?_⟩⟩
   refine⟨.int .i64 (aN (pp [] t):Int),by simp [results,Tryz.results68,go_sem],rfl,nD _ H3.out (o0 B3.size HD.out)⟩
  ·rintro D c pre V hD hpre h hK
   exact h.elim
theorem aR0{w:World}{t:Tr}(hta:TB w t):Calls Tryz.prog 68 #[.agg #[.int .i64 t.f.k,.int .i64 t.f.n,.int .i64 t.f.mn,.int .i64 t.f.mx,.slice t.f.rq t.f.rs.length t.f.rc,.slice t.f.kq t.f.kl t.f.kc]] w fun e w'=>e=.returned (.int .i64 ((if 2000<(pp [] t).length then 0 else aN (pp [] t):Nat):Int))/\Below w.heap.size w w':=callsIn_wide.1 (aF6 3 (by decide) hta)
end
section
open Go Go.RowKit Go.Shelf
attribute [local go_sem] Oper.semAt_some
def noL:List Value:=[.int .i64 0,.int .i64 0,.int .i64 0,.int .i64 0,.slice none 0 0,.slice none 0 0,.int .i64 0]
def mW(c f:Bool):List Value:=.bool c :: .bool f :: .int .i64 0 :: .int .i64 0 :: (List.replicate 41 noL).flatten
theorem bO0(j:Nat)(hj:j<7):∀ (n d:Nat),d<n->((List.replicate n noL).flatten)[d*7+j]?=noL[j]?
 | 0,d,h=>absurd h (by omega)
 | n+1,0,_=>by rw [List.replicate_succ,List.flatten_cons,Nat.zero_mul,m7,aAH (by simpa [noL] using hj)]
 | n+1,d+1,h=>by
  rw [List.replicate_succ,List.flatten_cons,aAA (by simp [noL];omega),show (d+1)*7+j-noL.length=d*7+j by simp [noL];omega]
  exact bO0 j hj n d (by omega)
theorem iS(c f:Bool){d j:Nat}(hd:d<41)(hj:j<7):(mW c f)[4+d*7+j]?=noL[j]?:=by
 rw [show 4+d*7+j=d*7+j+1+1+1+1 by omega]
 exact bO0 j hj 41 d hd
theorem aH7:Tryz.zeroCells83.toList=mW false false:=by kernel_rfl
theorem aB2(w1:World)(c f:Bool):Sem.run Tryz.prog (storeCells ⟨w1.heap.size,0,none⟩ ((Tryz.zeroCells83.toList.set 0 (.bool c)).set 1 (.bool f))) (w1.alloc (.cells Tryz.zeroCells83 83))=.ok () (w1.alloc (.cells (mW c f).toArray 83)):=by
 have e:(Tryz.zeroCells83.toList.set 0 (.bool c)).set 1 (.bool f)=(mW c f).toArray.toList:=by rw [aH7];rfl
 rw [e]
 exact run_storeCells_new w1 _ _ _ (by kernel_rfl) (by kernel_rfl) (by cases c <;> cases f <;> kernel_rfl)
theorem bA0(w1:World)(c f:Bool):CB (w1.alloc (.cells (mW c f).toArray 83)) w1.heap.size c f 0 0 (fun _=>⟨sN,0⟩):=by
 have N:=aD w1 (.cells (mW c f).toArray 83)
 have at':∀ (i:Nat) (v:Value),(mW c f)[i]?=some v->(w1.alloc (.cells (mW c f).toArray 83)).cell? ⟨w1.heap.size,i,none⟩=some v:=fun i v hv=>aB N (i:=i) (by simpa using hv)
 refine⟨⟨_,N⟩,at' 0 _ rfl,at' 1 _ rfl,at' 2 _ rfl,at' 3 _ rfl,fun d hd=>⟨⟨?_,?_,?_,?_,?_,?_⟩,?_⟩⟩
 ·exact at' _ _ ((iS c f hd (j:=0) (by omega)).trans rfl)
 ·exact at' _ _ ((iS c f hd (j:=1) (by omega)).trans rfl)
 ·exact at' _ _ ((iS c f hd (j:=2) (by omega)).trans rfl)
 ·exact at' _ _ ((iS c f hd (j:=3) (by omega)).trans rfl)
 ·exact at' _ _ ((iS c f hd (j:=4) (by omega)).trans rfl)
 ·exact at' _ _ ((iS c f hd (j:=5) (by omega)).trans rfl)
 ·exact at' _ _ ((iS c f hd (j:=6) (by omega)).trans rfl)
noncomputable def aZ (c f:Bool):Nat->Nat->List El->Int
 | _,_,[]=>0
 | ah,gr,x :: r=>if bR c f x.1 x.2 ah gr≠0 then bR c f x.1 x.2 ah gr else aZ c f (ah+1) (gr+(if x.2.f.k=7 then 1 else 0)) r
theorem aF8{P:Tr->Prop}(t:Tr):∀ p,bF P t->(∀ x∈p,P x.1)->∀ z∈pp p t,∀ x∈z.1,P x.1:=by
 refine Tr.ind (P:=fun t=>∀ p,bF P t->(∀ x∈p,P x.1)->∀ z∈pp p t,∀ x∈z.1,P x.1) (fun t ih p he hp z hz=>?_) t
 rw [bX] at hz
 rcases u0.1 hz with q | q
 ·subst q;exact hp
 ·have:∀ (ks:List Tr) (i:Nat),(∀ u∈ks,u∈t.ks)->z∈pps t p i ks->∀ x∈z.1,P x.1:=by
   intro ks
   induction ks with
   | nil=>intro i _ h;rw [bA] at h;cases h
   | cons u us ih2=>
    intro i hs h
    rw [aX] at h
    rcases o3.1 h with g | g
    ·exact ih u (hs u (n9 ..)) _ (cB he (hs u (n9 ..))) (fun x hx=>by
      rcases u0.1 hx with e | e
      ·rw [e];exact((aI t).1 he).1
      ·exact hp x e) z g
    ·exact ih2 (i+1) (fun v hv=>hs v (m9 _ hv)) g
  exact this t.ks 0 (fun _ h=>h) q
structure Inv(A:Nat->dF)(pre:List El):Prop where
 bd:∀ d,0<=(A d).s/\(A d).s<=(pre.length:Int)
 nx:∀ t x,pre++[x] <+: pp [] t->BA A x.1
theorem Inv.nil:Inv (fun _=>⟨sN,0⟩) []:=⟨fun d=>by simp,fun t x h=>by
 rw [aAI] at h
 rw [pI h]
 exact rfl⟩
theorem Inv.step{A:Nat->dF}{pre:List El}{x:El}(h:Inv A pre)(hb:BA A x.1):Inv (fI A x.1.length x.2.f) (pre++[x]):=
 ⟨fun d=>by
  have h1:=h.bd d
  have h2:=h.bd x.1.length
  simp only [fI,nL,o5,o7,List.length_nil]
  split
  ·simp;omega
  ·split
   ·simp;omega
   ·omega,fun t y hy=>BA.next (qY hy) (SA.enter hb).1 (SA.enter hb).2⟩
structure RI(w:World)(t:Tr)(c f:Bool)(b be:Nat)(pre:List El)(V:World):Prop where
 chk:∃ A,CB V b c f (pre.length:Int) (aN pre:Int) A/\Inv A pre
 pfx:pre <+: pp [] t
 len:pre.length<=2000
 res:V.heap[be]?=some (.cells #[.int .i64 0] 30 (0,0))
 bel:Below w.heap.size w V
 ans:∀ rest,pp [] t=pre++rest->aZ c f 0 0 (pp [] t)=aZ c f pre.length (aN pre) rest
def Ax2(r s B:Nat)(y:Act)(x:El)(a':Act)(W:World):Prop:=∃ bx,BoxN W bx x.2.f/\B<=bx/\a'={ y with tmps:=(y.tmps.setIfInBounds r (.int .i64 ((x.1.length:Int)+1))).setIfInBounds s (.pointer (some ⟨bx,0,none⟩)) }
theorem bC8(r s B:Nat)(y:Act)(x:El)(a':Act):OwnFrom B (fun (_:Unit) W=>Ax2 r s B y x a' W):=fun _ _ _ _ h hg hr=>by
 obtain⟨bx,h1,h2,h3⟩:=h
 exact⟨bx,eD hg hr h1,h2,h3⟩
theorem aM3(n:Nat)(hn:3<=n){w:World}{t:Tr}(c f:Bool)(hta:TB w t) :
  CallsIn Fence.wide n Tryz.prog 21 #[.agg #[.int .i64 t.f.k,.int .i64 t.f.n,.int .i64 t.f.mn,.int .i64 t.f.mx,.slice t.f.rq t.f.rs.length t.f.rc,.slice t.f.kq t.f.kl t.f.kc],.agg #[.bool c,.bool f]] w fun e w'=>e=.returned (.int .i64 (aZ c f 0 0 (pp [] t)))/\Below w.heap.size w w':=by
 have hfn:∀ f,Fence.wide.fn f:=fun _=>trivial
 refine callsIn_of_wp_marks Tryz.func21 rfl trivial ?_ rfl
 simp only [Tryz.ntmps21,aBT,o7,List.length_nil,Nat.reduceAdd,Nat.reduceSub,Array.replicate_succ,Array.replicate_zero,List.push_toArray,List.append_toArray,aAI,t4]
 refine wpIn_wide.2 ?_
 have HTA:=aA hta
 go_upto_region 1 with fail
 have N0:Hid (BoxN (((w.alloc (.cells #[.int .i64 t.f.k,.int .i64 t.f.n,.int .i64 t.f.mn,.int .i64 t.f.mx,.slice t.f.rq t.f.rs.length t.f.rc,.slice t.f.kq t.f.kl t.f.kc] 25)).alloc (.cells #[.bool c,.bool f] 27)).alloc (.cells #[.int .i64 0] 30)) w.heap.size t.f):=(Below.heap_alloc _ _ _ (by simp;omega)).trans ((Below.heap_alloc _ _ _ (by simp)).trans (aD w _))
 have M0:Hid ((((w.alloc (.cells #[.int .i64 t.f.k,.int .i64 t.f.n,.int .i64 t.f.mn,.int .i64 t.f.mx,.slice t.f.rq t.f.rs.length t.f.rc,.slice t.f.kq t.f.kl t.f.kc] 25)).alloc (.cells #[.bool c,.bool f] 27)).alloc (.cells #[.int .i64 0] 30)).heap[w.heap.size+1]?=some (.cells #[.bool c,.bool f] 27 (0,0))):=(Below.heap_alloc _ _ _ (by simp)).trans (by have:=aD (w.alloc (.cells #[.int .i64 t.f.k,.int .i64 t.f.n,.int .i64 t.f.mn,.int .i64 t.f.mx,.slice t.f.rq t.f.rs.length t.f.rc,.slice t.f.kq t.f.kl t.f.kc] 25)) (.cells #[.bool c,.bool f] 27);rwa [v9] at this)
 have E0:Hid ((((w.alloc (.cells #[.int .i64 t.f.k,.int .i64 t.f.n,.int .i64 t.f.mn,.int .i64 t.f.mx,.slice t.f.rq t.f.rs.length t.f.rc,.slice t.f.kq t.f.kl t.f.kc] 25)).alloc (.cells #[.bool c,.bool f] 27)).alloc (.cells #[.int .i64 0] 30)).heap[w.heap.size+1+1]?=some (.cells #[.int .i64 0] 30 (0,0))):=(by have:=aD ((w.alloc (.cells #[.int .i64 t.f.k,.int .i64 t.f.n,.int .i64 t.f.mn,.int .i64 t.f.mx,.slice t.f.rq t.f.rs.length t.f.rc,.slice t.f.kq t.f.kl t.f.kc] 25)).alloc (.cells #[.bool c,.bool f] 27)) (.cells #[.int .i64 0] 30);rwa [v9,v9] at this)
 have B0:Hid (Below w.heap.size w (((w.alloc (.cells #[.int .i64 t.f.k,.int .i64 t.f.n,.int .i64 t.f.mn,.int .i64 t.f.mx,.slice t.f.rq t.f.rs.length t.f.rc,.slice t.f.kq t.f.kl t.f.kc] 25)).alloc (.cells #[.bool c,.bool f] 27)).alloc (.cells #[.int .i64 0] 30))):=((bz9).alloc (by simp) _).alloc (by simp;omega) _
 generalize (((w.alloc (.cells #[.int .i64 t.f.k,.int .i64 t.f.n,.int .i64 t.f.mn,.int .i64 t.f.mx,.slice t.f.rq t.f.rs.length t.f.rc,.slice t.f.kq t.f.kl t.f.kc] 25)).alloc (.cells #[.bool c,.bool f] 27)).alloc (.cells #[.int .i64 0] 30))=w1 at N0 M0 E0 B0 ⊢
 generalize hbm:w.heap.size+1=bm at M0 E0 ⊢
 generalize hbe:bm+1=be at E0 ⊢
 have m0:w1.cell? ⟨bm,0,none⟩=some (.bool c):=aB M0.out (i:=0) rfl
 have m1:w1.cell? ⟨bm,1,none⟩=some (.bool f):=aB M0.out (i:=1) rfl
 have hst:=aB2 w1 c f
 go_upto_region 2 with fail
 have C2:Hid (CB (w1.alloc (.cells (mW c f).toArray 83)) w1.heap.size c f 0 0 (fun _=>⟨sN,0⟩)):=bA0 w1 c f
 have K2:Below w1.heap.size w1 (w1.alloc (.cells (mW c f).toArray 83)):=bz9
 have N2:Hid (BoxN (w1.alloc (.cells (mW c f).toArray 83)) w.heap.size t.f):=(K2.block _ (aC N0.out)).trans N0.out
 have E2:Hid ((w1.alloc (.cells (mW c f).toArray 83)).heap[be]?=some (.cells #[.int .i64 0] 30 (0,0))):=(K2.block _ (aC E0.out)).trans E0.out
 have B2:Hid (Below w.heap.size w (w1.alloc (.cells (mW c f).toArray 83))):=aG B0.out K2 lz9
 have hbb:w.heap.size<=w1.heap.size:=B0.out.size
 have hbe2:w.heap.size<=be:=by omega
 have hbl:=aC E0.out
 generalize (w1.alloc (.cells (mW c f).toArray 83))=w2 at C2 K2 N2 E2 B2 ⊢
 clear hst m0 m1 N0 M0 E0 K2
 generalize w1.heap.size=b at C2 hbb hbl ⊢
 obtain⟨c0,c1,c2,c3,c4,c5⟩:=N2.out.six
 simp only [m7] at c1 c2 c3 c4 c5
 go_wp2_with (go_at_call 38;(with_reducible refine(sM _ _).mono ?_);rintro e w3 ⟨rfl,rfl⟩)
 have K3:Below w2.heap.size w2 (w2.alloc (.cells #[.int .i64 t.f.k,.int .i64 t.f.n,.int .i64 t.f.mn,.int .i64 t.f.mx,.slice t.f.rq t.f.rs.length t.f.rc,.slice t.f.kq t.f.kl t.f.kc] 25)):=bz9
 have N3:BoxN (w2.alloc (.cells #[.int .i64 t.f.k,.int .i64 t.f.n,.int .i64 t.f.mn,.int .i64 t.f.mx,.slice t.f.rq t.f.rs.length t.f.rc,.slice t.f.kq t.f.kl t.f.kc] 25)) w2.heap.size t.f:=aD w2 _
 have C3:=C2.out.kept K3
 have E3:=(K3.block _ (aC E2.out)).trans E2.out
 have B3:=aG B2.out K3 lz9
 generalize (w2.alloc (.cells #[.int .i64 t.f.k,.int .i64 t.f.n,.int .i64 t.f.mn,.int .i64 t.f.mx,.slice t.f.rq t.f.rs.length t.f.rc,.slice t.f.kq t.f.kl t.f.kc] 25))=w4 at K3 N3 C3 E3 B3 ⊢
 generalize w2.heap.size=bn at N3 ⊢
 clear c0 c1 c2 c3 c4 c5 C2 N2 E2 B2 K3
 have L4:=C3.lt
 have L5:=aC E3
 refine(wpIn_wide (n:=n)).1 ?_
 refine xB (by omega) 13 14 bn rfl rfl N3 HTA.out (CK.of_below B3) (RI w t c f b be) (fun k pre V=>k=.ret/\V.heap[be]?=some (.cells #[.int .i64 (aZ c f 0 0 (pp [] t))] 30 (0,0))/\Below w.heap.size w V)
  ?_ ?_ (fun pre W h=>by have:=h.len;omega) ⟨⟨_,C3,Inv.nil⟩,List.nil_prefix,by simp,E3,B3,fun rest hr=>by rw [hr];rfl⟩ (Ax2 6 7 w4.heap.size) (bC8 _ _ _) ?_ ?_ ?_ ?_
 ·rintro pre V V' row h hg hr
  obtain⟨A,hA,hI⟩:=h.chk
  exact⟨⟨A,hA.row hg hr,hI⟩,h.pfx,h.len,eD hg hr h.res,iG h.bel lz9 B3.size hg hr,h.ans⟩
 ·rintro k pre V V' row ⟨h0,h1,h2⟩ hg hr
  exact⟨h0,eD hg hr h1,iG h2 lz9 B3.size hg hr⟩
 ·intro l pre x V K _ _ hs _ hK
  have HS:=aA hs
  simp only [fT]
  gi_wp2
  exact hK _ _ (bz9) ⟨_,aD V _,HS.out,rfl⟩
 ·rintro l pre x a' V h hck hsz ht ⟨bx,hbx,hbl2,rfl⟩
  obtain⟨A,hA,hI⟩:=h.chk
  have hba:=hI.nx t x ht
  obtain⟨rest,hrest⟩:=ht
  have hin:x∈pp [] t:=by rw [<- hrest];simp
  have hway:∀ y∈x.1,NB w y.1:=aF8 t [] HTA.out (fun _ z=>by cases z) x hin
  have hkl:(A x.1.length).f.kl<=9223372036854775807:=by
   cases hx:x.1 with
   | nil=>
    rw [hx] at hba
    have:(A 0).f=sN:=hba
    rw [List.length_nil,this]
    simp [sN]
   | cons y ys=>
    rw [hx] at hba hway
    have e:=hba.1
    rw [o7,e]
    have hy:=hway y (n9 ..)
    obtain⟨q,cap,-,hm,-⟩:=hy.k.slice
    show y.1.f.kl<=_
    rw [hy.kl]
    exact hm
  have hbd:=hI.bd x.1.length
  have hdp:=qZ (t:=t) (pre:=pre) (x:=x) ⟨rest,hrest⟩
  have hlen:=h.len
  have hgl:=tC pre
  have LK:=aA (bL2 (t:=x.2) hA hba (fun y hy=>(hway y hy).kl) hkl ⟨hbd.1,by omega⟩ ((HTA.out.at hin).node.ck hck) hlen (by omega) (by omega))
  have HE:=aA (show pp [] t=pre++x :: rest by rw [<- hrest];simp)
  have HA2:=aA (h.ans (x :: rest) HE.out)
  have HH:=aA h
  have HBA:=aA hba
  have HI:=aA hI
  obtain⟨k0,k1,k2,k3,k4,k5⟩:=hbx.six
  simp only [m7] at k1 k2 k3 k4 k5
  obtain⟨m,hm⟩:∃ m,bR c f x.1 x.2 pre.length (aN pre)=m:=⟨_,rfl⟩
  have HM:=aA hm
  have HBX:=aA hbx
  clear h hck hsz hbx hba hrest hin hway hkl hbd hm hI hgl
  simp only [fT]
  by_cases hm0:m=0
  ·have e0:(m != 0)=false:=by simpa using hm0
   gi_wp2
   refine⟨(fun z=>by cases z),(CallsIn.inRound l (callsIn_wide.2 (LK.out))).mono ?_⟩
   rintro e V5 ⟨he5,h51,h52⟩
   rw [HM.out] at he5 h51
   subst he5
   have X5:=aA (h51 hm0)
   have F5:=aA h52
   clear h51 h52
   gi_wp2
   subst hm0
   have hl2:pre.length<2000:=by
    rcases Nat.lt_or_ge pre.length 2000 with z | z
    ·exact z
    ·have:=HM.out
     unfold bR at this
     rw [if_pos (by omega)] at this
     cases this
   refine⟨F5.out.keepsFrom (fun k hk=>by omega),F5.out.ckeep (fun k hk=>by rintro (z | z) <;> omega),⟨⟨_,?_,HI.out.step HBA.out⟩,?_,by simp;omega,(F5.out.block _ (aC HH.out.res) (by omega)).trans HH.out.res,bB HH.out.bel F5.out lz9 (fun k e=>by omega),fun rest' hr'=>?_⟩⟩
   ·have:=X5.out
    rw [fQ,Int.natCast_add,show (((if x.2.f.k=7 then 1 else 0:Nat)):Int)=(if x.2.f.k=7 then 1 else 0) by split <;> rfl]
    simpa using this
   ·exact⟨rest,by rw [HE.out];simp⟩
   ·rw [HE.out,r8,List.append_cancel_left_eq] at hr'
    simp at hr'
    subst hr'
    rw [HA2.out]
    simp only [aZ,HM.out,ne_eq,not_true,if_false,o5,o7,List.length_nil,fQ]
  ·have e0:(m != 0)=true:=by simpa using hm0
   have HR:=aA (show m=aZ c f 0 0 (pp [] t) by rw [HA2.out];simp only [aZ,HM.out,ne_eq,hm0,not_false_eq_true,if_true])
   gi_wp2
   refine⟨(fun z=>by cases z),(CallsIn.inRound l (callsIn_wide.2 (LK.out))).mono ?_⟩
   rintro e V5 ⟨he5,h51,h52⟩
   rw [HM.out] at he5
   subst he5
   have F5:=aA h52
   have E5:V5.heap[be]?=some (.cells #[.int .i64 0] 30 (0,0)):=(h52.block _ (aC HH.out.res) (by omega)).trans HH.out.res
   have fz:=aK E5 0
   have cz:=aB E5 (i:=0) rfl
   have E6:=aA (aJ E5 0 (.int .i64 m))
   have F6:=aA ((Fr.refl (fun z=>z=be) V5).setCell (p:=⟨be,0,none⟩) rfl (.int .i64 m))
   clear h51 h52 E5
   gi_wp2
   refine⟨(F5.out.keepsFrom (fun k hk=>by omega)).trans (F6.out.keepsFrom (fun k hk=>by omega)),rfl,by rw [<- HR.out];exact E6.out,bB (bB HH.out.bel F5.out lz9 (fun k e=>by omega)) F6.out lz9 (fun k e=>by omega)⟩
 ·rintro D V hD h hck hK
  have e1:aZ c f 0 0 (pp [] t)=0:=by rw [h.ans [] (by simp)];rfl
  have HH:=aA h
  have HK:=aA hK
  have HD:=aA hD
  have fz:=aK h.res 0
  have cz:=aB h.res (i:=0) rfl
  have E6:=aA (aJ h.res 0 (.int .i64 0))
  have F6:=aA ((Fr.refl (fun z=>z=be) V).setCell (p:=⟨be,0,none⟩) rfl (.int .i64 0))
  clear h hck hK hD
  simp only [iX]
  go_wp2
  have hDb:be≠D:=by have:=HD.out;omega
  have cw:((V.setCell ⟨be,0,none⟩ (.int .i64 0)).putObj D (.deferred none)).cell? ⟨be,0,none⟩=some (.int .i64 0):=aB ((World.putObj_heap_other hDb).trans E6.out) (i:=0) rfl
  refine⟨by simp,.inl ⟨_,_,rfl,run_takeDeferred ((F6.out.block _ (aC HK.out) (by have:=HD.out;omega)).trans HK.out),?_⟩⟩
  exact⟨.int .i64 (aZ c f 0 0 (pp [] t)),by simp [results,Tryz.results21,go_sem,cw,e1],rfl,nD _ (bB HH.out.bel F6.out lz9 (fun k e=>by omega)) (o0 B3.size HD.out)⟩
 ·rintro D k pre V hD hpre ⟨rfl,h1,h2⟩ hK
  refine(wpIn_wide (n:=n)).2 ?_
  have H1:=aA h1
  have H2:=aA h2
  have HK:=aA hK
  have hDb:be≠D:=by omega
  have cw:(V.putObj D (.deferred none)).cell? ⟨be,0,none⟩=some (.int .i64 (aZ c f 0 0 (pp [] t))):=aB ((World.putObj_heap_other hDb).trans H1.out) (i:=0) rfl
  clear h1 h2 hK
  simp only [iX]
  go_wp2
  refine⟨by simp,.inl ⟨_,_,rfl,run_takeDeferred HK.out,?_⟩⟩
  exact⟨.int .i64 (aZ c f 0 0 (pp [] t)),by simp [results,Tryz.results21,go_sem,cw],rfl,nD _ H2.out (o0 B3.size hD)⟩
theorem uE{w:World}{t:Tr}(c f:Bool)(hta:TB w t):Calls Tryz.prog 21 #[.agg #[.int .i64 t.f.k,.int .i64 t.f.n,.int .i64 t.f.mn,.int .i64 t.f.mx,.slice t.f.rq t.f.rs.length t.f.rc,.slice t.f.kq t.f.kl t.f.kc],.agg #[.bool c,.bool f]] w fun e w'=>e=.returned (.int .i64 (aZ c f 0 0 (pp [] t)))/\Below w.heap.size w w':=callsIn_wide.1 (aM3 3 (by decide) c f hta)
end
theorem kD{c f:Bool}:∀ (L:List El) (ah gr:Nat),aZ c f ah gr L=0->∀ pre x post,L=pre++x :: post->bR c f x.1 x.2 (ah+pre.length) (gr+aN pre)=0
 | [],_,_,_,pre,x,post,h=>by cases pre <;> cases h
 | y :: L,ah,gr,hr,pre,x,post,h=>by
  unfold aZ at hr
  by_cases hy:bR c f y.1 y.2 ah gr=0
  ·rw [if_neg (by simpa using hy)] at hr
   cases pre with
   | nil=>
    simp at h
    obtain⟨rfl,rfl⟩:=h
    simpa [aN] using hy
   | cons z pre=>
    simp at h
    obtain⟨rfl,rfl⟩:=h
    have:=kD (pre++x :: post) (ah+1) (gr+(if y.2.f.k=7 then 1 else 0)) hr pre x post rfl
    simp only [o7,aN]
    rw [show ah+(pre.length+1)=ah+1+pre.length by omega,show gr+((if y.2.f.k=7 then 1 else 0)+aN pre)=gr+(if y.2.f.k=7 then 1 else 0)+aN pre by omega]
    exact this
  ·rw [if_pos hy] at hr
   exact absurd hr hy
theorem rQ{c f:Bool}:∀ (L:List El) (ah gr:Nat),(∀ pre x post,L=pre++x :: post->bR c f x.1 x.2 (ah+pre.length) (gr+aN pre)=0)->aZ c f ah gr L=0
 | [],_,_,_=>rfl
 | y :: L,ah,gr,h=>by
  unfold aZ
  have hy:=h [] y L rfl
  simp only [List.length_nil,aAJ,aN] at hy
  rw [if_neg (by simpa using hy)]
  refine rQ L (ah+1) (gr+(if y.2.f.k=7 then 1 else 0)) fun pre x post e=>?_
  have:=h (y :: pre) x post (by rw [e];rfl)
  simp only [o7,aN] at this
  rw [show ah+1+pre.length=ah+(pre.length+1) by omega,show gr+(if y.2.f.k=7 then 1 else 0)+aN pre=gr+((if y.2.f.k=7 then 1 else 0)+aN pre) by omega]
  exact this
theorem aZ0{ks:List Tr}(s:Way)(h:∀ t∈ks,∀ p,pp (p++s) t=(pp p t).map fun z=>(z.1++s,z.2))(par:Tr)(p:Way)(i:Nat):pps par (p++s) i ks=(pps par p i ks).map fun z=>(z.1++s,z.2):=by
 induction ks generalizing i with
 | nil=>rw [bA,bA];rfl
 | cons t ts ih=>rw [aX,aX,aAK,<- ih (fun u hu=>h u (m9 _ hu)),<- h t (n9 ..)];rfl
theorem bJ9(s:Way)(t:Tr):∀ p,pp (p++s) t=(pp p t).map fun z=>(z.1++s,z.2):=by
 refine Tr.ind (P:=fun t=>∀ p,pp (p++s) t=(pp p t).map fun z=>(z.1++s,z.2)) (fun t ih p=>?_) t
 rw [bX,bX,s6,aZ0 s ih]
theorem lB{pk seen k:Int}{kl:Nat}(h:cS pk seen kl k=true):cP k=true:=by
 have ht:bC k=true->cP k=true:=by
  intro z
  simp [bC] at z
  simp [cP]
  omega
 unfold cS at h
 split at h
 ·simp at h
  rcases h with (z | z) | z
  ·exact ht z
  ·obtain⟨rfl,-⟩:=z;rfl
  ·obtain⟨rfl,-⟩:=z;rfl
 ·split at h
  ·exact ht h
  ·split at h
   ·simp at h;exact h.1
   ·exact h
theorem nO{c f:Bool}{L:List El}(hr:aZ c f 0 0 L=0):L.length<=2000:=by
 rcases Nat.lt_or_ge 2000 L.length with h | h
 ·exfalso
  have e:L=L.take 2000++L[2000] :: L.drop 2001:=by
   have:=aBG 2000 L
   rw [aBO h] at this
   exact this.symm
  have:=kD L 0 0 hr _ _ _ e
  rw [show 0+(L.take 2000).length=2000 by rw [aAG];omega] at this
  unfold bR at this
  rw [if_pos rfl] at this
  cases this
 ·exact h
theorem aP4{c f:Bool}{p:Way}{t:Tr}{ah gr:Nat}(h:bR c f p t ah gr=0)(hk:t.f.k=7):t.f.n=(gr:Int)+1/\t.f.n<=30:=by
 unfold bR at h
 split at h
 ·cases h
 ·split at h
  ·cases h
  ·split at h
   ·cases h
   ·rename_i n3
    have hf:=(Classical.not_not.1 n3).2.1
    split at h
    ·cases h
    ·rename_i n4
     refine⟨?_,Int.not_lt.1 fun z=>n4 ⟨hk,z⟩⟩
     unfold aS at hf
     rw [if_neg (by omega),if_pos hk] at hf
     exact hf.1
section
abbrev wE(T:Type):=Fl->List Tr->List T->(Int->T)->T
def bQ0{T:Type}(g:Int->T)(k:Int)(x:T):Int->T:=fun i=>if i=k then x else g i
mutual
def ev{T:Type}(ρ:wE T):(Int->T)->Tr->T×(Int->T)
 | g,.mk f ks=>(ρ f ks (evs ρ g ks).1 (evs ρ g ks).2,if f.k=7 then bQ0 (evs ρ g ks).2 f.n (ρ f ks (evs ρ g ks).1 (evs ρ g ks).2) else (evs ρ g ks).2)
def evs{T:Type}(ρ:wE T):(Int->T)->List Tr->List T×(Int->T)
 | g,[]=>([],g)
 | g,t :: ts=>((ev ρ g t).1 :: (evs ρ (ev ρ g t).2 ts).1,(evs ρ (ev ρ g t).2 ts).2)
end
mutual
def evG{T:Type}(ρ:wE T)(G:Int->T):Tr->T
 | .mk f ks=>ρ f ks (aF9 ρ G ks) G
def aF9{T:Type}(ρ:wE T)(G:Int->T):List Tr->List T
 | []=>[]
 | t :: ts=>evG ρ G t :: aF9 ρ G ts
end
variable {T:Type} {ρ:wE T}
theorem bM6(g:Int->T)(t:Tr):(ev ρ g t).1=ρ t.f t.ks (evs ρ g t.ks).1 (evs ρ g t.ks).2:=by cases t;rw [ev];rfl
theorem bB4(g:Int->T):evs ρ g []=([],g):=by rw [evs]
theorem aR5(g:Int->T)(t:Tr)(ts:List Tr):evs ρ g (t :: ts)=((ev ρ g t).1 :: (evs ρ (ev ρ g t).2 ts).1,(evs ρ (ev ρ g t).2 ts).2):=by rw [evs]
theorem bM7(G:Int->T)(t:Tr):evG ρ G t=ρ t.f t.ks (aF9 ρ G t.ks) G:=by cases t;rw [evG];rfl
theorem aR6(G:Int->T)(ks:List Tr):aF9 ρ G ks=ks.map (evG ρ G):=by
 induction ks with
 | nil=>rw [aF9];rfl
 | cons t a ih=>rw [aF9,ih];rfl
theorem lU{ks:List Tr}{j:Nat}{u:Tr}(h:ks[j]?=some u):szs (ks.take (j+1))=szs (ks.take j)+u.sz:=by
 have app:∀ a b:List Tr,szs (a++b)=szs a+szs b:=by
  intro a b
  induction a with
  | nil=>rw [cM];simp
  | cons x a ih=>rw [t4,bE,bE,ih];omega
 rw [s7,h,aBH,app,bE,cM]
 rfl
theorem eY(ks:List Tr):ks.length<=szs ks:=by
 induction ks with
 | nil=>simp
 | cons x a ih=>rw [bE,o7];have:=dO x;omega
theorem wO(ks:List Tr)(j:Nat):szs (ks.take j)<=szs ks:=by
 have app:∀ a b:List Tr,szs (a++b)=szs a+szs b:=by
  intro a b
  induction a with
  | nil=>rw [cM];simp
  | cons x a ih=>rw [t4,bE,bE,ih];omega
 have:=app (ks.take j) (ks.drop j)
 rw [aBG] at this
 omega
end
section
inductive Er where
 | mk (k n mn mx:Int) (rs:List (Int×Int)) (ks:List Er)
mutual
def er:Tr->Er | .mk f ks=>.mk f.k f.n f.mn f.mx f.rs (ers ks)
def ers:List Tr->List Er | []=>[] | t :: ts=>er t :: ers ts
end
theorem bB5(l:List Tr):ers l=l.map er:=by
 induction l with
 | nil=>rw [ers];rfl
 | cons t ts ih=>rw [ers,ih];rfl
theorem bY(t:Tr):er t=.mk t.f.k t.f.n t.f.mn t.f.mx t.f.rs (t.ks.map er):=by
 cases t
 rw [er,bB5]
 rfl
theorem qG(a b:Tr):er a=er b↔a.f.k=b.f.k/\a.f.n=b.f.n/\a.f.mn=b.f.mn/\a.f.mx=b.f.mx/\a.f.rs=b.f.rs/\a.ks.map er=b.ks.map er:=by
 rw [bY a,bY b]
 constructor
 ·intro h
  injection h with h1 h2 h3 h4 h5 h6
  exact⟨h1,h2,h3,h4,h5,h6⟩
 ·rintro ⟨h1,h2,h3,h4,h5,h6⟩
  rw [h1,h2,h3,h4,h5,h6]
open Classical in
noncomputable def eQ (a b:Er):Bool:=decide (a=b)
theorem eU(a b:Er):eQ a b=true↔a=b:=by unfold eQ;simp
theorem wU(a:Er):eQ a a=true:=(eU a a).2 rfl
open Classical in
noncomputable def lD (a b:List Er):Bool:=decide (a=b)
theorem iN(a b:List Er):lD a b=true↔a=b:=by unfold lD;simp
end
end Go.Proofs.YtlamifbjklpdbaaGreat
