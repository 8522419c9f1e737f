/-
  Parts of the proof.
-/
import Derived.Test.YtlamifbjklpdbaaGreatLessProofA0
import Derived.Test.YtlamifbjklpdbaaGreatLessProofB10
import Derived.Test.YtlamifbjklpdbaaGreatLessProofB11
import Derived.Laws.AppendOwnNone
import Derived.Test.YtlamifbjklpdbaaGreatLessProofB0
import Derived.Test.YtlamifbjklpdbaaGreatLessProofB8
import Derived.Test.YtlamifbjklpdbaaGreatLessProofB9
import Derived.Lib.MapLaws
import Derived.Lib.RuneCountTail
import Derived.Lib.Strings
import Derived.Lib.IndexMore
import Derived.Test.YtlamifbjklpdbaaGreatLessProofB2
set_option linter.unusedSimpArgs false
set_option maxRecDepth 100000
set_option maxHeartbeats 8000000
namespace Go.Proofs.YtlamifbjklpdbaaGreat
open Go Go.RowKit
def eV(V:List (Value×List (Int×Int))):List (Int×Int):=V.flatMap fun p=>p.2
theorem oR{V:List (Value×List (Int×Int))}{k:Nat}{p:Value×List (Int×Int)}(h:V[k]?=some p):eV (V.take (k+1))=eV (V.take k)++p.2:=by
 obtain⟨hk,rfl⟩:=i7.1 h
 rw [dI V k hk]
 unfold eV
 rw [aAC]
 simp only [s4,List.flatMap_nil,l9]
theorem vG(V:List (Value×List (Int×Int)))(k:Nat):(eV (V.take k)).length<=(eV V).length:=by
 have e:eV V=eV (V.take k)++eV (V.drop k):=by unfold eV;rw [<- aAC,u9]
 rw [e,j3]
 omega
theorem kL{base:Nat}{w:World}{n:Nat}{v:Value}{F L:List (Int×Int)}(h:w.ownsRow base 53 2 v n (aH F++aH L)):RR base w v (F++L):=by
 have hn:n=(F++L).length:=by have:=h.1;simp [bV] at this;simp;omega
 subst hn
 unfold RR
 rw [fY]
 exact h
theorem xE(w:World):Calls Tryz.prog 102 #[.slice none 0 0,.int .i64 0] w fun e w'=>e=.returned (.slice none 0 0)/\w'=w:=
 Any8.slices_Grow_room Tryz.growPl none 0 0 0 w (by omega) (by omega) (by omega) (by omega)
theorem aS3(n:Nat)(w:World)(hn:n<=8796093022208):Calls Tryz.prog 102 #[.slice none 0 0,.int .i64 (n:Int)] w fun e w'=>∃ v,e=.returned v/\RR w.heap.size w' v []/\Below w.heap.size w w':=by
 rcases Nat.eq_zero_or_pos n with rfl | hp
 ·exact(xE w).mono fun e w' ⟨h1,h2⟩=>⟨_,h1,RR.nil _ _,by rw [h2];exact Below.refl _ _⟩
 ·obtain⟨i0,hi,hz0,hz1,hz2⟩:=aW cA
  have h:=Any8.slices_Grow_grow Tryz.growPl i0 (.agg #[.int .i64 0,.int .i64 0]) hi hz0 (by rw [hz1];decide) none 0 0 n [] w (by omega) (by omega) (by rw [hz2];omega) (by omega) (by simp) (fun _=>rfl) (fun _ q=>by cases q)
  refine Calls.mono (show Calls Tryz.prog 102 _ _ _ from h) ?_
  rintro e w' ⟨rfl,rfl⟩
  have hg:=grownCap_ge w (0+n) 0 53
  have hm:=grownCap_le_maxLen w (0+n) 0 53 (by unfold maxLen;omega)
  refine⟨_,rfl,?_,(Below.refl _ _).drew.alloc (by simp) _⟩
  have hz:∀ k,(Builtin.zeroCells #[.int .i64 0,.int .i64 0] k).size=k*2:=fun k=>by simp [Builtin.zeroCells]
  refine World.ownsRow_made w.drew _ _ lz9 hm ?_
  show (#[]++Builtin.zeroCells #[.int .i64 0,.int .i64 0] (0+n-0)++Builtin.zeroCells #[.int .i64 0,.int .i64 0] (grownCap w (0+n) 0 53-(0+n))).size=grownCap w (0+n) 0 53*2
  rw [Array.size_append,Array.size_append,hz,hz]
  generalize grownCap w (0+n) 0 53=G at *
  show 0+(0+n-0)*2+(G-(0+n))*2=G*2
  omega
theorem rS{w:World}{g m:Nat}{V:List (Value×List (Int×Int))}(hm:V.length=m)(hV:∀ (i:Nat) (p:Value×List (Int×Int)),V[i]?=some p->w.cell? ⟨g,i,none⟩=some p.1/\ArgR w p.1 p.2)(hg:g<w.heap.size)(hml:m<=1000)(hl:(eV V).length+1<=8796093022208) :
  Calls Tryz.prog 90 #[.slice (some ⟨g,0,none⟩) m m] w fun e w'=>∃ v,e=.returned v/\RR w.heap.size w' v (eV V)/\Below w.heap.size w w':=by
 have HV:Hid (∀ (i:Nat) (p:Value×List (Int×Int)),V[i]?=some p->w.cell? ⟨g,i,none⟩=some p.1/\ArgR w p.1 p.2):=hV
 have HM:Hid (V.length=m):=hm
 obtain⟨t0,ti,hz0,hz1,hz2⟩:=aW cA
 clear hV hm
 go_enter Tryz.func90,Tryz.ntmps90
 go_wp2
 go_loopw [3,11] (fun s i wr=>∃ k:Nat,k<=m/\i=.int .i64 k/\s=.int .i64 ((eV (V.take k)).length:Nat)/\wr=w) (fun _ i _=>m-(intOf i).toNat)
 case atStart=>exact⟨0,m7 _,rfl,rfl,rfl⟩
 case round=>
  obtain⟨k,hk,rfl,rfl,hw⟩:=hrel
  subst wr
  by_cases hlt:k<m
  ·obtain⟨⟨v,L⟩,hp⟩:∃ p,V[k]?=some p:=⟨_,b7 (by have:=HM.out;omega)⟩
   obtain⟨d0,ha⟩:=HV.out k _ hp
   dsimp only at d0 ha
   obtain⟨q,cap,rfl,-,-,-⟩:=ha.slice
   have NX:Hid ((eV (V.take (k+1))).length=(eV (V.take k)).length+L.length):=aB (by rw [oR hp,j3])
   have le1:=vG V (k+1)
   rw [NX.out] at le1
   clear hp ha
   generalize (eV (V.take k)).length=n at *
   have i0:(0:Int)<=(k:Int):=by omega
   have i1:(k:Int)<(m:Int):=by omega
   have wn:IntKind.wrap .i64 ((n:Int)+(L.length:Int))=(n:Int)+(L.length:Int):=by rw [IntKind.wrap_i64];omega
   have nn:¬ ((n:Int)+(L.length:Int)<0):=by omega
   go_wp2
   go_roundw
   case rel=>exact⟨k+1,by omega,by go_num,by rw [NX.out];rfl,by first | rfl | trivial⟩
   case measure=>simp [intOf];omega
  ·have i1:¬ (k:Int)<(m:Int):=by omega
   have E:Hid (V.take k=V):=aB (j5 (by rw [HM.out];omega))
   rw [E.out]
   have LB:Hid ((eV V).length<=8796093022208):=aB (by omega)
   go_wp2_with (go_at_call 102;refine(aS3 _ _ LB.out).mono ?_;rintro e w5 ⟨v5,rfl,h1,h2⟩;have R5:Hid (RR w.heap.size w5 v5 []):=h1;have B5:Hid (Below w.heap.size w w5):=h2;clear h1 h2)
   rename World=>W1
   go_loopw [6,27] (fun s i wr=>∃ k:Nat,k<=m/\i=.int .i64 k/\RR w.heap.size wr s (eV (V.take k))/\Below w.heap.size w wr) (fun _ i _=>m-(intOf i).toNat)
   case atStart=>exact⟨0,m7 _,rfl,R5.out,B5.out⟩
   case round=>
    obtain⟨j,hj,rfl,hrr,hb⟩:=hrel
    obtain⟨qg,cg,rfl⟩:=hrr.shape
    have RG:Hid (RR w.heap.size wr (.slice qg (eV (V.take j)).length cg) (eV (V.take j))):=hrr
    have B:Hid (Below w.heap.size w wr):=hb
    have hbs:w.heap.size<=wr.heap.size:=hb.size
    clear hrr hb
    by_cases hjlt:j<m
    ·obtain⟨⟨v,L⟩,hp⟩:∃ p,V[j]?=some p:=⟨_,b7 (by have:=HM.out;omega)⟩
     obtain⟨d0,ha⟩:=HV.out j _ hp
     dsimp only at d0 ha
     have d1:=(B.out.cell (p:=⟨g,j,none⟩) hg).trans d0
     have NX:Hid (eV (V.take (j+1))=eV (V.take j)++L):=oR hp
     have le1:=vG V (j+1)
     rw [NX.out,j3] at le1
     have hA:=ha.kept B.out
     obtain⟨q,cap,rfl,-,-,-⟩:=ha.slice
     have j0:(0:Int)<=(j:Int):=by omega
     have j1:(j:Int)<(m:Int):=by omega
     clear hp d0
     generalize eV (V.take j)=F at *
     cases q with
     | none=>
      have e0:Value.slice none L.length cap=.slice none 0 0/\L=[]:=by
       rcases ha with⟨p,cap',e,e2,e3⟩ | ⟨g',off',cap',e,_⟩
       ·subst e2
        cases e
        have:=e3 rfl
        subst this
        exact⟨rfl,rfl⟩
       ·cases e
      rw [e0.1] at d1
      have EL:Hid (L=[]):=e0.2
      clear ha hA e0
      go_wp2_with (at_builtin;refine wpList_append_own_none rfl _ _ 22 rfl w.heap.size 53 t0 2 aU ti (.slice qg F.length cg) F.length (aH F) rfl RG.out rfl ?_)
      go_roundw
      case rel=>exact⟨j+1,by omega,by go_num,by rw [NX.out,EL.out,l9];exact RG.out,B.out⟩
      case measure=>simp [intOf];omega
     | some ad=>
      have NW:Hid (∀ j u,(aH L)[j]?=some u->wr.cell? (ad.add j)=some u):=hA.news
      clear ha hA
      go_wp2_with (at_builtin;refine wpList_append_own_at _ rfl _ _ 22 rfl w.heap.size 53 t0 (.agg #[.int .i64 0,.int .i64 0]) 2 16 aU ti hz0 hz1 hz2 rfl (by decide) (.slice qg F.length cg) F.length (aH F) rfl RG.out ad L.length cap (aH L) rfl (bV L) NW.out (eR L) (by unfold maxLen;omega) (by omega) hbs ?_;intro v' w6 hown' hgrow _ hblk;have A6:Hid (RR w.heap.size w6 v' (F++L)):=kL hown';have B6:Hid (Below w.heap.size w w6):=bX B.out RG.out hgrow;clear hown' hgrow hblk)
      go_roundw
      case rel=>exact⟨j+1,by omega,by go_num,by rw [NX.out];exact A6.out,B6.out⟩
      case measure=>simp [intOf];omega
    ·have j1:¬ (j:Int)<(m:Int):=by omega
     have E2:Hid (V.take j=V):=aB (j5 (by rw [HM.out];omega))
     rw [E2.out] at RG ⊢
     go_wp2
     go_ret
     exact⟨_,rfl,RG.out,B.out⟩
def top(m:Bool):Int:=if m then 1114111 else 255
def dQ(m:Bool)(c:Int):Prop:=0<=c/\c<=top m/\(m=true->c<55296\/57343<c)
def cN(m:Bool):List (Int×Int):=if m then [(0,55295),(57344,1114111)] else [(0,255)]
theorem gQ(m:Bool):IsC (cN m) (dQ m):=by
 cases m with
 | true=>
  refine⟨⟨by simp [cN],by simp [cN]⟩,fun r hr=>?_,fun c=>?_⟩
  ·simp [cN] at hr
   rcases hr with rfl | rfl <;> simp
  ·simp [cN,In,dQ,top]
   omega
 | false=>
  refine⟨⟨by simp [cN],by simp [cN]⟩,fun r hr=>?_,fun c=>?_⟩
  ·simp [cN] at hr
   subst hr;simp
  ·simp [cN,In,dQ,top]
theorem fX(m:Bool):(cN m).length<=2:=by cases m <;> simp [cN]
theorem aL9(m:Bool)(w:World):Calls Tryz.prog 118 #[.bool m] w fun e w'=>e=.returned (.int .i64 (top m))/\w'=w:=by
 cases m with
 | true=>
  go_enter Tryz.func118,Tryz.ntmps118
  go_wp2
  go_ret
  exact⟨rfl,rfl⟩
 | false=>
  go_enter Tryz.func118,Tryz.ntmps118
  go_wp2
  go_ret
  exact⟨rfl,rfl⟩
theorem aK4(m:Bool)(w:World):Calls Tryz.prog 113 #[.bool m] w fun e w'=>∃ v,e=.returned v/\RR w.heap.size w' v (cN m)/\Below w.heap.size w w':=by
 cases m with
 | true=>
  go_enter Tryz.func113,Tryz.ntmps113
  go_wp2_with (go_at_call 118;refine(aL9 _ _).mono ?_;rintro e w5 ⟨rfl,h5⟩;subst w5)
  go_ret
  exact⟨_,rfl,World.ownsRow_lit w #[.int .i64 0,.int .i64 55295,.int .i64 57344,.int .i64 1114111] 2 lz9 (by unfold maxLen;omega) rfl,bz9⟩
 | false=>
  go_enter Tryz.func113,Tryz.ntmps113
  go_wp2_with (go_at_call 118;refine(aL9 _ _).mono ?_;rintro e w5 ⟨rfl,h5⟩;subst w5)
  go_ret
  exact⟨_,rfl,World.ownsRow_lit w #[.int .i64 0,.int .i64 255] 1 lz9 (by unfold maxLen;omega) rfl,bz9⟩
def num(c:Int):Prop:=-9223372036854775808<=c/\c<=9223372036854775807
theorem aQ9{w:World}{v:Value}{L:List (Int×Int)}{m:Bool}(h:ArgR w v L)(hF:Fit L)(hl:L.length+3<=8796093022208) :
  Calls Tryz.prog 107 #[v,.bool m] w (oD w (fun c=>In L c/\dQ m c) (L.length+2)):=by
 have H:Hid (ArgR w v L/\Fit L):=⟨h,hF⟩
 have hl1:L.length<=8796093022208:=by omega
 clear h hF
 go_enter Tryz.func107,Tryz.ntmps107
 go_wp2_with first
  |(go_at_call 89;refine(eQ H.out.1 H.out.2 hl1).mono ?_;rintro e w5 ⟨v5,C5,rfl,h1,h2,h3,h4⟩;have X5:Hid (RR w.heap.size w5 v5 C5/\IsC C5 (In L)/\C5.length<=L.length/\Below w.heap.size w w5):=⟨h1,h2,h3,h4⟩;clear h1 h2 h3 h4)
  |(go_at_call 113;refine(aK4 m _).mono ?_;rintro e w6 ⟨v6,rfl,h1,h2⟩;have X6:Hid (RR w5.heap.size w6 v6 (cN m)/\Below w5.heap.size w5 w6):=⟨h1,h2⟩;clear h1 h2)
  |(go_at_call 112;refine(rT (X5.out.1.kept X6.out.2).arg X6.out.1.arg X5.out.2.1.cls (gQ m).cls X5.out.2.1.fit (gQ m).fit (by have:=X5.out.2.2.1;have:=fX m;omega)).mono ?_;rintro e w7 ⟨v7,C7,rfl,h1,h2,h3,h4⟩;have X7:Hid (RR w6.heap.size w7 v7 C7/\IsC C7 (fun c=>In C5 c/\In (cN m) c)/\C7.length<=C5.length+(cN m).length/\Below w6.heap.size w6 w7):=⟨h1,h2,h3,h4⟩;clear h1 h2 h3 h4)
 go_ret
 have B6:=aF X5.out.2.2.2 X6.out.2 lz9
 refine⟨_,_,rfl,X7.out.1.mono B6.size,X7.out.2.1.to fun c=>?_,?_,aF B6 X7.out.2.2.2 lz9⟩
 ·rw [X5.out.2.1.mem,(gQ m).mem]
 ·have:=X7.out.2.2.1
  have:=X5.out.2.2.1
  have:=fX m
  omega
theorem aV4{w:World}{va vb:Value}{A B:List (Int×Int)}(ha:ArgR w va A)(hb:ArgR w vb B)(fa:Fit A)(fb:Fit B)(hl:A.length+B.length+1<=8796093022208) :
  Calls Tryz.prog 114 #[va,vb] w (oD w (fun c=>In A c/\In B c) (A.length+B.length)):=by
 have H:Hid (ArgR w va A/\Fit A):=⟨ha,fa⟩
 have K:Hid (ArgR w vb B/\Fit B):=⟨hb,fb⟩
 have hl1:A.length<=8796093022208:=by omega
 have hl2:B.length<=8796093022208:=by omega
 clear ha hb fa fb
 go_enter Tryz.func114,Tryz.ntmps114
 go_wp2_with first
  |(have hx:=X5.out;clear hx;go_at_call 89;have hih:=eQ (K.out.1.kept X5.out.2.2.2) K.out.2 hl2;refine hih.mono ?_;clear hih;rintro e w6 ⟨v6,C6,rfl,h1,h2,h3,h4⟩;have X6:Hid (RR w5.heap.size w6 v6 C6/\IsC C6 (In B)/\C6.length<=B.length/\Below w5.heap.size w5 w6):=⟨h1,h2,h3,h4⟩;clear h1 h2 h3 h4)
  |(go_at_call 89;refine(eQ H.out.1 H.out.2 hl1).mono ?_;rintro e w5 ⟨v5,C5,rfl,h1,h2,h3,h4⟩;have X5:Hid (RR w.heap.size w5 v5 C5/\IsC C5 (In A)/\C5.length<=A.length/\Below w.heap.size w w5):=⟨h1,h2,h3,h4⟩;clear h1 h2 h3 h4)
  |(go_at_call 112;refine(rT (X5.out.1.kept X6.out.2.2.2).arg X6.out.1.arg X5.out.2.1.cls X6.out.2.1.cls X5.out.2.1.fit X6.out.2.1.fit (by have:=X5.out.2.2.1;have:=X6.out.2.2.1;omega)).mono ?_;rintro e w7 ⟨v7,C7,rfl,h1,h2,h3,h4⟩;have X7:Hid (RR w6.heap.size w7 v7 C7/\IsC C7 (fun c=>In C5 c/\In C6 c)/\C7.length<=C5.length+C6.length/\Below w6.heap.size w6 w7):=⟨h1,h2,h3,h4⟩;clear h1 h2 h3 h4)
 go_ret
 have B6:=aF X5.out.2.2.2 X6.out.2.2.2 lz9
 refine⟨_,_,rfl,X7.out.1.mono B6.size,X7.out.2.1.to fun c=>?_,?_,aF B6 X7.out.2.2.2 lz9⟩
 ·rw [X5.out.2.1.mem,X6.out.2.1.mem]
 ·have:=X7.out.2.2.1
  have:=X5.out.2.2.1
  have:=X6.out.2.2.1
  omega
theorem yD{w:World}{va vb:Value}{A B:List (Int×Int)}(ha:ArgR w va A)(hb:ArgR w vb B)(t:TypeId):∀ (i:Nat) (p:Value×List (Int×Int)),[(va,A),(vb,B)][i]?=some p->(w.alloc (.cells #[va,vb] t)).cell? ⟨w.heap.size,i,none⟩=some p.1/\ArgR (w.alloc (.cells #[va,vb] t)) p.1 p.2:=by
 have B1:Below w.heap.size w (w.alloc (.cells #[va,vb] t)):=bz9
 intro i p hp
 match i,hp with
 | 0,hp=>simp at hp;subst hp;exact⟨aA (aD w _) (i:=0) rfl,ha.kept B1⟩
 | 1,hp=>simp at hp;subst hp;exact⟨aA (aD w _) (i:=1) rfl,hb.kept B1⟩
theorem aV6{w:World}{va vb:Value}{A B:List (Int×Int)}(ha:ArgR w va A)(hb:ArgR w vb B)(fa:Fit A)(fb:Fit B)(hl:A.length+B.length+1<=8796093022208) :
  Calls Tryz.prog 72 #[va,vb] w (oD w (fun c=>In A c\/In B c) (A.length+B.length)):=by
 obtain⟨q1,k1,e1,-,-,-⟩:=ha.slice
 obtain⟨q2,k2,e2,-,-,-⟩:=hb.slice
 subst e1 e2
 have H:Hid (ArgR w (.slice q1 A.length k1) A/\ArgR w (.slice q2 B.length k2) B):=⟨ha,hb⟩
 have FF:Hid (Fit (A++B)):=cM fa fb
 have B1:Hid (Below w.heap.size w (w.alloc (.cells #[.slice q1 A.length k1,.slice q2 B.length k2] 22))):=bz9
 clear ha hb fa fb
 have CC:Hid (Calls Tryz.prog 90 #[.slice (some ⟨w.heap.size,0,none⟩) 2 2] (w.alloc (.cells #[.slice q1 A.length k1,.slice q2 B.length k2] 22)) fun e w'=>∃ v,e=.returned v/\RR w.heap.size w' v (A++B)/\Below w.heap.size w w'):=
  aB ((rS (V:=[(.slice q1 A.length k1,A),(.slice q2 B.length k2,B)]) (m:=2) rfl (yD H.out.1 H.out.2 22) (by simp) (by omega) (by simp [eV];omega)).mono fun e w' ⟨v,h1,h2,h3⟩=>⟨v,h1,by have:=h2.mono (base':=w.heap.size) (by simp);simpa [eV] using this,aF B1.out h3 lz9⟩)
 go_enter Tryz.func72,Tryz.ntmps72
 go_wp2_with first
  |(go_at_call 90;refine CC.out.mono ?_;rintro e w5 ⟨v5,rfl,h1,h2⟩;have X5:Hid (RR w.heap.size w5 v5 (A++B)/\Below w.heap.size w w5):=⟨h1,h2⟩;clear h1 h2)
  |(go_at_call 89;refine(eQ X5.out.1.arg FF.out (by simp;omega)).mono ?_;rintro e w6 ⟨v6,C6,rfl,h1,h2,h3,h4⟩;have X6:Hid (RR w5.heap.size w6 v6 C6/\IsC C6 (In (A++B))/\C6.length<=(A++B).length/\Below w5.heap.size w5 w6):=⟨h1,h2,h3,h4⟩;clear h1 h2 h3 h4)
 go_ret
 refine⟨_,_,rfl,X6.out.1.mono X5.out.2.size,X6.out.2.1.to fun c=>bZ A B c,by have:=X6.out.2.2.1;simpa using this,aF X5.out.2 X6.out.2.2.2 lz9⟩
inductive Sgn where
 | lf (k n:Int) (rs:List (Int×Int))
 | op (n:Nat)
 | cl
 | al
 | rp (a b:Int)
inductive Ps where
 | lf (k n:Int) (rs:List (Int×Int))
 | grp (n:Nat) (x:Ps)
 | rep (a b:Int) (x:Ps)
 | row (l:List Ps)
 | alt (l:List Ps)
mutual
def Ps.sz:Ps->Nat
 | .lf _ _ _=>1
 | .grp _ x=>x.sz+1
 | .rep _ _ x=>x.sz+1
 | .row l=>bR l+1
 | .alt l=>bR l+1
def bR:List Ps->Nat
 | []=>0
 | x :: l=>x.sz+bR l
end
mutual
def Ps.dp:Ps->Nat
 | .lf _ _ _=>1
 | .grp _ x=>x.dp+1
 | .rep _ _ x=>x.dp+1
 | .row l=>fU l+1
 | .alt l=>fU l+1
def fU:List Ps->Nat
 | []=>0
 | x :: l=>max x.dp (fU l)
end
mutual
def pfl:Ps->List Sgn
 | .lf k n rs=>[.lf k n rs]
 | .grp n x=>.op n :: (pfl x++[.cl])
 | .rep a b x=>pfl x++[.rp a b]
 | .row l=>eC l
 | .alt l=>jW l
def eC:List Ps->List Sgn
 | []=>[]
 | x :: l=>pfl x++eC l
def jW:List Ps->List Sgn
 | []=>[]
 | x :: l=>pfl x++dX l
def dX:List Ps->List Sgn
 | []=>[]
 | x :: l=>.al :: (pfl x++dX l)
end
mutual
def te:Ps->Er
 | .lf k n rs=>.mk k n 0 0 rs []
 | .grp n x=>.mk 7 n 0 0 [] [te x]
 | .rep a b x=>.mk 9 0 a b [] [te x]
 | .row l=>if l.isEmpty then .mk 1 0 0 0 [] [] else .mk 5 0 0 0 [] (tes l)
 | .alt l=>.mk 6 0 0 0 [] (tes l)
def tes:List Ps->List Er
 | []=>[]
 | x :: l=>te x :: tes l
end
theorem bJ(l:List Ps):tes l=l.map te:=by
 induction l with
 | nil=>rw [tes];rfl
 | cons x l ih=>rw [tes,ih];rfl
def Ps.kd:Ps->Int
 | .lf k _ _=>k
 | .grp _ _=>7
 | .rep _ _ _=>9
 | .row l=>if l.isEmpty then 1 else 5
 | .alt _=>6
def gN:Ps->Bool
 | .row _=>false
 | .alt _=>false
 | _=>true
def jL:Ps->Bool
 | .alt _=>false
 | _=>true
def fJ:Ps->Bool
 | .lf k _ _=>k==2||k==8
 | .grp _ _=>true
 | .rep _ _ _=>true
 | _=>false
def aT4(l:List Ps):Prop:=∀ (i:Nat) (x:Ps),l[i]?=some x->gN x=true/\(x.kd=3->i=0)/\(x.kd=4->i+1=l.length)
mutual
def wf:Ps->Prop
 | .lf k _ _=>k=2\/k=3\/k=4\/k=8
 | .grp _ x=>wf x
 | .rep _ _ x=>fJ x=true/\wf x
 | .row l=>l.length≠1/\aT4 l/\wfs l
 | .alt l=>2<=l.length/\(∀ x∈l,jL x=true)/\wfs l
def wfs:List Ps->Prop
 | []=>True
 | x :: l=>wf x/\wfs l
end
theorem cT(l:List Ps):wfs l ↔ ∀ x∈l,wf x:=by
 induction l with
 | nil=>rw [wfs];simp
 | cons x l ih=>rw [wfs,ih];simp
theorem zY(x:Ps):eC [x]=pfl x:=by rw [eC,eC,l9]
theorem fP(x:Ps):1<=x.sz:=by cases x <;> simp [Ps.sz]
theorem bD(x:Ps)(l:List Ps):bR (x :: l)=x.sz+bR l:=by rw [bR]
theorem gI:bR []=0:=by rw [bR]
theorem uO{x:Ps}{l:List Ps}(h:x∈l):x.sz<=bR l:=by
 induction l with
 | nil=>cases h
 | cons y l ih=>
  rw [bD]
  rcases n7.1 h with rfl | h
  ·omega
  ·have:=ih h;omega
def Ps.kids:Ps->List Ps
 | .lf _ _ _=>[]
 | .grp _ x=>[x]
 | .rep _ _ x=>[x]
 | .row l=>l
 | .alt l=>l
theorem uP{x y:Ps}(h:y∈x.kids):y.sz<x.sz:=by
 cases x with
 | lf=>cases h
 | grp n k=>simp [Ps.kids] at h;subst h;simp [Ps.sz]
 | rep a b k=>simp [Ps.kids] at h;subst h;simp [Ps.sz]
 | row l=>have:=uO (show y∈l from h);simp [Ps.sz];omega
 | alt l=>have:=uO (show y∈l from h);simp [Ps.sz];omega
theorem Ps.ind{P:Ps->Prop}(h:∀ x,(∀ y∈x.kids,P y)->P x)(x:Ps):P x:=by
 have:∀ (m:Nat) (x:Ps),x.sz<=m->P x:=by
  intro m
  induction m with
  | zero=>intro x hx;have:=fP x;omega
  | succ m ih=>intro x hx;exact h x fun y hy=>ih y (by have:=uP hy;omega)
 exact this x.sz x lz9
theorem dC{x y:Ps}(h:wf x)(hy:y∈x.kids):wf y:=by
 cases x with
 | lf=>cases hy
 | grp n k=>simp [Ps.kids] at hy;subst hy;rw [wf] at h;exact h
 | rep a b k=>simp [Ps.kids] at hy;subst hy;rw [wf] at h;exact h.2
 | row l=>rw [wf] at h;exact(cT l).1 h.2.2 y hy
 | alt l=>rw [wf] at h;exact(cT l).1 h.2.2 y hy
def hk:Nat->List Nat->List Nat->List Sgn->Prop
 | _,o,_,[]=>o=[]
 | g,o,e,.op n :: l=>n=g+1/\g<30/\hk (g+1) (n :: o) e l
 | g,o,e,.cl :: l=>∃ n o',o=n :: o'/\hk g o' (n :: e) l
 | g,o,e,.lf k n _ :: l=>(k=8->∃ i∈e,n=(i:Int))/\hk g o e l
 | g,o,e,_ :: l=>hk g o e l
def mkB(l:List Ps):Ps:=match l with
 | [x]=>x
 | l=>.row l
def mkP(l:List Ps):Ps:=match l with
 | [x]=>x
 | l=>.alt l
theorem rE(l:List Ps):pfl (mkB l)=eC l:=by
 unfold mkB
 split
 ·rw [zY]
 ·rw [pfl]
section
mutual
def grs:Ps->Nat
 | .lf _ _ _=>0
 | .grp _ x=>grs x+1
 | .rep _ _ x=>grs x
 | .row l=>bP l
 | .alt l=>bP l
def bP:List Ps->Nat
 | []=>0
 | x :: l=>grs x+bP l
end
def isE:Ps->Bool
 | .row []=>true
 | _=>false
theorem uZ(x:Ps):isE x=true↔x=.row []:=by
 cases x with
 | row l=>cases l <;> simp [isE]
 | lf=>simp [isE]
 | grp=>simp [isE]
 | rep=>simp [isE]
 | alt=>simp [isE]
def kB:Ps->Bool
 | .rep a b _=>a==0&&b==-1
 | _=>false
def isS:Ps->Bool
 | .lf k _ _=>k==2
 | _=>false
def rsP:Ps->List (Int×Int)
 | .lf _ _ rs=>rs
 | _=>[]
def gC(a b:Int)(x:Ps):Ps:=if a=1/\b=1 then x else if a=0/\b=-1/\kB x=true then x else if b=0/\grs x=0 then .row [] else if isE x then .row [] else .rep a b x
def gV(l:List Ps):Ps:=if l.any isE then mkB (l.filter fun x=>!isE x) else .row l
def bT(u:List (Int×Int)):Bool->List Ps->List Ps
 | _,[]=>[]
 | s,x :: l=>if isS x then (if s then bT u s l else .lf 2 0 u :: bT u true l) else x :: bT u s l
def bB(un:List (Int×Int)->List (Int×Int))(l:List Ps):List Ps:=if 2<=(l.filter isS).length then bT (un ((l.filter isS).flatMap rsP)) false l else l
open Classical in
noncomputable def aT:List Ps->List Ps->List Ps
 | acc,[]=>acc
 | acc,x :: l=>if x∈acc then aT acc l else aT (acc++[x]) l
noncomputable def iK (un:List (Int×Int)->List (Int×Int)) (l:List Ps):Ps:=mkP (aT [] (bB un l))
variable (un:List (Int×Int)->List (Int×Int))
mutual
noncomputable def sim:Ps->Ps
 | .lf k n rs=>.lf k n rs
 | .grp n x=>.grp n (sim x)
 | .rep a b x=>gC a b (sim x)
 | .row l=>gV (bI l)
 | .alt l=>iK un (bI l)
noncomputable def bI:List Ps->List Ps
 | []=>[]
 | x :: l=>sim x :: bI l
end
theorem cI(l:List Ps):bI un l=l.map (sim un):=by
 induction l with
 | nil=>rw [bI];rfl
 | cons x l ih=>rw [bI,ih];rfl
theorem cZ(l:List Ps):∀ (acc:List Ps) (x:Ps),x∈aT acc l↔x∈acc\/x∈l:=by
 induction l with
 | nil=>intro acc x;rw [aT];simp
 | cons y l ih=>
  intro acc x
  rw [aT]
  split
  ·rename_i h
   rw [ih,n7]
   constructor
   ·rintro (q | q)
    ·exact .inl q
    ·exact .inr (.inr q)
   ·rintro (q | q | q)
    ·exact .inl q
    ·rw [q];exact .inl h
    ·exact .inr q
  ·rw [ih,j6,s9,n7,or_assoc]
theorem iI(l:List Ps):∀ (acc:List Ps),acc.Nodup->(aT acc l).Nodup:=by
 induction l with
 | nil=>intro acc h;rw [aT];exact h
 | cons y l ih=>
  intro acc h
  rw [aT]
  split
  ·exact ih acc h
  ·rename_i hy
   exact ih _ (List.nodup_append.2 ⟨h,List.nodup_cons.2 ⟨fun q=>(by cases q),List.nodup_nil⟩,fun a ha b hb=>by rw [s9.1 hb];intro e;exact hy (e ▸ ha)⟩)
theorem gD(u:List (Int×Int))(l:List Ps):∀ (s:Bool) (x:Ps),x∈bT u s l->x=.lf 2 0 u\/(x∈l/\isS x=false):=by
 induction l with
 | nil=>intro s x h;rw [bT] at h;cases h
 | cons y l ih=>
  intro s x h
  rw [bT] at h
  split at h
  ·split at h
   ·exact(ih _ x h).imp id (fun q=>⟨b6 _ q.1,q.2⟩)
   ·rcases n7.1 h with e | e
    ·exact .inl e
    ·exact(ih _ x e).imp id (fun q=>⟨b6 _ q.1,q.2⟩)
  ·rename_i hy
   rcases n7.1 h with e | e
   ·exact .inr ⟨by rw [e];exact g7 ..,by rw [e];simpa using hy⟩
   ·exact(ih _ x e).imp id (fun q=>⟨b6 _ q.1,q.2⟩)
theorem gM{l:List Ps}{x:Ps}(h:x∈bB un l):(∃ u,x=.lf 2 0 u)\/x∈l:=by
 unfold bB at h
 split at h
 ·rcases gD _ _ _ _ h with e | e
  ·exact .inl ⟨_,e⟩
  ·exact .inr e.1
 ·exact .inr h
theorem mD(x:Ps):wf x->fJ x=true->fJ (sim un x)=true\/sim un x=.row []:=by
 refine Ps.ind (P:=fun x=>wf x->fJ x=true->fJ (sim un x)=true\/sim un x=.row []) (fun x ih hw ht=>?_) x
 cases x with
 | lf k n rs=>rw [sim];exact .inl ht
 | grp n y=>rw [sim];exact .inl rfl
 | rep a b y=>
  rw [wf] at hw
  have hy:=ih y (by simp [Ps.kids]) hw.2 hw.1
  rw [sim]
  unfold gC
  split
  ·exact hy
  split
  ·exact hy
  split
  ·exact .inr rfl
  split
  ·exact .inr rfl
  ·exact .inl rfl
 | row l=>cases ht
 | alt l=>cases ht
theorem vT{x:Ps}(h:fJ x=true):gN x=true/\x.kd≠3/\x.kd≠4:=by
 cases x with
 | lf k n rs=>
  simp [fJ] at h
  refine⟨rfl,?_,?_⟩ <;> simp [Ps.kd] <;> omega
 | grp n y=>exact⟨rfl,by simp [Ps.kd],by simp [Ps.kd]⟩
 | rep a b y=>exact⟨rfl,by simp [Ps.kd],by simp [Ps.kd]⟩
 | row l=>cases h
 | alt l=>cases h
theorem pX{x:Ps}(hw:wf x)(h:gN x=true):(gN (sim un x)=true/\((sim un x).kd=3->x.kd=3)/\((sim un x).kd=4->x.kd=4))\/sim un x=.row []:=by
 cases x with
 | lf k n rs=>rw [sim];exact .inl ⟨rfl,fun e=>e,fun e=>e⟩
 | grp n y=>rw [sim];exact .inl ⟨rfl,fun e=>(by simp [Ps.kd] at e),fun e=>(by simp [Ps.kd] at e)⟩
 | rep a b y=>
  rcases mD un (.rep a b y) hw rfl with e | e
  ·obtain⟨h1,h2,h3⟩:=vT e
   exact .inl ⟨h1,fun q=>absurd q h2,fun q=>absurd q h3⟩
  ·exact .inr e
 | row l=>cases h
 | alt l=>cases h
theorem aR2{l:List Ps}(h:∀ x∈l,gN x=true):jL (mkB l)=true:=by
 match l,h with
 | [],_=>rfl
 | [x],h=>have:=h x (by simp);show jL x=true;cases x <;> first | rfl | cases this
 | _ :: _ :: _,_=>rfl
theorem sB{l:List Ps}(h:∀ (i:Nat) (x:Ps),l[i]?=some x->isE x=false->gN x=true/\(x.kd=3->i=0)/\(x.kd=4->i+1=l.length)):aT4 (l.filter fun x=>!isE x):=by
 induction l with
 | nil=>intro i x hx;simp at hx
 | cons y l ih=>
  have ht:∀ (i:Nat) (x:Ps),l[i]?=some x->isE x=false->gN x=true/\(x.kd=3->False)/\(x.kd=4->i+1=l.length):=fun i x hx he=>by
   obtain⟨h1,h2,h3⟩:=h (i+1) x (by simpa using hx) he
   refine⟨h1,fun e=>by have:=h2 e;omega,fun e=>by have:=h3 e;simp at this;omega⟩
  have ih':=ih fun i x hx he=>⟨(ht i x hx he).1,fun e=>((ht i x hx he).2.1 e).elim,(ht i x hx he).2.2⟩
  have h3':∀ x∈l,isE x=false->x.kd≠3:=fun x hx he e=>by
   obtain⟨i,hi,e2⟩:=List.getElem_of_mem hx
   exact(ht i x (by rw [b7 hi,e2]) he).2.1 e
  rw [r8]
  by_cases he:isE y=true
  ·rw [if_neg (by rw [he];simp)]
   exact ih'
  ·have he:isE y=false:=by simpa using he
   rw [if_pos (by rw [he];rfl)]
   intro i x hx
   cases i with
   | zero=>
    rw [List.getElem?_cons_zero] at hx
    cases hx
    obtain⟨h1,h2,h3⟩:=h 0 y rfl he
    refine⟨h1,fun _=>rfl,fun e=>?_⟩
    have:=h3 e
    simp at this
    subst this
    rfl
   | succ i=>
    rw [s7] at hx
    obtain⟨h1,h2,h3⟩:=ih' i x hx
    have hm:=i5 hx
    rw [o6] at hm
    refine⟨h1,fun e=>absurd e (h3' x hm.1 (by simpa using hm.2)),fun e=>by have:=h3 e;simp;omega⟩
theorem aN8{l:List Ps}(ha:aT4 l)(hw:∀ x∈l,wf x):wf (mkB l):=by
 match l,ha,hw with
 | [],ha,_=>show wf (.row []);rw [wf];exact⟨by simp,ha,(cT _).2 (fun _ h=>by cases h)⟩
 | [x],_,hw=>exact hw x (by simp)
 | x :: y :: r,ha,hw=>show wf (.row _);rw [wf];exact⟨by simp,ha,(cT _).2 hw⟩
theorem aN7{l:List Ps}(hn:l≠[])(hb:∀ x∈l,jL x=true)(hw:∀ x∈l,wf x):wf (mkP l):=by
 match l,hn,hb,hw with
 | [],hn,_,_=>exact absurd rfl hn
 | [x],_,_,hw=>exact hw x (by simp)
 | x :: y :: r,_,hb,hw=>show wf (.alt _);rw [wf];exact⟨by simp,hb,(cT _).2 hw⟩
theorem qT(u:List (Int×Int))(l:List Ps):l≠[]->bT u false l≠[]:=by
 cases l with
 | nil=>intro h;exact absurd rfl h
 | cons x l=>
  intro _
  rw [bT]
  split <;> simp
theorem rJ{l:List Ps}(h:l≠[]):bB un l≠[]:=by
 unfold bB
 split
 ·exact qT _ _ h
 ·exact h
theorem mO{l:List Ps}(h:l≠[]):aT [] l≠[]:=fun e=>by
 obtain⟨x,hx⟩:=List.exists_mem_of_ne_nil l h
 have:=(cZ l [] x).2 (.inr hx)
 rw [e] at this
 cases this
theorem aD7(x:Ps)(hw:wf x)(h:jL x=true)(hk:∀ y∈x.kids,wf y):jL (sim un x)=true:=by
 cases x with
 | lf k n rs=>rw [sim];rfl
 | grp n y=>rw [sim];rfl
 | rep a b y=>
  rcases mD un (.rep a b y) hw rfl with e | e
  ·generalize sim un (.rep a b y)=z at e
   cases z <;> first | rfl | cases e
  ·rw [e];rfl
 | row l=>
  rw [sim]
  unfold gV
  split
  ·refine aR2 fun z hz=>?_
   rw [o6,cI] at hz
   obtain⟨y,hy,e⟩:=m9.1 hz.1
   rw [wf] at hw
   obtain⟨i,hi,e2⟩:=List.getElem_of_mem hy
   have:=(hw.2.1 i y (by rw [b7 hi,e2])).1
   rcases pX un (hk y hy) this with q | q
   ·rw [<- e];exact q.1
   ·rw [<- e,q] at hz;simp [isE] at hz
  ·rfl
 | alt l=>cases h
theorem lH(x:Ps):wf x->wf (sim un x):=by
 refine Ps.ind (P:=fun x=>wf x->wf (sim un x)) (fun x ih hw=>?_) x
 have hk:∀ y∈x.kids,wf y:=fun y hy=>dC hw hy
 cases x with
 | lf k n rs=>rw [sim];exact hw
 | grp n y=>
  rw [sim,wf]
  exact ih y (by simp [Ps.kids]) (hk y (by simp [Ps.kids]))
 | rep a b y=>
  have hy:=ih y (by simp [Ps.kids]) (hk y (by simp [Ps.kids]))
  have he:wf (.row []):=by rw [wf];exact⟨by simp,fun i x hx=>(by simp at hx),(cT _).2 (fun _ h=>by cases h)⟩
  have hw':=hw
  rw [wf] at hw'
  have ht:=mD un y hw'.2 hw'.1
  rw [sim]
  unfold gC
  split
  ·exact hy
  split
  ·exact hy
  split
  ·exact he
  split
  ·exact he
  ·rename_i hne
   rw [wf]
   refine⟨ht.resolve_right fun e=>?_,hy⟩
   rw [e] at hne
   exact hne rfl
 | row l=>
  have hl:∀ z∈bI un l,wf z:=fun z hz=>by
   rw [cI] at hz
   obtain⟨y,hy,e⟩:=m9.1 hz
   rw [<- e]
   exact ih y hy (hk y hy)
  have hw':=hw
  rw [wf] at hw'
  have hlen:(bI un l).length=l.length:=by rw [cI,r7]
  have ha:∀ (i:Nat) (z:Ps),(bI un l)[i]?=some z->isE z=false->gN z=true/\(z.kd=3->i=0)/\(z.kd=4->i+1=(bI un l).length):=fun i z hz he=>by
   rw [cI,t8] at hz
   cases hy:l[i]? with
   | none=>rw [hy] at hz;cases hz
   | some y=>
    rw [hy] at hz
    have e:sim un y=z:=Option.some.inj hz
    obtain⟨h1,h2,h3⟩:=hw'.2.1 i y hy
    rcases pX un (hk y (i5 hy)) h1 with q | q
    ·rw [e] at q
     exact⟨q.1,fun k=>h2 (q.2.1 k),fun k=>by rw [hlen];exact h3 (q.2.2 k)⟩
    ·rw [<- e,q] at he;cases he
  rw [sim]
  unfold gV
  split
  ·exact aN8 (sB ha) (fun z hz=>hl z (o6.1 hz).1)
  ·rename_i hany
   rw [wf]
   refine⟨by rw [hlen];exact hw'.1,fun i z hz=>ha i z hz ?_,(cT _).2 hl⟩
   cases h:isE z with
   | false=>rfl
   | true=>exact absurd (s8.2 ⟨z,i5 hz,h⟩) hany
 | alt l=>
  have hw':=hw
  rw [wf] at hw'
  have hl:∀ z∈bI un l,wf z/\jL z=true:=fun z hz=>by
   rw [cI] at hz
   obtain⟨y,hy,e⟩:=m9.1 hz
   rw [<- e]
   exact⟨ih y hy (hk y hy),aD7 un y (hk y hy) (hw'.2.1 y hy) (fun v hv=>dC (hk y hy) hv)⟩
  have hj:∀ z∈bB un (bI un l),wf z/\jL z=true:=fun z hz=>by
   rcases gM un hz with⟨u,e⟩ | e
   ·rw [e];exact⟨by rw [wf];exact .inl rfl,rfl⟩
   ·exact hl z e
  have hne:bI un l≠[]:=fun e=>by
   have:=congrArg List.length e
   rw [cI,r7] at this
   have:=hw'.1
   simp_all
  rw [sim]
  unfold iK
  have hm:∀ z∈aT [] (bB un (bI un l)),wf z/\jL z=true:=fun z hz=>by
   rcases (cZ _ _ _).1 hz with q | q
   ·cases q
   ·exact hj z q
  exact aN7 (mO (rJ un hne)) (fun z hz=>(hm z hz).2) (fun z hz=>(hm z hz).1)
end
mutual
def gln:Ps->List Nat
 | .lf _ _ _=>[]
 | .grp n x=>n :: gln x
 | .rep _ _ x=>gln x
 | .row l=>cC l
 | .alt l=>cC l
def cC:List Ps->List Nat
 | []=>[]
 | x :: l=>cC l++gln x
end
mutual
def hp:Nat->List Nat->Ps->Prop
 | _,e,.lf k n _=>k=8->∃ i∈e,n=(i:Int)
 | g,e,.grp n x=>n=g+1/\g<30/\hp (g+1) e x
 | g,e,.rep _ _ x=>hp g e x
 | g,e,.row l=>hps g e l
 | g,e,.alt l=>hps g e l
def hps:Nat->List Nat->List Ps->Prop
 | _,_,[]=>True
 | g,e,x :: l=>hp g e x/\hps (g+grs x) (gln x++e) l
end
theorem tR(x:Ps):∀ (g:Nat) (o e:List Nat) (r:List Sgn),hk g o e (pfl x++r)↔hp g e x/\hk (g+grs x) o (gln x++e) r:=by
 refine Ps.ind (P:=fun x=>∀ (g:Nat) (o e:List Nat) (r:List Sgn),hk g o e (pfl x++r)↔hp g e x/\hk (g+grs x) o (gln x++e) r) (fun x ih g o e r=>?_) x
 have hrow:∀ l:List Ps,(∀ y∈l,y∈x.kids)->∀ (g:Nat) (o e:List Nat) (r:List Sgn),hk g o e (eC l++r)↔hps g e l/\hk (g+bP l) o (cC l++e) r:=by
  intro l
  induction l with
  | nil=>intro _ g o e r;rw [eC,hps,bP,cC];simp
  | cons y l ih2=>
   intro hs g o e r
   rw [eC,j7,ih y (hs y (g7 ..)),ih2 (fun z hz=>hs z (b6 _ hz)),hps,bP,cC,and_assoc,t9,j7]
 have halt:∀ l:List Ps,(∀ y∈l,y∈x.kids)->∀ (g:Nat) (o e:List Nat) (r:List Sgn),hk g o e (dX l++r)↔hps g e l/\hk (g+bP l) o (cC l++e) r:=by
  intro l
  induction l with
  | nil=>intro _ g o e r;rw [dX,hps,bP,cC];simp
  | cons y l ih2=>
   intro hs g o e r
   rw [dX,l7,j7]
   show hk g o e (pfl y++(dX l++r))↔_
   rw [ih y (hs y (g7 ..)),ih2 (fun z hz=>hs z (b6 _ hz)),hps,bP,cC,and_assoc,t9,j7]
 cases x with
 | lf k n rs=>rw [pfl,grs,gln,hp];rfl
 | grp n y=>
  rw [pfl,l7,j7]
  show (n=g+1/\g<30/\hk (g+1) (n :: o) e (pfl y++([.cl]++r)))↔_
  rw [ih y (by simp [Ps.kids]),hp,grs,gln]
  have h1:hk (g+1+grs y) (n :: o) (gln y++e) ([Sgn.cl]++r)↔hk (g+(grs y+1)) o (n :: gln y++e) r:=by
   show (∃ m o',n :: o=m :: o'/\hk (g+1+grs y) o' (m :: (gln y++e)) r)↔_
   rw [show g+1+grs y=g+(grs y+1) by omega]
   constructor
   ·rintro ⟨m,o',h,h2⟩
    cases h
    exact h2
   ·intro h
    exact⟨n,o,rfl,h⟩
  rw [h1]
  constructor
  ·rintro ⟨a,b,c,d⟩
   exact⟨⟨a,b,c⟩,d⟩
  ·rintro ⟨⟨a,b,c⟩,d⟩
   exact⟨a,b,c,d⟩
 | rep a b y=>
  rw [pfl,j7,ih y (by simp [Ps.kids]),hp,grs,gln]
  rfl
 | row l=>
  rw [pfl,hp,grs,gln]
  exact hrow l (fun _ h=>h) g o e r
 | alt l=>
  rw [pfl,hp,grs,gln]
  cases l with
  | nil=>rw [jW,hps,bP,cC];simp
  | cons y l=>
   rw [jW,j7,ih y (by simp [Ps.kids]),halt l (fun z hz=>b6 _ hz),hps,bP,cC,and_assoc,t9,j7]
theorem aS2(x:Ps):∀ (g g':Nat) (e e':List Nat),hp g e x->hp g' e' x->0<grs x->g=g':=by
 refine Ps.ind (P:=fun x=>∀ (g g':Nat) (e e':List Nat),hp g e x->hp g' e' x->0<grs x->g=g') (fun x ih g g' e e' h h' hg=>?_) x
 have hrow:∀ l:List Ps,(∀ y∈l,y∈x.kids)->∀ (g g':Nat) (e e':List Nat),hps g e l->hps g' e' l->0<bP l->g=g':=by
  intro l
  induction l with
  | nil=>intro _ g g' e e' _ _ hg;rw [bP] at hg;omega
  | cons y l ih2=>
   intro hs g g' e e' h h' hg
   rw [hps] at h h'
   rw [bP] at hg
   by_cases hy:0<grs y
   ·exact ih y (hs y (g7 ..)) g g' e e' h.1 h'.1 hy
   ·have:=ih2 (fun z hz=>hs z (b6 _ hz)) _ _ _ _ h.2 h'.2 (by omega)
    omega
 cases x with
 | lf k n rs=>rw [grs] at hg;omega
 | grp n y=>
  rw [hp] at h h'
  omega
 | rep a b y=>
  rw [hp] at h h'
  rw [grs] at hg
  exact ih y (by simp [Ps.kids]) g g' e e' h h' hg
 | row l=>
  rw [hp] at h h'
  rw [grs] at hg
  exact hrow l (fun _ h=>h) g g' e e' h h' hg
 | alt l=>
  rw [hp] at h h'
  rw [grs] at hg
  exact hrow l (fun _ h=>h) g g' e e' h h' hg
section
theorem nK(a b:List Ps):bP (a++b)=bP a+bP b:=by
 induction a with
 | nil=>rw [bP];simp
 | cons x a ih=>rw [l7,bP,bP,ih];omega
theorem rO(a b:List Ps):cC (a++b)=cC b++cC a:=by
 induction a with
 | nil=>rw [cC];simp
 | cons x a ih=>rw [l7,cC,cC,ih,j7]
theorem qA(a b:List Ps):∀ (g:Nat) (e:List Nat),hps g e (a++b)↔hps g e a/\hps (g+bP a) (cC a++e) b:=by
 induction a with
 | nil=>intro g e;rw [hps,bP,cC];simp
 | cons x a ih=>intro g e;rw [l7,hps,hps,ih,bP,cC,and_assoc,t9,j7]
theorem aJ7(x:Ps):(gln x).length=grs x:=by
 refine Ps.ind (P:=fun x=>(gln x).length=grs x) (fun x ih=>?_) x
 have hrow:∀ l:List Ps,(∀ y∈l,y∈x.kids)->(cC l).length=bP l:=by
  intro l
  induction l with
  | nil=>intro _;rw [cC,bP];rfl
  | cons y l ih2=>intro hs;rw [cC,bP,j3,ih y (hs y (g7 ..)),ih2 (fun z hz=>hs z (b6 _ hz))];omega
 cases x with
 | lf k n rs=>rw [gln,grs];rfl
 | grp n y=>rw [gln,grs,i9,ih y (by simp [Ps.kids])]
 | rep a b y=>rw [gln,grs,ih y (by simp [Ps.kids])]
 | row l=>rw [gln,grs];exact hrow l (fun _ h=>h)
 | alt l=>rw [gln,grs];exact hrow l (fun _ h=>h)
theorem aC2{x:Ps}(h:grs x=0):gln x=[]:=List.length_eq_zero_iff.1 ((aJ7 x).trans h)
structure aE4(g:Nat)(e:List Nat)(l m:List Ps):Prop where
 h:hps g e l->hps g e m
 r:bP m=bP l
 n:cC m=cC l
theorem aI8(l:List Ps):(∀ g e,hp g e (mkB l)↔hps g e l)/\grs (mkB l)=bP l/\gln (mkB l)=cC l:=by
 match l with
 | []=>exact⟨fun g e=>by show hp g e (.row [])↔_;rw [hp],by show grs (.row [])=_;rw [grs],by show gln (.row [])=_;rw [gln]⟩
 | [x]=>exact⟨fun g e=>by show hp g e x↔_;rw [hps,hps];simp,by show grs x=_;rw [bP,bP];rfl,by show gln x=_;rw [cC,cC];rfl⟩
 | x :: y :: r=>exact⟨fun g e=>by show hp g e (.row _)↔_;rw [hp],by show grs (.row _)=_;rw [grs],by show gln (.row _)=_;rw [gln]⟩
theorem aI7(l:List Ps):(∀ g e,hp g e (mkP l)↔hps g e l)/\grs (mkP l)=bP l/\gln (mkP l)=cC l:=by
 match l with
 | []=>exact⟨fun g e=>by show hp g e (.alt [])↔_;rw [hp],by show grs (.alt [])=_;rw [grs],by show gln (.alt [])=_;rw [gln]⟩
 | [x]=>exact⟨fun g e=>by show hp g e x↔_;rw [hps,hps];simp,by show grs x=_;rw [bP,bP];rfl,by show gln x=_;rw [cC,cC];rfl⟩
 | x :: y :: r=>exact⟨fun g e=>by show hp g e (.alt _)↔_;rw [hp],by show grs (.alt _)=_;rw [grs],by show gln (.alt _)=_;rw [gln]⟩
theorem tU(l:List Ps):∀ (g:Nat) (e:List Nat),aE4 g e l (l.filter fun x=>!isE x):=by
 induction l with
 | nil=>intro g e;exact⟨fun h=>h,rfl,rfl⟩
 | cons x l ih=>
  intro g e
  rw [r8]
  by_cases he:isE x=true
  ·rw [if_neg (by rw [he];simp)]
   rw [(uZ x).1 he]
   have i:=ih g e
   have h1:grs (.row [])=0:=by rw [grs,bP]
   have h2:gln (.row [])=[]:=by rw [gln,cC]
   exact⟨fun h=>by rw [hps,h1,h2] at h;exact i.h h.2,by rw [bP,h1,i.r];omega,by rw [cC,h2,i.n];simp⟩
  ·rw [if_pos (by simpa using he)]
   have i:=ih (g+grs x) (gln x++e)
   exact⟨fun h=>by rw [hps] at h ⊢;exact⟨h.1,i.h h.2⟩,by rw [bP,bP,i.r],by rw [cC,cC,i.n]⟩
theorem uY{x:Ps}(h:isS x=true):grs x=0/\gln x=[]/\∀ g e,hp g e x:=by
 cases x with
 | lf k n rs=>
  have hk:k=2:=by simpa [isS] using h
  refine⟨by rw [grs],by rw [gln],fun g e=>?_⟩
  rw [hp]
  intro q
  omega
 | grp=>cases h
 | rep=>cases h
 | row=>cases h
 | alt=>cases h
theorem wA(u:List (Int×Int))(l:List Ps):∀ (s:Bool) (g:Nat) (e:List Nat),aE4 g e l (bT u s l):=by
 induction l with
 | nil=>intro s g e;rw [bT];exact⟨fun h=>h,rfl,rfl⟩
 | cons x l ih=>
  intro s g e
  rw [bT]
  by_cases hx:isS x=true
  ·obtain⟨h1,h2,h3⟩:=uY hx
   rw [if_pos hx]
   cases s with
   | true=>
    rw [if_pos rfl]
    have i:=ih true g e
    exact⟨fun h=>by rw [hps,h1,h2] at h;exact i.h h.2,by rw [bP,h1,i.r];omega,by rw [cC,h2,i.n];simp⟩
   | false=>
    rw [if_neg (by simp)]
    obtain⟨k1,k2,k3⟩:=uY (x:=.lf 2 0 u) rfl
    have i:=ih true g e
    exact⟨fun h=>by rw [hps,h1,h2] at h;rw [hps,k1,k2];exact⟨k3 g e,i.h h.2⟩,by rw [bP,bP,h1,k1,i.r],by rw [cC,cC,h2,k2,i.n]⟩
  ·rw [if_neg hx]
   have i:=ih s (g+grs x) (gln x++e)
   exact⟨fun h=>by rw [hps] at h ⊢;exact⟨h.1,i.h h.2⟩,by rw [bP,bP,i.r],by rw [cC,cC,i.n]⟩
theorem xB(un:List (Int×Int)->List (Int×Int))(l:List Ps)(g:Nat)(e:List Nat):aE4 g e l (bB un l):=by
 unfold bB
 split
 ·exact wA _ l false g e
 ·exact⟨fun h=>h,rfl,rfl⟩
theorem vS(g:Nat)(e:List Nat)(l:List Ps):∀ acc:List Ps,hps g e (acc++l)->hps g e (aT acc l)/\bP (aT acc l)=bP (acc++l)/\cC (aT acc l)=cC (acc++l):=by
 induction l with
 | nil=>intro acc h;rw [aT,l9] at *;exact⟨h,rfl,rfl⟩
 | cons x l ih=>
  intro acc h
  rw [aT]
  by_cases hx:x∈acc
  ·rw [if_pos hx]
   obtain⟨a1,a2,e1⟩:=List.append_of_mem hx
   have h1:=(qA _ _ _ _).1 h
   have h2:=h1.1
   rw [e1] at h2
   have h3:=((qA _ _ _ _).1 h2).2
   rw [hps] at h3
   have h4:=h1.2
   rw [hps] at h4
   have h0:grs x=0:=by
    apply Classical.byContradiction
    intro hne
    have:=aS2 x _ _ _ _ h3.1 h4.1 (by omega)
    rw [e1,nK,bP] at this
    omega
   have hn:=aC2 h0
   have h5:hps g e (acc++l):=(qA _ _ _ _).2 ⟨h1.1,by have:=h4.2;rw [h0,hn] at this;exact this⟩
   obtain⟨i1,i2,i3⟩:=ih acc h5
   exact⟨i1,by rw [i2,nK,nK,bP,h0];omega,by rw [i3,rO,rO,cC,hn];simp⟩
  ·rw [if_neg hx]
   have:=ih (acc++[x]) (by rw [j7];exact h)
   rw [j7] at this
   exact this
variable (un:List (Int×Int)->List (Int×Int))
theorem yY(x:Ps):∀ (g:Nat) (e:List Nat),hp g e x->hp g e (sim un x)/\grs (sim un x)=grs x/\gln (sim un x)=gln x:=by
 refine Ps.ind (P:=fun x=>∀ (g:Nat) (e:List Nat),hp g e x->hp g e (sim un x)/\grs (sim un x)=grs x/\gln (sim un x)=gln x) (fun x ih g e h=>?_) x
 have hrow:∀ l:List Ps,(∀ y∈l,y∈x.kids)->∀ (g:Nat) (e:List Nat),hps g e l->hps g e (bI un l)/\bP (bI un l)=bP l/\cC (bI un l)=cC l:=by
  intro l
  induction l with
  | nil=>intro _ g e h;rw [bI];exact⟨h,rfl,rfl⟩
  | cons y l ih2=>
   intro hs g e h
   rw [hps] at h
   obtain⟨a1,a2,a3⟩:=ih y (hs y (g7 ..)) g e h.1
   obtain⟨b1,b2,b3⟩:=ih2 (fun z hz=>hs z (b6 _ hz)) _ _ h.2
   rw [bI,hps,bP,bP,cC,cC,a2,a3,b2,b3]
   exact⟨⟨a1,b1⟩,rfl,rfl⟩
 have hno:∀ g e,hp g e (.row []):=fun g e=>by rw [hp,hps];trivial
 have h0:grs (.row [])=0:=by rw [grs,bP]
 have hn0:gln (.row [])=[]:=by rw [gln,cC]
 cases x with
 | lf k n rs=>rw [sim];exact⟨h,rfl,rfl⟩
 | grp n y=>
  rw [hp] at h
  obtain⟨a1,a2,a3⟩:=ih y (by simp [Ps.kids]) _ _ h.2.2
  rw [sim,hp,grs,grs,gln,gln,a2,a3]
  exact⟨⟨h.1,h.2.1,a1⟩,rfl,rfl⟩
 | rep a b y=>
  rw [hp] at h
  obtain⟨a1,a2,a3⟩:=ih y (by simp [Ps.kids]) _ _ h
  rw [sim,grs,gln]
  unfold gC
  split
  ·exact⟨a1,a2,a3⟩
  split
  ·exact⟨a1,a2,a3⟩
  split
  ·rename_i q
   refine⟨hno g e,by rw [h0,<- a2];exact q.2.symm,by rw [hn0,<- a3];exact(aC2 q.2).symm⟩
  split
  ·rename_i q
   have e1:=(uZ _).1 q
   rw [e1] at a2 a3
   exact⟨hno g e,a2,a3⟩
  ·rw [hp,grs,gln]
   exact⟨a1,a2,a3⟩
 | row l=>
  rw [hp] at h
  obtain⟨a1,a2,a3⟩:=hrow l (fun _ h=>h) g e h
  rw [sim,grs,gln]
  unfold gV
  split
  ·obtain⟨m1,m2,m3⟩:=aI8 ((bI un l).filter fun x=>!isE x)
   have f:=tU (bI un l) g e
   exact⟨(m1 g e).2 (f.h a1),by rw [m2,f.r,a2],by rw [m3,f.n,a3]⟩
  ·rw [hp,grs,gln]
   exact⟨a1,a2,a3⟩
 | alt l=>
  rw [hp] at h
  obtain⟨a1,a2,a3⟩:=hrow l (fun _ h=>h) g e h
  rw [sim,grs,gln]
  unfold iK
  have j:=xB un (bI un l) g e
  obtain⟨t1,t2,t3⟩:=vS g e (bB un (bI un l)) [] (by rw [n9];exact j.h a1)
  rw [n9] at t2 t3
  obtain⟨m1,m2,m3⟩:=aI7 (aT [] (bB un (bI un l)))
  exact⟨(m1 g e).2 t1,by rw [m2,t2,j.r,a2],by rw [m3,t3,j.n,a3]⟩
theorem aP3{x:Ps}(h:hk 0 [] [] (pfl x)):hk 0 [] [] (pfl (sim un x)):=by
 have h1:=(tR x 0 [] [] []).1 (by rw [l9];exact h)
 have h2:=yY un x 0 [] h1.1
 have:=(tR (sim un x) 0 [] [] []).2 ⟨h2.1,by rw [h2.2.1,h2.2.2];exact h1.2⟩
 rwa [l9] at this
end
section
theorem qX(a b:List Ps):bR (a++b)=bR a+bR b:=by
 induction a with
 | nil=>rw [gI];simp
 | cons x a ih=>rw [l7,bD,bD,ih];omega
theorem lX(p:Ps->Bool)(l:List Ps):bR (l.filter p)<=bR l:=by
 induction l with
 | nil=>exact o5 _
 | cons x l ih=>
  rw [r8]
  split
  ·rw [bD,bD];omega
  ·rw [bD];omega
theorem tE(u:List (Int×Int))(l:List Ps):∀ s,bR (bT u s l)<=bR l:=by
 induction l with
 | nil=>intro s;rw [bT];exact o5 _
 | cons x l ih=>
  intro s
  have h1:=fP x
  rw [bT]
  split
  ·split
   ·have:=ih s;rw [bD];omega
   ·have:=ih true;rw [bD,bD,Ps.sz];omega
  ·have:=ih s;rw [bD,bD];omega
theorem tD(l:List Ps):∀ acc,bR (aT acc l)<=bR acc+bR l:=by
 induction l with
 | nil=>intro acc;rw [aT];omega
 | cons x l ih=>
  intro acc
  rw [aT]
  split
  ·have:=ih acc;rw [bD];omega
  ·have:=ih (acc++[x]);rw [qX,bD,gI] at this;rw [bD];omega
theorem rD(l:List Ps):(mkB l).sz<=bR l+1:=by
 match l with
 | []=>show (Ps.row []).sz<=_;rw [Ps.sz];exact o5 _
 | [x]=>show x.sz<=_;rw [bD];omega
 | x :: y :: r=>show (Ps.row _).sz<=_;rw [Ps.sz];exact o5 _
theorem nI(l:List Ps):(mkP l).sz<=bR l+1:=by
 match l with
 | []=>show (Ps.alt []).sz<=_;rw [Ps.sz];exact o5 _
 | [x]=>show x.sz<=_;rw [bD];omega
 | x :: y :: r=>show (Ps.alt _).sz<=_;rw [Ps.sz];exact o5 _
variable (un:List (Int×Int)->List (Int×Int))
theorem mU(x:Ps):(sim un x).sz<=x.sz:=by
 refine Ps.ind (P:=fun x=>(sim un x).sz<=x.sz) (fun x ih=>?_) x
 have hrow:∀ l:List Ps,(∀ y∈l,y∈x.kids)->bR (bI un l)<=bR l:=by
  intro l
  induction l with
  | nil=>intro _;rw [bI];exact o5 _
  | cons y l ih2=>
   intro hs
   have h1:=ih y (hs y (g7 ..))
   have h2:=ih2 (fun z hz=>hs z (b6 _ hz))
   rw [bI,bD,bD]
   omega
 cases x with
 | lf k n rs=>rw [sim];exact o5 _
 | grp n y=>have:=ih y (by simp [Ps.kids]);rw [sim,Ps.sz,Ps.sz];omega
 | rep a b y=>
  have h1:=ih y (by simp [Ps.kids])
  have h2:=fP y
  have h3:(Ps.row []).sz=1:=by rw [Ps.sz,gI]
  rw [sim,Ps.sz]
  unfold gC
  split
  ·omega
  split
  ·omega
  split
  ·omega
  split
  ·omega
  ·rw [Ps.sz];omega
 | row l=>
  have h1:=hrow l (fun _ h=>h)
  rw [sim,Ps.sz]
  unfold gV
  split
  ·have h2:=rD ((bI un l).filter fun x=>!isE x)
   have h3:=lX (fun x=>!isE x) (bI un l)
   omega
  ·rw [Ps.sz];omega
 | alt l=>
  have h1:=hrow l (fun _ h=>h)
  rw [sim,Ps.sz]
  unfold iK
  have h2:=nI (aT [] (bB un (bI un l)))
  have h3:=tD (bB un (bI un l)) []
  have h4:bR (bB un (bI un l))<=bR (bI un l):=by
   unfold bB
   split
   ·exact tE _ _ _
   ·exact o5 _
  rw [gI] at h3
  omega
mutual
def nrm:Ps->Prop
 | .lf _ _ _=>True
 | .grp _ x=>nrm x
 | .rep a b x=>¬ (a=1/\b=1)/\¬ (a=0/\b=-1/\kB x=true)/\¬ (b=0/\grs x=0)/\isE x=false/\nrm x
 | .row l=>(∀ x∈l,isE x=false)/\wS l
 | .alt l=>(l.filter isS).length<2/\l.Nodup/\wS l
def wS:List Ps->Prop
 | []=>True
 | x :: l=>nrm x/\wS l
end
theorem dG(l:List Ps):wS l ↔ ∀ x∈l,nrm x:=by
 induction l with
 | nil=>rw [wS];simp
 | cons x l ih=>rw [wS,ih];simp
theorem oL{l:List Ps}{c:Ps}(h:l.Nodup)(hc:∀ x∈l,x=c):l.length<=1:=by
 match l,h,hc with
 | [],_,_=>simp
 | [x],_,_=>simp
 | x :: y :: r,h,hc=>
  have h1:=hc x (by simp)
  have h2:=hc y (by simp)
  have:=(List.nodup_cons.1 h).1
  rw [h1,h2] at this
  simp at this
theorem qS(l:List Ps):((aT [] (bB un l)).filter isS).length<2:=by
 have hn:((aT [] (bB un l)).filter isS).Nodup:=(iI _ [] List.nodup_nil).filter _
 have hm:∀ x∈(aT [] (bB un l)).filter isS,x∈bB un l/\isS x=true:=fun x hx=>by
  rw [o6] at hx
  exact⟨((cZ _ _ _).1 hx.1).resolve_left (fun q=>by cases q),hx.2⟩
 unfold bB at hm hn ⊢
 split
 ·rename_i h2
  rw [if_pos h2] at hm hn
  have:=oL hn (c:=.lf 2 0 (un ((l.filter isS).flatMap rsP))) (fun x hx=>by
   rcases gD _ _ _ _ (hm x hx).1 with e | e
   ·exact e
   ·rw [(hm x hx).2] at e;cases e.2)
  omega
 ·rename_i h2
  rw [if_neg h2] at hm hn
  by_cases h0:(l.filter isS).length=0
  ·have h0:=List.length_eq_zero_iff.1 h0
   have:(aT [] l).filter isS=[]:=by
    rw [List.eq_nil_iff_forall_not_mem]
    intro x hx
    have:=hm x hx
    have:x∈l.filter isS:=o6.2 this
    rw [h0] at this
    cases this
   rw [this]
   simp
  ·obtain⟨c,hc⟩:∃ c,l.filter isS=[c]:=List.length_eq_one_iff.1 (by omega)
   have:=oL hn (c:=c) (fun x hx=>by
    have:x∈l.filter isS:=o6.2 (hm x hx)
    rw [hc] at this
    exact s9.1 this)
   omega
theorem aI4{l:List Ps}(h1:∀ x∈l,isE x=false)(h2:∀ x∈l,nrm x):nrm (mkB l):=by
 match l,h1,h2 with
 | [],_,_=>show nrm (.row []);rw [nrm];exact⟨fun _ h=>(by cases h),(dG _).2 (fun _ h=>by cases h)⟩
 | [x],_,h2=>exact h2 x (by simp)
 | x :: y :: r,h1,h2=>show nrm (.row _);rw [nrm];exact⟨h1,(dG _).2 h2⟩
theorem aI3{l:List Ps}(h0:(l.filter isS).length<2)(h1:l.Nodup)(h2:∀ x∈l,nrm x):nrm (mkP l):=by
 match l,h0,h1,h2 with
 | [],h0,h1,h2=>show nrm (.alt []);rw [nrm];exact⟨h0,h1,(dG _).2 h2⟩
 | [x],_,_,h2=>exact h2 x (by simp)
 | x :: y :: r,h0,h1,h2=>show nrm (.alt _);rw [nrm];exact⟨h0,h1,(dG _).2 h2⟩
theorem jD(x:Ps):nrm (sim un x):=by
 refine Ps.ind (P:=fun x=>nrm (sim un x)) (fun x ih=>?_) x
 have hrow:∀ l:List Ps,(∀ y∈l,y∈x.kids)->∀ z∈bI un l,nrm z:=fun l hs z hz=>by
  rw [cI] at hz
  obtain⟨y,hy,e⟩:=m9.1 hz
  rw [<- e]
  exact ih y (hs y hy)
 have he:nrm (.row []):=by rw [nrm];exact⟨fun _ h=>(by cases h),(dG _).2 (fun _ h=>by cases h)⟩
 cases x with
 | lf k n rs=>rw [sim,nrm];trivial
 | grp n y=>rw [sim,nrm];exact ih y (by simp [Ps.kids])
 | rep a b y=>
  have hy:=ih y (by simp [Ps.kids])
  rw [sim]
  unfold gC
  split
  ·exact hy
  split
  ·exact hy
  split
  ·exact he
  split
  ·exact he
  ·rename_i h1 h2 h3 h4
   rw [nrm]
   exact⟨h1,h2,h3,by simpa using h4,hy⟩
 | row l=>
  have hl:=hrow l (fun _ h=>h)
  rw [sim]
  unfold gV
  split
  ·exact aI4 (fun z hz=>by have:=(o6.1 hz).2;simpa using this) (fun z hz=>hl z (o6.1 hz).1)
  ·rename_i hany
   rw [nrm]
   refine⟨fun z hz=>?_,(dG _).2 hl⟩
   cases h:isE z with
   | false=>rfl
   | true=>exact absurd (s8.2 ⟨z,hz,h⟩) hany
 | alt l=>
  have hl:=hrow l (fun _ h=>h)
  rw [sim]
  unfold iK
  refine aI3 (qS un _) (iI _ [] List.nodup_nil) (fun z hz=>?_)
  rcases gM un (((cZ _ _ _).1 hz).resolve_left (fun q=>by cases q)) with⟨u,e⟩ | e
  ·rw [e,nrm];trivial
  ·exact hl z e
theorem jP(l:List Ps):∀ acc,(acc++l).Nodup->aT acc l=acc++l:=by
 induction l with
 | nil=>intro acc _;rw [aT,l9]
 | cons x l ih=>
  intro acc h
  rw [aT]
  have hx:¬ x∈acc:=fun q=>by
   have:=(List.nodup_append.1 h).2.2 x q x (g7 ..)
   exact this rfl
  rw [if_neg hx,ih (acc++[x]) (by rw [j7];exact h),j7]
  rfl
theorem yX(x:Ps):wf x->nrm x->sim un x=x:=by
 refine Ps.ind (P:=fun x=>wf x->nrm x->sim un x=x) (fun x ih hw hn=>?_) x
 have hrow:∀ l:List Ps,(∀ y∈l,y∈x.kids)->(∀ y∈l,nrm y)->bI un l=l:=by
  intro l
  induction l with
  | nil=>intro _ _;rw [bI]
  | cons y l ih2=>
   intro hs hl
   rw [bI,ih y (hs y (g7 ..)) (dC hw (hs y (g7 ..))) (hl y (g7 ..)),ih2 (fun z hz=>hs z (b6 _ hz)) (fun z hz=>hl z (b6 _ hz))]
 cases x with
 | lf k n rs=>rw [sim]
 | grp n y=>rw [nrm] at hn;rw [sim,ih y (by simp [Ps.kids]) (dC hw (by simp [Ps.kids])) hn]
 | rep a b y=>
  rw [nrm] at hn
  obtain⟨h1,h2,h3,h4,h5⟩:=hn
  rw [sim,ih y (by simp [Ps.kids]) (dC hw (by simp [Ps.kids])) h5]
  unfold gC
  rw [if_neg h1,if_neg h2,if_neg h3,if_neg (by rw [h4];simp)]
 | row l=>
  rw [nrm] at hn
  rw [sim,hrow l (fun _ h=>h) ((dG l).1 hn.2)]
  unfold gV
  rw [if_neg]
  intro h
  obtain⟨z,hz,e⟩:=s8.1 h
  rw [hn.1 z hz] at e
  cases e
 | alt l=>
  rw [nrm] at hn
  rw [sim,hrow l (fun _ h=>h) ((dG l).1 hn.2.2)]
  unfold iK bB
  rw [if_neg (by have:=hn.1;omega),jP l [] (by rw [n9];exact hn.2.1),n9]
  rw [wf] at hw
  match l,hw.1 with
  | x :: y :: r,_=>rfl
theorem vY{x:Ps}(h:wf x):sim un (sim un x)=sim un x:=yX un _ (lH un x h) (jD un x)
end
section
theorem mF(l:List Ps)(m:Nat):fU l<=m ↔ ∀ x∈l,x.dp<=m:=by
 induction l with
 | nil=>rw [fU];simp
 | cons x l ih=>
  rw [fU]
  constructor
  ·intro h y hy
   rcases n7.1 hy with e | e
   ·rw [e];omega
   ·exact ih.1 (by omega) y e
  ·intro h
   have h1:=h x (g7 ..)
   have h2:=ih.2 (fun y hy=>h y (b6 _ hy))
   omega
theorem aC9(x:Ps):1<=x.dp:=by cases x <;> simp [Ps.dp]
theorem aR1{l:List Ps}{m:Nat}(h:∀ x∈l,x.dp<=m):(mkB l).dp<=m+1:=by
 match l,h with
 | [],_=>show (Ps.row []).dp<=_;rw [Ps.dp,fU];omega
 | [x],h=>show x.dp<=_;have:=h x (by simp);omega
 | x :: y :: r,h=>show (Ps.row _).dp<=_;rw [Ps.dp];have:=(mF _ m).2 h;omega
theorem aR0{l:List Ps}{m:Nat}(h:∀ x∈l,x.dp<=m):(mkP l).dp<=m+1:=by
 match l,h with
 | [],_=>show (Ps.alt []).dp<=_;rw [Ps.dp,fU];omega
 | [x],h=>show x.dp<=_;have:=h x (by simp);omega
 | x :: y :: r,h=>show (Ps.alt _).dp<=_;rw [Ps.dp];have:=(mF _ m).2 h;omega
variable (un:List (Int×Int)->List (Int×Int))
theorem aP4(x:Ps):(sim un x).dp<=x.dp:=by
 refine Ps.ind (P:=fun x=>(sim un x).dp<=x.dp) (fun x ih=>?_) x
 have hrow:∀ l:List Ps,(∀ y∈l,y∈x.kids)->∀ z∈bI un l,z.dp<=fU l:=fun l hs z hz=>by
  rw [cI] at hz
  obtain⟨y,hy,e⟩:=m9.1 hz
  rw [<- e]
  exact j4 (ih y (hs y hy)) ((mF l _).1 lz9 y hy)
 cases x with
 | lf k n rs=>rw [sim];exact o5 _
 | grp n y=>have:=ih y (by simp [Ps.kids]);rw [sim,Ps.dp,Ps.dp];omega
 | rep a b y=>
  have h1:=ih y (by simp [Ps.kids])
  have h2:=aC9 y
  have h3:(Ps.row []).dp=1:=by rw [Ps.dp,fU]
  rw [sim,Ps.dp]
  unfold gC
  split
  ·omega
  split
  ·omega
  split
  ·omega
  split
  ·omega
  ·rw [Ps.dp];omega
 | row l=>
  have hl:=hrow l (fun _ h=>h)
  rw [sim,Ps.dp]
  unfold gV
  split
  ·exact aR1 (fun z hz=>hl z (o6.1 hz).1)
  ·rw [Ps.dp]
   have:=(mF _ _).2 hl
   omega
 | alt l=>
  have hl:=hrow l (fun _ h=>h)
  rw [sim,Ps.dp]
  unfold iK
  refine aR0 (fun z hz=>?_)
  have hz':=((cZ _ _ _).1 hz).resolve_left (fun q=>by cases q)
  rcases gM un hz' with⟨u,e⟩ | e
  ·rw [e,Ps.dp]
   cases l with
   | nil=>rw [bI] at hz';simp [bB] at hz'
   | cons y l=>have:=aC9 y;rw [fU];omega
  ·exact hl z e
theorem eB(l:List Ps)(s:Sgn):s∈eC l ↔ ∃ x∈l,s∈pfl x:=by
 induction l with
 | nil=>rw [eC];simp
 | cons x l ih=>rw [eC,j6,ih];simp
theorem zX(l:List Ps)(s:Sgn):s∈dX l->s=.al\/∃ x∈l,s∈pfl x:=by
 induction l with
 | nil=>rw [dX];intro h;cases h
 | cons x l ih=>
  rw [dX]
  intro h
  rcases n7.1 h with e | e
  ·exact .inl e
  ·rcases j6.1 e with q | q
   ·exact .inr ⟨x,g7 ..,q⟩
   ·exact(ih q).imp id (fun⟨y,hy,r⟩=>⟨y,b6 _ hy,r⟩)
theorem kQ(l:List Ps)(s:Sgn):s∈jW l->s=.al\/∃ x∈l,s∈pfl x:=by
 cases l with
 | nil=>rw [jW];intro h;cases h
 | cons x l=>
  rw [jW]
  intro h
  rcases j6.1 h with q | q
  ·exact .inr ⟨x,g7 ..,q⟩
  ·exact(zX l s q).imp id (fun⟨y,hy,r⟩=>⟨y,b6 _ hy,r⟩)
theorem aH9{l:List Ps}{x:Ps}(hx:x∈l){s:Sgn}(hs:s∈pfl x):s∈dX l:=by
 induction l with
 | nil=>cases hx
 | cons y l ih=>
  rw [dX]
  rcases n7.1 hx with e | e
  ·rw [<- e];exact b6 _ (j6.2 (.inl hs))
  ·exact b6 _ (j6.2 (.inr (ih e)))
theorem jC{l:List Ps}{x:Ps}(hx:x∈l){s:Sgn}(hs:s∈pfl x):s∈jW l:=by
 cases l with
 | nil=>cases hx
 | cons y l=>
  rw [jW]
  rcases n7.1 hx with e | e
  ·rw [<- e];exact j6.2 (.inl hs)
  ·exact j6.2 (.inr (aH9 e hs))
theorem sU{P:Sgn->Prop}(hal:P .al)(hset:∀ l:List Ps,(∀ x∈l,isS x=true/\∀ s∈pfl x,P s)->2<=l.length->P (.lf 2 0 (un (l.flatMap rsP))))(x:Ps):(∀ s∈pfl x,P s)->∀ s∈pfl (sim un x),P s:=by
 refine Ps.ind (P:=fun x=>(∀ s∈pfl x,P s)->∀ s∈pfl (sim un x),P s) (fun x ih h=>?_) x
 have hno:∀ s∈pfl (.row []),P s:=fun s hs=>by rw [pfl,eC] at hs;cases hs
 cases x with
 | lf k n rs=>rw [sim];exact h
 | grp n y=>
  rw [pfl] at h
  have hy:=ih y (by simp [Ps.kids]) (fun s hs=>h s (by simp [hs]))
  rw [sim,pfl]
  intro s hs
  rcases n7.1 hs with e | e
  ·rw [e];exact h _ (g7 ..)
  ·rcases j6.1 e with q | q
   ·exact hy s q
   ·exact h s (b6 _ (j6.2 (.inr q)))
 | rep a b y=>
  rw [pfl] at h
  have hy:=ih y (by simp [Ps.kids]) (fun s hs=>h s (j6.2 (.inl hs)))
  rw [sim]
  unfold gC
  split
  ·exact hy
  split
  ·exact hy
  split
  ·exact hno
  split
  ·exact hno
  ·intro s hs
   rw [pfl] at hs
   rcases j6.1 hs with q | q
   ·exact hy s q
   ·exact h s (j6.2 (.inr q))
 | row l=>
  rw [pfl] at h
  have hl:∀ z∈bI un l,∀ s∈pfl z,P s:=fun z hz s hs=>by
   rw [cI] at hz
   obtain⟨y,hy,e⟩:=m9.1 hz
   rw [<- e] at hs
   exact ih y hy (fun s hs=>h s ((eB l s).2 ⟨y,hy,hs⟩)) s hs
  rw [sim]
  unfold gV
  split
  ·intro s hs
   rw [rE,eB] at hs
   obtain⟨z,hz,hs⟩:=hs
   exact hl z (o6.1 hz).1 s hs
  ·intro s hs
   rw [pfl,eB] at hs
   obtain⟨z,hz,hs⟩:=hs
   exact hl z hz s hs
 | alt l=>
  rw [pfl] at h
  have hl:∀ z∈bI un l,∀ s∈pfl z,P s:=fun z hz s hs=>by
   rw [cI] at hz
   obtain⟨y,hy,e⟩:=m9.1 hz
   rw [<- e] at hs
   exact ih y hy (fun s hs=>h s (jC hy hs)) s hs
  have hj:∀ z∈bB un (bI un l),∀ s∈pfl z,P s:=fun z hz s hs=>by
   unfold bB at hz
   split at hz
   ·rename_i h2
    rcases gD _ _ _ _ hz with e | e
    ·rw [e,pfl] at hs
     rw [s9.1 hs]
     exact hset _ (fun x hx=>⟨(o6.1 hx).2,hl x (o6.1 hx).1⟩) h2
    ·exact hl z e.1 s hs
   ·exact hl z hz s hs
  rw [sim]
  unfold iK
  intro s hs
  have hm:s=.al\/∃ z∈aT [] (bB un (bI un l)),s∈pfl z:=by
   generalize aT [] (bB un (bI un l))=m at hs
   match m,hs with
   | [],hs=>exact kQ [] s (by rw [<- pfl];exact hs)
   | [x],hs=>exact .inr ⟨x,by simp,hs⟩
   | x :: y :: r,hs=>exact kQ (x :: y :: r) s (by rw [<- pfl];exact hs)
  rcases hm with e | ⟨z,hz,hs⟩
  ·rw [e];exact hal
  ·exact hj z (((cZ _ _ _).1 hz).resolve_left (fun q=>by cases q)) s hs
end
section
open Go
def wd(s:ByteArray)(p:Nat):Nat:=(Utf8.decode s p).2
def bad(s:ByteArray)(p:Nat):Bool:=decide (Utf8.decode s p=(65533,1))
def ch(s:ByteArray)(p:Nat):Int:=if bad s p then -1 else (Utf8.decode s p).1
def bt(s:ByteArray)(i:Nat):Nat:=(s.data.toList.getD i 0).toNat
def aL8(s:ByteArray):Nat->Nat->List (Nat×Int)
 | 0,_=>[]
 | f+1,p=>if p<s.size then (p,ch s p) :: aL8 s f (p+wd s p) else []
def us(s:ByteArray):List (Nat×Int):=aL8 s s.size 0
end
section
open Go
structure Md where
 c:Bool
 f:Bool
def un(m:Md)(s:ByteArray)(p:Nat):Int×Nat:=if m.c then (ch s p,wd s p) else ((bt s p:Int),1)
end
section
attribute [local go_sem] bU
def cK(pk:Int)(seen:Int)(kl:Nat)(k:Int):Bool:=
 if pk=5 then bA k ||(k==3&&seen==0) ||(k==4&&seen==(kl:Int)-1)
 else if pk=9 then bA k
 else if pk=6 then cG k&&k != 6
 else cG k
theorem tO{w:World}{b:Nat}{c f:Bool}{ah gr:Int}{A:Nat->cW}(h:CB w b c f ah gr A){d:Nat}(hd:d<41)(k:Int)(hkl:(A d).f.kl<=9223372036854775807) :
  Calls Tryz.prog 62 #[.pointer (some ⟨b,0,none⟩),.int .i64 ((d:Int)+1),.int .i64 k] w fun e w'=>e=.returned (.bool (cK (A d).f.k (A d).s (A d).f.kl k))/\Below w.heap.size w w':=by
 obtain⟨⟨k0,k1,k2,k3,k4,k5⟩,k6⟩:=h.sp d hd
 have hlt:=h.lt
 have e1:((d:Int)+1)-1=(d:Int):=by omega
 have e2:(d:Int)<41:=by omega
 have B1:Hid (Below w.heap.size w (w.alloc (.cells #[.int .i64 (A d).f.k,.int .i64 (A d).f.n,.int .i64 (A d).f.mn,.int .i64 (A d).f.mx,.slice (A d).f.rq (A d).f.rs.length (A d).f.rc,.slice (A d).f.kq (A d).f.kl (A d).f.kc,.int .i64 (A d).s] 80))):=bz9
 have N1:=aD w (.cells #[.int .i64 (A d).f.k,.int .i64 (A d).f.n,.int .i64 (A d).f.mn,.int .i64 (A d).f.mx,.slice (A d).f.rq (A d).f.rs.length (A d).f.rc,.slice (A d).f.kq (A d).f.kl (A d).f.kc,.int .i64 (A d).s] 80)
 obtain⟨r,hr⟩:∃ r,cK (A d).f.k (A d).s (A d).f.kl k=r:=⟨_,rfl⟩
 rw [hr]
 have HR:=aB hr
 clear hr
 go_enter Tryz.func62,Tryz.ntmps62
 go_upto_region 2 with fail
 have m0:(w.alloc (.cells #[.int .i64 (A d).f.k,.int .i64 (A d).f.n,.int .i64 (A d).f.mn,.int .i64 (A d).f.mx,.slice (A d).f.rq (A d).f.rs.length (A d).f.rc,.slice (A d).f.kq (A d).f.kl (A d).f.kc,.int .i64 (A d).s] 80)).cell? ⟨w.heap.size,0,none⟩=some (.int .i64 (A d).f.k):=aA N1 (i:=0) rfl
 have m5:(w.alloc (.cells #[.int .i64 (A d).f.k,.int .i64 (A d).f.n,.int .i64 (A d).f.mn,.int .i64 (A d).f.mx,.slice (A d).f.rq (A d).f.rs.length (A d).f.rc,.slice (A d).f.kq (A d).f.kl (A d).f.kc,.int .i64 (A d).s] 80)).cell? ⟨w.heap.size,5,none⟩=some (.slice (A d).f.kq (A d).f.kl (A d).f.kc):=aA N1 (i:=5) rfl
 have m6:(w.alloc (.cells #[.int .i64 (A d).f.k,.int .i64 (A d).f.n,.int .i64 (A d).f.mn,.int .i64 (A d).f.mx,.slice (A d).f.rq (A d).f.rs.length (A d).f.rc,.slice (A d).f.kq (A d).f.kl (A d).f.kc,.int .i64 (A d).s] 80)).cell? ⟨w.heap.size,6,none⟩=some (.int .i64 (A d).s):=aA N1 (i:=6) rfl
 have hlw:=aC N1
 generalize (w.alloc (.cells #[.int .i64 (A d).f.k,.int .i64 (A d).f.n,.int .i64 (A d).f.mn,.int .i64 (A d).f.mx,.slice (A d).f.rq (A d).f.rs.length (A d).f.rc,.slice (A d).f.kq (A d).f.kl (A d).f.kc,.int .i64 (A d).s] 80))=W1 at B1 m0 m5 m6 hlw ⊢
 clear N1 k0 k1 k2 k3 k4 k5 k6 hlt e1 e2 h hd
 generalize (A d).f.k=pk at m0 HR ⊢
 generalize (A d).f.kl=kl at m5 HR hkl ⊢
 generalize (A d).s=se at m6 HR ⊢
 cases h5:(pk==5) with
 | true=>
  obtain rfl:pk=5:=by simpa using h5
  go_upto_region 4 with fail
  refine wx9 ?_
  repeat (go_big_quiet_step (first | exact rfl))
  refine wpQuiet_nil ?_
  intro w2 hw
  have B2:Hid (Below w.heap.size w w2):=aF B1.out (aS hw) lz9
  clear hw B1
  have RR0:r=(bA k ||(k==3&&se==0) ||(k==4&&se==(kl:Int)-1)):=by rw [<- HR.out];simp [cK]
  have HK:=aB (lY k)
  obtain⟨tb,htb⟩:∃ tb,bA k=tb:=⟨_,rfl⟩
  rw [htb] at HK RR0
  obtain⟨b1,hb1⟩:∃ b1,(se==0)=b1:=⟨_,rfl⟩
  obtain⟨b2,hb2⟩:∃ b2,(se==(kl:Int)-1)=b2:=⟨_,rfl⟩
  rw [hb1,hb2] at RR0
  rw [hb1,hb2]
  have RRX:=aB RR0
  clear htb hb1 hb2 m0 m5 m6 RR0
  cases tb
  ·cases h3:(k==3)
   ·cases h4:(k==4)
    ·go_wp2_with (go_at_call 82;(with_reducible refine(HK.out _).mono ?_);rintro e w5 ⟨rfl,h5⟩;subst w5)
     go_ret
     exact⟨by rw [RRX.out,h3,h4];rfl,B2.out⟩
    ·go_wp2_with (go_at_call 82;(with_reducible refine(HK.out _).mono ?_);rintro e w5 ⟨rfl,h5⟩;subst w5)
     go_ret
     exact⟨by rw [RRX.out,h3,h4];simp,B2.out⟩
   ·obtain rfl:k=3:=by simpa using h3
    cases b1
    all_goals
     go_wp2_with (go_at_call 82;(with_reducible refine(HK.out _).mono ?_);rintro e w5 ⟨rfl,h5⟩;subst w5)
     go_ret
     exact⟨by rw [RRX.out];rfl,B2.out⟩
  ·go_wp2_with (go_at_call 82;(with_reducible refine(HK.out _).mono ?_);rintro e w5 ⟨rfl,h5⟩;subst w5)
   go_ret
   exact⟨by rw [RRX.out];rfl,B2.out⟩
 | false=>
  cases h9:(pk==9) with
  | true=>
   obtain rfl:pk=9:=by simpa using h9
   go_wp2_with (go_at_call 82;(with_reducible refine(lY _ _).mono ?_);rintro e w5 ⟨rfl,h5⟩;subst w5)
   go_ret
   exact⟨by rw [<- HR.out];simp [cK],B1.out⟩
  | false=>
   cases h6:(pk==6) with
   | true=>
    obtain rfl:pk=6:=by simpa using h6
    obtain⟨kb,hkb⟩:∃ kb,cG k=kb:=⟨_,rfl⟩
    have HK:=aB (rK k)
    rw [hkb] at HK
    have R2:r=(kb&&k != 6):=by rw [<- HR.out,<- hkb];simp [cK]
    clear hkb
    cases kb with
    | true=>
     go_wp2_with (go_at_call 83;(with_reducible refine(HK.out _).mono ?_);rintro e w5 ⟨rfl,h5⟩;subst w5)
     go_ret
     exact⟨by rw [R2,Bool.true_and];rfl,B1.out⟩
    | false=>
     go_wp2_with (go_at_call 83;(with_reducible refine(HK.out _).mono ?_);rintro e w5 ⟨rfl,h5⟩;subst w5)
     go_ret
     exact⟨by rw [R2,Bool.false_and];rfl,B1.out⟩
   | false=>
    have R2:cG k=r:=by rw [<- HR.out];simp at h5 h9 h6;simp [cK,h5,h9,h6]
    go_wp2_with (go_at_call 83;(with_reducible refine(rK _ _).mono ?_);rintro e w5 ⟨rfl,h5⟩;subst w5)
    go_ret
    exact⟨by rw [<- R2];rfl,B1.out⟩
end
section
attribute [local go_sem] bU
def inB(A:Nat->cW)(d:Nat)(num:Int):Bool:=(List.range d).any fun i=>(A i).f.k==7&&(A i).f.n==num
theorem kX(A:Nat->cW)(d:Nat)(num:Int):inB A (d+1) num=(inB A d num ||((A d).f.k==7&&(A d).f.n==num)):=by
 unfold inB
 rw [List.range_succ,List.any_append]
 simp
theorem aS0{A:Nat->cW}{d e:Nat}{num:Int}(h:inB A d num=true)(hde:d<=e):inB A e num=true:=by
 unfold inB at *
 rw [s8] at *
 obtain⟨x,hx,h⟩:=h
 exact⟨x,by rw [List.mem_range] at *;omega,h⟩
theorem tS{w:World}{b:Nat}{c f:Bool}{ah gr:Int}{A:Nat->cW}(h:CB w b c f ah gr A){d:Nat}(hd:d<=41)(num:Int) :
  Calls Tryz.prog 65 #[.pointer (some ⟨b,0,none⟩),.int .i64 (d:Int),.int .i64 num] w fun e w'=>e=.returned (.bool (!inB A d num&&decide (num<=gr)))/\Below w.heap.size w w':=by
 have H:=aB h
 have hlt:=h.lt
 have e2:(d:Int)<=41:=by omega
 obtain⟨r,hr⟩:∃ r,(!inB A d num&&decide (num<=gr))=r:=⟨_,rfl⟩
 rw [hr]
 have HR:=aB hr
 clear h hr
 go_enter Tryz.func65,Tryz.ntmps65
 go_wp2
 go_loopw [15] (fun i wr=>∃ j:Nat,j<=d/\i=.int .i64 (j:Int)/\inB A j num=false/\Below w.heap.size w wr) (fun i _=>d-(intOf i).toNat)
 case atStart=>exact⟨0,m7 _,rfl,rfl,Below.refl _ _⟩
 case round=>
  obtain⟨j,hj,rfl,hin,hb⟩:=hrel
  have HI:=aB hin
  have HB:=aB hb
  have H1:Hid (CB wr b c f ah gr A):=H.out.kept hb
  clear hin hb hlt
  have hlt:=H1.out.lt
  by_cases hjl:j<d
  ·have e0:(j:Int)<(d:Int):=by omega
   obtain⟨⟨k0,k1,k2,k3,k4,k5⟩,k6⟩:=H1.out.sp j (by omega)
   have B2:Hid (Below w.heap.size w (wr.alloc (.cells #[.int .i64 (A j).f.k,.int .i64 (A j).f.n,.int .i64 (A j).f.mn,.int .i64 (A j).f.mx,.slice (A j).f.rq (A j).f.rs.length (A j).f.rc,.slice (A j).f.kq (A j).f.kl (A j).f.kc,.int .i64 (A j).s] 80))):=HB.out.alloc HB.out.size _
   have N2:=aD wr (.cells #[.int .i64 (A j).f.k,.int .i64 (A j).f.n,.int .i64 (A j).f.mn,.int .i64 (A j).f.mx,.slice (A j).f.rq (A j).f.rs.length (A j).f.rc,.slice (A j).f.kq (A j).f.kl (A j).f.kc,.int .i64 (A j).s] 80)
   have m0:(wr.alloc (.cells #[.int .i64 (A j).f.k,.int .i64 (A j).f.n,.int .i64 (A j).f.mn,.int .i64 (A j).f.mx,.slice (A j).f.rq (A j).f.rs.length (A j).f.rc,.slice (A j).f.kq (A j).f.kl (A j).f.kc,.int .i64 (A j).s] 80)).cell? ⟨wr.heap.size,0,none⟩=some (.int .i64 (A j).f.k):=aA N2 (i:=0) rfl
   have m1:(wr.alloc (.cells #[.int .i64 (A j).f.k,.int .i64 (A j).f.n,.int .i64 (A j).f.mn,.int .i64 (A j).f.mx,.slice (A j).f.rq (A j).f.rs.length (A j).f.rc,.slice (A j).f.kq (A j).f.kl (A j).f.kc,.int .i64 (A j).s] 80)).cell? ⟨wr.heap.size,1,none⟩=some (.int .i64 (A j).f.n):=aA N2 (i:=1) rfl
   have HS:=aB (kX A j num)
   clear N2
   go_upto_region 4 with fail
   generalize (wr.alloc (.cells #[.int .i64 (A j).f.k,.int .i64 (A j).f.n,.int .i64 (A j).f.mn,.int .i64 (A j).f.mx,.slice (A j).f.rq (A j).f.rs.length (A j).f.rc,.slice (A j).f.kq (A j).f.kl (A j).f.kc,.int .i64 (A j).s] 80))=W2 at B2 m0 m1 ⊢
   cases h7:((A j).f.k==7)
   ·have HN:Hid (inB A (j+1) num=false):=(by rw [HS.out,HI.out,h7];rfl)
    clear HS
    go_wp2
    go_roundw
    case rel=>exact⟨j+1,by omega,by go_num,HN.out,B2.out⟩
    case measure=>simp only [intOf];omega
   ·cases hn:((A j).f.n==num)
    ·have HN:Hid (inB A (j+1) num=false):=(by rw [HS.out,HI.out,h7,hn];rfl)
     clear HS
     go_wp2
     go_roundw
     case rel=>exact⟨j+1,by omega,by go_num,HN.out,B2.out⟩
     case measure=>simp only [intOf];omega
    ·have HN:Hid (inB A d num=true):=aS0 (d:=j+1) (by rw [HS.out,HI.out,h7,hn];rfl) (by omega)
     clear HS
     go_wp2
     go_ret
     exact⟨by rw [<- HR.out,HN.out];rfl,B2.out⟩
  ·have e0:¬ (j:Int)<(d:Int):=by omega
   obtain rfl:j=d:=by omega
   have k3:=H1.out.c3
   go_wp2
   go_ret
   exact⟨by rw [<- HR.out,HI.out];rfl,HB.out⟩
theorem CB.frz{W:World}{b:Nat}{c f:Bool}{ah gr:Int}{A:Nat->cW}(h:CB W b c f ah gr A)(j:Nat):W.frozen? ⟨b,j,none⟩=false:=by
 obtain⟨cur,hc⟩:=h.blk
 exact aJ hc j
theorem mK{W:World}{k b j:Nat}{f:Fl}{u:Value}(h:BoxN W k f)(hk:k≠b):BoxN (W.setCell ⟨b,j,none⟩ u) k f:=(((Fr.refl (fun z=>z=b) W).setCell (p:=⟨b,j,none⟩) rfl u).block _ (aC h) hk).trans h
theorem qD{w:World}{b:Nat}{c f:Bool}{ah gr:Int}{A:Nat->cW}(h:CB w b c f ah gr A){d:Nat}(hd:d+1<41)(x:Fl)(ha:0<=ah/\ah<=1000000)(hg:0<=gr/\gr<=1000000)(hs:0<=(A d).s/\(A d).s<=1000000) :
  Calls Tryz.prog 66 #[.pointer (some ⟨b,0,none⟩),.int .i64 ((d:Int)+1),.agg #[.int .i64 x.k,.int .i64 x.n,.int .i64 x.mn,.int .i64 x.mx,.slice x.rq x.rs.length x.rc,.slice x.kq x.kl x.kc]] w fun e w'=>e=.returned (.tuple #[])/\CB w' b c f (ah+1) (gr+(if x.k=7 then 1 else 0)) (lM (lM A d ⟨(A d).f,(A d).s+1⟩) (d+1) ⟨x,0⟩)/\Fr (fun z=>z=b) w w':=by
 have H:=aB h
 have hlt:=h.lt
 have B1:Hid (Below w.heap.size w (w.alloc (.cells #[.int .i64 x.k,.int .i64 x.n,.int .i64 x.mn,.int .i64 x.mx,.slice x.rq x.rs.length x.rc,.slice x.kq x.kl x.kc] 25))):=bz9
 have N1:Hid (BoxN (w.alloc (.cells #[.int .i64 x.k,.int .i64 x.n,.int .i64 x.mn,.int .i64 x.mx,.slice x.rq x.rs.length x.rc,.slice x.kq x.kl x.kc] 25)) w.heap.size x):=aD w _
 have H1:Hid (CB (w.alloc (.cells #[.int .i64 x.k,.int .i64 x.n,.int .i64 x.mn,.int .i64 x.mx,.slice x.rq x.rs.length x.rc,.slice x.kq x.kl x.kc] 25)) b c f ah gr A):=h.kept B1.out
 have F1:Hid (Fr (fun z=>z=b) w (w.alloc (.cells #[.int .i64 x.k,.int .i64 x.n,.int .i64 x.mn,.int .i64 x.mx,.slice x.rq x.rs.length x.rc,.slice x.kq x.kl x.kc] 25))):=Fr.of_below B1.out
 have hne:w.heap.size≠b:=by omega
 clear h H
 obtain⟨g2,hg2⟩:∃ g2,gr+(if x.k=7 then 1 else 0)=g2:=⟨_,rfl⟩
 rw [hg2]
 have HG:=aB hg2
 clear hg2
 go_enter Tryz.func66,Tryz.ntmps66
 go_upto_region 1 with fail
 generalize (w.alloc (.cells #[.int .i64 x.k,.int .i64 x.n,.int .i64 x.mn,.int .i64 x.mx,.slice x.rq x.rs.length x.rc,.slice x.kq x.kl x.kc] 25))=w1 at B1 N1 H1 F1 ⊢
 have c2:=H1.out.c2
 have f2:=H1.out.frz 2
 have lb:=H1.out.lt
 have H2:Hid (CB (w1.setCell ⟨b,2,none⟩ (.int .i64 (ah+1))) b c f (ah+1) gr A):=H1.out.setAh _
 have N2:Hid (BoxN (w1.setCell ⟨b,2,none⟩ (.int .i64 (ah+1))) w.heap.size x):=mK N1.out hne
 have F2:Hid (Fr (fun z=>z=b) w (w1.setCell ⟨b,2,none⟩ (.int .i64 (ah+1)))):=F1.out.setCell (p:=⟨b,2,none⟩) rfl _
 clear B1 N1 H1 F1
 go_upto_region 2 with fail
 generalize (w1.setCell ⟨b,2,none⟩ (.int .i64 (ah+1)))=w2 at H2 N2 F2 ⊢
 clear c2 f2 lb hlt
 obtain⟨c0,-⟩:=N2.out.six
 have c3:=H2.out.c3
 have f3:=H2.out.frz 3
 have lb:=H2.out.lt
 have e1:((d:Int)+1)-1=(d:Int):=by omega
 have e2:(d:Int)<41:=by omega
 have e3:(d:Int)+1<41:=by omega
 by_cases hk:x.k=7
 ·have hkb:(x.k==7)=true:=by simpa using hk
  have E2:=HG.out
  rw [if_pos hk] at E2
  subst E2
  have H3:Hid (CB (w2.setCell ⟨b,3,none⟩ (.int .i64 (gr+1))) b c f (ah+1) (gr+1) A):=H2.out.setGr _
  have N3:Hid (BoxN (w2.setCell ⟨b,3,none⟩ (.int .i64 (gr+1))) w.heap.size x):=mK N2.out hne
  have F3:Hid (Fr (fun z=>z=b) w (w2.setCell ⟨b,3,none⟩ (.int .i64 (gr+1)))):=F2.out.setCell (p:=⟨b,3,none⟩) rfl _
  clear H2 N2 F2 hk
  go_upto_region 4 with fail
  generalize (w2.setCell ⟨b,3,none⟩ (.int .i64 (gr+1)))=w3 at H3 N3 F3 ⊢
  clear c0 c3 f3 lb
  have p6:=(H3.out.sp d (by omega)).2
  have lb:=H3.out.lt
  have f6:=H3.out.frz (4+d*7+6)
  have H5:=aB ((H3.out.setSeen (d:=d) (by omega) ((A d).s+1)).kept ((Below.refl _ _).drew))
  have N5:Hid (BoxN (w3.setCell ⟨b,4+d*7+6,none⟩ (.int .i64 ((A d).s+1))).drew w.heap.size x):=mK N3.out hne
  have F5:Hid (Fr (fun z=>z=b) w (w3.setCell ⟨b,4+d*7+6,none⟩ (.int .i64 ((A d).s+1))).drew):=(F3.out.setCell (p:=⟨b,4+d*7+6,none⟩) rfl _).trans (Fr.of_below ((Below.refl _ _).drew))
  clear H3 N3 F3
  go_region
  go_upto_region 5 with fail
  generalize (w3.setCell ⟨b,4+d*7+6,none⟩ (.int .i64 ((A d).s+1))).drew=w5 at H5 N5 F5 ⊢
  clear p6 f6 lb
  have lb:=H5.out.lt
  have ln:=aC N5.out
  obtain⟨n0,n1,n2,n3,n4,n5⟩:=N5.out.six
  simp only [a7] at n1 n2 n3 n4 n5
  have fr:=fun j=>H5.out.frz j
  obtain⟨⟨q0,q1,q2,q3,q4,q5⟩,q6⟩:=H5.out.sp (d+1) (by omega)
  have H7:=aB ((H5.out.setSpot (d:=d+1) (by omega) ⟨x,0⟩).kept ((Below.refl _ _).drew))
  have F7:Hid (Fr (fun z=>z=b) w (iO w5 b (4+(d+1)*7) ⟨x,0⟩).drew):=(F5.out.trans (uN _ _ _ _)).trans (Fr.of_below ((Below.refl _ _).drew))
  unfold iO at H7 F7
  clear H5 F5
  go_region
  go_wp2
  go_end0
  exact⟨rfl,H7.out,F7.out⟩
 ·have hkb:(x.k==7)=false:=by simpa using hk
  have E2:=HG.out
  rw [if_neg hk,Int.add_zero] at E2
  subst E2
  have H3:=H2
  have N3:=N2
  have F3:=F2
  clear H2 N2 F2 hk
  go_upto_region 4 with fail
  clear c0 c3 f3 lb
  have p6:=(H3.out.sp d (by omega)).2
  have lb:=H3.out.lt
  have f6:=H3.out.frz (4+d*7+6)
  have H5:=aB ((H3.out.setSeen (d:=d) (by omega) ((A d).s+1)).kept ((Below.refl _ _).drew))
  have N5:Hid (BoxN (w2.setCell ⟨b,4+d*7+6,none⟩ (.int .i64 ((A d).s+1))).drew w.heap.size x):=mK N3.out hne
  have F5:Hid (Fr (fun z=>z=b) w (w2.setCell ⟨b,4+d*7+6,none⟩ (.int .i64 ((A d).s+1))).drew):=(F3.out.setCell (p:=⟨b,4+d*7+6,none⟩) rfl _).trans (Fr.of_below ((Below.refl _ _).drew))
  clear H3 N3 F3
  go_region
  go_upto_region 5 with fail
  generalize (w2.setCell ⟨b,4+d*7+6,none⟩ (.int .i64 ((A d).s+1))).drew=w5 at H5 N5 F5 ⊢
  clear p6 f6 lb
  have lb:=H5.out.lt
  have ln:=aC N5.out
  obtain⟨n0,n1,n2,n3,n4,n5⟩:=N5.out.six
  simp only [a7] at n1 n2 n3 n4 n5
  have fr:=fun j=>H5.out.frz j
  obtain⟨⟨q0,q1,q2,q3,q4,q5⟩,q6⟩:=H5.out.sp (d+1) (by omega)
  have H7:=aB ((H5.out.setSpot (d:=d+1) (by omega) ⟨x,0⟩).kept ((Below.refl _ _).drew))
  have F7:Hid (Fr (fun z=>z=b) w (iO w5 b (4+(d+1)*7) ⟨x,0⟩).drew):=(F5.out.trans (uN _ _ _ _)).trans (Fr.of_below ((Below.refl _ _).drew))
  unfold iO at H7 F7
  clear H5 F5
  go_region
  go_wp2
  go_end0
  exact⟨rfl,H7.out,F7.out⟩
end
theorem zI{base:Nat}{w:World}{n:Nat}{v:Value}{L:List (Int×Int)}(h:w.ownsRow base 53 2 v n (aH L))(hn:L.length=n):RR base w v L:=by subst hn;exact h
def shK(C:List (Int×Int))(k:Nat)(d:Int):List (Int×Int):=C.mapIdx fun i r=>if i<k then (r.1+d,r.2+d) else r
theorem yZ(C:List (Int×Int))(d:Int):shK C 0 d=C:=by
 unfold shK
 apply List.ext_getElem
 ·simp
 ·intro i h1 h2;simp
theorem mV(C:List (Int×Int))(k:Nat)(d:Int):(shK C k d).length=C.length:=by simp [shK]
theorem aF7{C:List (Int×Int)}{k:Nat}{r:Int×Int}(h:C[k]?=some r)(d:Int):(shK C k d)[k]?=some r:=by
 simp [shK,h]
theorem aF6{C:List (Int×Int)}{k:Nat}{r:Int×Int}(h:C[k]?=some r)(d:Int):(shK C k d).set k (r.1+d,r.2+d)=shK C (k+1) d:=by
 obtain⟨hk,rfl⟩:=i7.1 h
 unfold shK
 apply List.ext_getElem
 ·simp
 ·intro i h1 h2
  rw [List.getElem_set]
  simp only [List.getElem_mapIdx]
  by_cases hik:k=i
  ·subst hik;simp
  ·rw [if_neg hik]
   by_cases q:i<k
   ·rw [if_pos q,if_pos (by omega)]
   ·rw [if_neg q,if_neg (by omega)]
theorem aF8(C:List (Int×Int))(d:Int):shK C C.length d=C.map fun r=>(r.1+d,r.2+d):=by
 unfold shK
 apply List.ext_getElem
 ·simp
 ·intro i h1 h2
  simp only [List.length_mapIdx] at h1
  simp [h1]
theorem hQ(C:List (Int×Int))(d c:Int):In (C.map fun r=>(r.1+d,r.2+d)) c↔In C (c-d):=by
 unfold In
 constructor
 ·rintro ⟨r,hr,h1,h2⟩
  obtain⟨x,hx,rfl⟩:=m9.1 hr
  exact⟨x,hx,by simp only at h1 h2;omega,by simp only at h1 h2;omega⟩
 ·rintro ⟨r,hr,h1,h2⟩
  exact⟨_,m9.2 ⟨r,hr,rfl⟩,by simp only;omega,by simp only;omega⟩
theorem uT{w:World}{v:Value}{L:List (Int×Int)}{a b d:Int}(h:ArgR w v L)(hF:Fit L)(hl:L.length+2<=8796093022208)(h0:65<=a)(hab:a<=b)(h1:b<=122)(hd1:-32<=d)(hd2:d<=32) :
  Calls Tryz.prog 108 #[v,.agg #[.int .i64 a,.int .i64 b],.int .i64 d] w fun e w'=>∃ v' D,e=.returned v'/\RR w.heap.size w' v' D/\Fit D/\(∀ c,In D c↔In L (c-d)/\a<=c-d/\c-d<=b)/\D.length<=L.length+1/\Below w.heap.size w w':=by
 have H:Hid (ArgR w v L/\Fit L):=⟨h,hF⟩
 have FB:Hid (Fit [(a,b)]):=fS (by omega)
 have B2:Hid (Below w.heap.size w ((w.alloc (.cells #[.int .i64 a,.int .i64 b] 53)).alloc (.cells #[.int .i64 a,.int .i64 b] 53))):=(bz9).alloc (by simp) _
 have AB:Hid (ArgR ((w.alloc (.cells #[.int .i64 a,.int .i64 b] 53)).alloc (.cells #[.int .i64 a,.int .i64 b] 53)) (.slice (some ⟨w.heap.size+1,0,none⟩) 1 1) [(a,b)]):=aB <| by
  have:RR w.heap.size ((w.alloc (.cells #[.int .i64 a,.int .i64 b] 53)).alloc (.cells #[.int .i64 a,.int .i64 b] 53)) (.slice (some ⟨(w.alloc (.cells #[.int .i64 a,.int .i64 b] 53)).heap.size,0,none⟩) 1 1) [(a,b)]:=World.ownsRow_lit _ #[.int .i64 a,.int .i64 b] 1 (by simp) (by unfold maxLen;omega) rfl
  simpa using this.arg
 clear h hF
 go_enter Tryz.func108,Tryz.ntmps108
 go_wp2_with (go_at_call 114;refine(aV4 (H.out.1.kept B2.out) AB.out H.out.2 FB.out (by simp;omega)).mono ?_;rintro e w5 ⟨v5,C,rfl,p1,p2,p3,p4⟩;obtain⟨q5,c5,rfl⟩:=p1.shape;have X5:Hid (RR w.heap.size w5 (.slice q5 C.length c5) C/\IsC C (fun c=>In L c/\In [(a,b)] c)/\C.length<=L.length+1/\Below w.heap.size w w5):=⟨p1.mono B2.out.size,p2,p3,aF B2.out p4 lz9⟩;clear p1 p2 p3 p4)
 have hcl:=X5.out.2.2.1
 have BD:Hid (∀ (i:Nat) (r:Int×Int),C[i]?=some r->(a<=r.1/\r.1<=b)/\(a<=r.2/\r.2<=b)):=fun i r hr=>by
  have hm:=i5 hr
  have hs:=X5.out.2.1.cls.some r hm
  have p:=((X5.out.2.1.mem r.1).1 ⟨r,hm,s6 _,hs⟩).2
  have q:=((X5.out.2.1.mem r.2).1 ⟨r,hm,hs,s6 _⟩).2
  rw [dN] at p q
  exact⟨p,q⟩
 go_loopw [15] (fun i wr=>∃ k:Nat,k<=C.length/\i=.int .i64 k/\RR w.heap.size wr (.slice q5 C.length c5) (shK C k d)/\Below w.heap.size w wr) (fun i _=>C.length-(intOf i).toNat)
 case atStart=>exact⟨0,m7 _,rfl,by rw [yZ];exact X5.out.1,X5.out.2.2.2⟩
 case round=>
  obtain⟨k,hk,rfl,hrr,hb⟩:=hrel
  have RK:Hid (RR w.heap.size wr (.slice q5 C.length c5) (shK C k d)):=hrr
  have B:Hid (Below w.heap.size w wr):=hb
  clear hrr hb
  by_cases hlt:k<C.length
  ·obtain⟨r,hr⟩:∃ r,C[k]?=some r:=⟨_,b7 hlt⟩
   have hbd:=BD.out k r hr
   have OW:Hid (wr.ownsRow w.heap.size 53 2 (.slice q5 C.length c5) C.length (aH (shK C k d))):=aB (by have:=RK.out;unfold RR at this;rwa [mV] at this)
   obtain⟨g,c',e⟩:=aN OW.out (by omega)
   cases e
   obtain⟨z1,z2⟩:=fL _ k r (aF7 hr d)
   have d1:=bM OW.out z1
   have d2:=bM OW.out z2
   rw [u0] at d1 d2
   have f1:=OW.out.frozenAt (k*2)
   have f2:=OW.out.frozenAt (k*2+1)
   have O2:Hid ((((wr.setCell ⟨g,k*2,none⟩ (.int .i64 (r.1+d))).setCell ⟨g,k*2+1,none⟩ (.int .i64 (r.2+d)))).ownsRow w.heap.size 53 2 (.slice (some ⟨g,0,none⟩) C.length c5) C.length (aH (shK C (k+1) d))):=aB (by
    have:=((OW.out.stored (k*2) (.int .i64 (r.1+d))).1.stored (k*2+1) (.int .i64 (r.2+d))).1
    rwa [nR,aF6 hr] at this)
   have hgb:=(aG OW.out rfl).1
   have hgs:=(aG OW.out rfl).2.1
   have FB2:Hid (Below w.heap.size w ((wr.setCell ⟨g,k*2,none⟩ (.int .i64 (r.1+d))).setCell ⟨g,k*2+1,none⟩ (.int .i64 (r.2+d)))):=(B.out.setCell (p:=⟨g,k*2,none⟩) hgb _).setCell (p:=⟨g,k*2+1,none⟩) hgb _
   obtain⟨r1,r2⟩:=r
   dsimp only at d1 d2 hbd
   have w1:IntKind.wrap .i64 (r1+d)=r1+d:=by rw [IntKind.wrap_i64];omega
   have w2:IntKind.wrap .i64 (r2+d)=r2+d:=by rw [IntKind.wrap_i64];omega
   have i0:(0:Int)<=(k:Int):=by omega
   have i1:(k:Int)<(C.length:Int):=by omega
   clear z1 z2 hr hbd
   go_wp2
   go_roundw
   case rel=>exact⟨k+1,by omega,by go_num,zI O2.out (mV C (k+1) d),FB2.out⟩
   case measure=>simp [intOf];omega
  ·have i1:¬ (k:Int)<(C.length:Int):=by omega
   obtain rfl:k=C.length:=by omega
   rw [aF8] at RK
   go_wp2
   go_ret
   refine⟨_,rfl,_,RK.out,fun r hr=>?_,fun c=>?_,by simp;omega,B.out⟩
   ·obtain⟨x,hx,e⟩:=m9.1 hr
    subst e
    obtain⟨i,hi⟩:=List.getElem?_of_mem hx
    have:=BD.out i x hi
    simp only
    omega
   ·rw [hQ,X5.out.2.1.mem,dN]
def jO(L:List (Int×Int))(c:Int):Prop:=In L c\/(In L (c-32)/\65<=c-32/\c-32<=90)\/(In L (c+32)/\97<=c+32/\c+32<=122)
theorem sP{w:World}{va vb vc:Value}{A B C:List (Int×Int)}(ha:ArgR w va A)(hb:ArgR w vb B)(hc:ArgR w vc C)(t:TypeId):∀ (i:Nat) (p:Value×List (Int×Int)),[(va,A),(vb,B),(vc,C)][i]?=some p->(w.alloc (.cells #[va,vb,vc] t)).cell? ⟨w.heap.size,i,none⟩=some p.1/\ArgR (w.alloc (.cells #[va,vb,vc] t)) p.1 p.2:=by
 have B1:Below w.heap.size w (w.alloc (.cells #[va,vb,vc] t)):=bz9
 intro i p hp
 match i,hp with
 | 0,hp=>simp at hp;subst hp;exact⟨aA (aD w _) (i:=0) rfl,ha.kept B1⟩
 | 1,hp=>simp at hp;subst hp;exact⟨aA (aD w _) (i:=1) rfl,hb.kept B1⟩
 | 2,hp=>simp at hp;subst hp;exact⟨aA (aD w _) (i:=2) rfl,hc.kept B1⟩
theorem aK3{w:World}{va vb vc:Value}{A B C:List (Int×Int)}(ha:ArgR w va A)(hb:ArgR w vb B)(hc:ArgR w vc C)(hl:A.length+B.length+C.length+1<=8796093022208) :
  Calls Tryz.prog 90 #[.slice (some ⟨w.heap.size,0,none⟩) 3 3] (w.alloc (.cells #[va,vb,vc] 22)) fun e w'=>∃ v,e=.returned v/\RR w.heap.size w' v (A++(B++C))/\Below w.heap.size w w':=
 (rS (V:=[(va,A),(vb,B),(vc,C)]) (m:=3) rfl (sP ha hb hc 22) (by simp) (by omega) (by simp [eV];omega)).mono fun e w' ⟨v,h1,h2,h3⟩=>⟨v,h1,by have:=h2.mono (base':=w.heap.size) (by simp);simpa [eV] using this,aF (bz9) h3 lz9⟩
theorem aS5{w:World}{v:Value}{L:List (Int×Int)}(h:ArgR w v L)(hF:Fit L)(hl:3*L.length+9<=8796093022208) :
  Calls Tryz.prog 97 #[v] w (oD w (jO L) (3*L.length+2)):=by
 obtain⟨q1,k1,e1,-,-,-⟩:=h.slice
 subst e1
 have H:Hid (ArgR w (.slice q1 L.length k1) L/\Fit L):=⟨h,hF⟩
 have hl1:L.length+2<=8796093022208:=by omega
 clear h hF
 go_enter Tryz.func97,Tryz.ntmps97
 go_wp2_with first
  |(have hx:=X5.out;clear hx;go_at_call 108;have hih:=uT (a:=97) (b:=122) (d:=-32) (H.out.1.kept X5.out.2.2.2.2) H.out.2 hl1 (by omega) (by omega) (by omega) (by omega) (by omega);refine hih.mono ?_;clear hih;rintro e w6 ⟨v6,D6,rfl,h1,h2,h3,h4,h5⟩;obtain⟨q6,c6,rfl⟩:=h1.shape;have X6:Hid (RR w5.heap.size w6 (.slice q6 D6.length c6) D6/\Fit D6/\(∀ c,In D6 c↔In L (c - -32)/\97<=c - -32/\c - -32<=122)/\D6.length<=L.length+1/\Below w5.heap.size w5 w6):=⟨h1,h2,h3,h4,h5⟩;clear h1 h2 h3 h4 h5)
  |(go_at_call 108;have hih:=uT (a:=65) (b:=90) (d:=32) H.out.1 H.out.2 hl1 (by omega) (by omega) (by omega) (by omega) (by omega);refine hih.mono ?_;clear hih;rintro e w5 ⟨v5,D5,rfl,h1,h2,h3,h4,h5⟩;obtain⟨q5,c5,rfl⟩:=h1.shape;have X5:Hid (RR w.heap.size w5 (.slice q5 D5.length c5) D5/\Fit D5/\(∀ c,In D5 c↔In L (c-32)/\65<=c-32/\c-32<=90)/\D5.length<=L.length+1/\Below w.heap.size w w5):=⟨h1,h2,h3,h4,h5⟩;clear h1 h2 h3 h4 h5)
  |(go_at_call 90;refine(aK3 ((H.out.1.kept X5.out.2.2.2.2).kept X6.out.2.2.2.2) (X5.out.1.kept X6.out.2.2.2.2).arg X6.out.1.arg (by have:=X5.out.2.2.2.1;have:=X6.out.2.2.2.1;omega)).mono ?_;rintro e w7 ⟨v7,rfl,h1,h2⟩;have X7:Hid (RR w6.heap.size w7 v7 (L++(D5++D6))/\Below w6.heap.size w6 w7):=⟨h1,h2⟩;clear h1 h2)
  |(go_at_call 89;refine(eQ X7.out.1.arg (cM H.out.2 (cM X5.out.2.1 X6.out.2.1)) (by have:=X5.out.2.2.2.1;have:=X6.out.2.2.2.1;simp;omega)).mono ?_;rintro e w8 ⟨v8,C8,rfl,h1,h2,h3,h4⟩;have X8:Hid (RR w7.heap.size w8 v8 C8/\IsC C8 (In (L++(D5++D6)))/\C8.length<=(L++(D5++D6)).length/\Below w7.heap.size w7 w8):=⟨h1,h2,h3,h4⟩;clear h1 h2 h3 h4)
 go_ret
 have B7:=aF (aF X5.out.2.2.2.2 X6.out.2.2.2.2 lz9) X7.out.2 lz9
 refine⟨_,_,rfl,X8.out.1.mono B7.size,X8.out.2.1.to fun c=>?_,?_,aF B7 X8.out.2.2.2 lz9⟩
 ·rw [bZ,bZ,X5.out.2.2.1,X6.out.2.2.1]
  unfold jO
  rw [show c - -32=c+32 by omega]
 ·have:=X8.out.2.2.1
  have:=X5.out.2.2.2.1
  have:=X6.out.2.2.2.1
  simp at *
  omega
theorem aP7{w:World}{va vb:Value}{A B:List (Int×Int)}(ha:ArgR w va A)(hb:ArgR w vb B)(fa:Fit A)(fb:Fit B)(hl1:A.length<=8796093022208)(hl2:B.length<=8796093022208) :
  Calls Tryz.prog 96 #[va,vb] w fun e w'=>∃ b:Bool,e=.returned (.bool b)/\(b=true ↔ ∀ c,In A c↔In B c)/\Below w.heap.size w w':=by
 have H:Hid (ArgR w va A/\Fit A):=⟨ha,fa⟩
 have K:Hid (ArgR w vb B/\Fit B):=⟨hb,fb⟩
 clear ha hb fa fb
 go_enter Tryz.func96,Tryz.ntmps96
 go_wp2_with first
  |(have hx:=X5.out;clear hx;go_at_call 89;have hih:=eQ (K.out.1.kept X5.out.2.2.2) K.out.2 hl2;refine hih.mono ?_;clear hih;rintro e w6 ⟨v6,C6,rfl,h1,h2,h3,h4⟩;have X6:Hid (RR w5.heap.size w6 v6 C6/\IsC C6 (In B)/\C6.length<=B.length/\Below w5.heap.size w5 w6):=⟨h1,h2,h3,h4⟩;clear h1 h2 h3 h4)
  |(go_at_call 89;refine(eQ H.out.1 H.out.2 hl1).mono ?_;rintro e w5 ⟨v5,C5,rfl,h1,h2,h3,h4⟩;have X5:Hid (RR w.heap.size w5 v5 C5/\IsC C5 (In A)/\C5.length<=A.length/\Below w.heap.size w w5):=⟨h1,h2,h3,h4⟩;clear h1 h2 h3 h4)
  |(go_at_call 103;refine(qC (X5.out.1.kept X6.out.2.2.2).arg X6.out.1.arg).mono ?_;obtain⟨bb,hbb⟩:∃ bb,decide (C5=C6)=bb:=⟨_,rfl⟩;rw [hbb];have EB:Hid (decide (C5=C6)=bb):=hbb;clear hbb;rintro e w7 ⟨rfl,h1⟩;have X7:Hid (Below w6.heap.size w6 w7):=h1;clear h1)
 go_ret
 refine⟨bb,rfl,?_,aF (aF X5.out.2.2.2 X6.out.2.2.2 lz9) X7.out lz9⟩
 rw [<- EB.out,decide_eq_true_iff]
 constructor
 ·intro e c
  rw [<- X5.out.2.1.mem,<- X6.out.2.1.mem,e]
 ·intro e
  exact X5.out.2.1.one X6.out.2.1 e
theorem uL{w:World}{v:Value}{L:List (Int×Int)}{m:Bool}(h:ArgR w v L)(hF:Fit L)(hl:L.length+3<=8796093022208) :
  Calls Tryz.prog 95 #[v,.bool m] w fun e w'=>∃ b:Bool,e=.returned (.bool b)/\(b=true↔IsC L (fun c=>In L c/\dQ m c))/\Below w.heap.size w w':=by
 have H:Hid (ArgR w v L/\Fit L):=⟨h,hF⟩
 clear h hF
 go_enter Tryz.func95,Tryz.ntmps95
 go_wp2_with first
  |(go_at_call 107;refine(aQ9 H.out.1 H.out.2 hl).mono ?_;rintro e w5 ⟨v5,C5,rfl,h1,h2,h3,h4⟩;have X5:Hid (RR w.heap.size w5 v5 C5/\IsC C5 (fun c=>In L c/\dQ m c)/\C5.length<=L.length+2/\Below w.heap.size w w5):=⟨h1,h2,h3,h4⟩;clear h1 h2 h3 h4)
  |(go_at_call 103;refine(qC (H.out.1.kept X5.out.2.2.2) X5.out.1.arg).mono ?_;obtain⟨bb,hbb⟩:∃ bb,decide (L=C5)=bb:=⟨_,rfl⟩;rw [hbb];have EB:Hid (decide (L=C5)=bb):=hbb;clear hbb;rintro e w7 ⟨rfl,h1⟩;have X7:Hid (Below w5.heap.size w5 w7):=h1;clear h1)
 go_ret
 refine⟨bb,rfl,?_,aF X5.out.2.2.2 X7.out lz9⟩
 rw [<- EB.out,decide_eq_true_iff]
 constructor
 ·intro e
  have h2:=X5.out.2.1
  rw [<- e] at h2
  exact h2
 ·intro e
  exact e.one X5.out.2.1 fun _=>Iff.rfl
theorem xL{m:Bool}{c:Int}(h:dQ m c):0<=c/\c<1114112:=by
 obtain⟨h1,h2,_⟩:=h
 unfold top at h2
 split at h2 <;> omega
theorem vL:∀ (C:List (Int×Int)) (lo hi:Int),Cls C->(∀ c,In C c->lo<=c/\c<=hi)->C=[]\/2*(C.length:Int)<=hi-lo+2
 | [],_,_,_,_=>.inl rfl
 | r :: C,lo,hi,h,hb=>by
  have hr:=eH h
  have b1:=hb r.1 ((bF ..).2 (.inl ⟨s6 _,hr⟩))
  have b2:=hb r.2 ((bF ..).2 (.inl ⟨hr,s6 _⟩))
  refine .inr ?_
  rcases vL C (r.2+2) hi (iR h) (fun c hc=>⟨by have:=dB h hc;omega,(hb c ((bF ..).2 (.inr hc))).2⟩) with rfl | q
  ·simp;omega
  ·simp;omega
theorem aD3{C:List (Int×Int)}{p:Int->Prop}{m:Bool}(h:IsC C p)(hc:∀ c,p c->dQ m c):C.length<=600000:=by
 rcases vL C 0 1114111 h.cls (fun c q=>by have:=xL (hc c ((h.mem c).1 q));omega) with rfl | q
 ·simp
 ·omega
end Go.Proofs.YtlamifbjklpdbaaGreat
