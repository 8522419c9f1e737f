/-
  Parts of the proof.
-/
import Derived.Test.YtdgfpiekjigfnaaGreatDoorHoldsProofA0
import Derived.Test.YtdgfpiekjigfnaaGreatDoorHoldsProofB13
import Derived.Test.YtdgfpiekjigfnaaGreatDoorHoldsProofB14
import Derived.Laws.AppendOwnNone
import Derived.Test.YtdgfpiekjigfnaaGreatDoorHoldsProofB11
import Derived.Test.YtdgfpiekjigfnaaGreatDoorHoldsProofB12
import Derived.Test.YtdgfpiekjigfnaaGreatDoorHoldsProofB2
import Derived.Test.YtdgfpiekjigfnaaGreatDoorHoldsProofB6
import Derived.Test.YtdgfpiekjigfnaaGreatDoorHoldsProofB7
import Derived.Deep.WholeRow
set_option maxRecDepth 100000
set_option maxHeartbeats 8000000
namespace Go.Proofs.YtdgfpiekjigfnaaGreatDoor
open Go Go.RowKit
def iC(V:List (Value×lIi)):lIi:=V.flatMap fun p=>p.2
theorem vK{V:List (Value×lIi)}{k:Nat}{p:Value×lIi}(h:V[k]?=some p):iC (V.take (k+1))=iC (V.take k)++p.2:=by
 obtain⟨hk,rfl⟩:=m7.1 h;rw [dN V k hk];unfold iC;rw [List.flatMap_append];simp only [aAZ,List.flatMap_nil,aBR]
theorem aL8(V:List (Value×lIi))(k:Nat):(iC (V.take k)).length<=(iC V).length:=by
 have e:iC V=iC (V.take k)++iC (V.drop k):=by unfold iC;rw [<- List.flatMap_append,aBX]
 rw [e,o4];omega
theorem rG{base:Nat}{w:World}{n:Nat}{v:Value}{F L:lIi}(h:w.ownsRow base 92 2 v n (aT F++aT L)):RR base w v (F++L):=by
 have hn:n=(F++L).length:=by have:=h.1;simp [eC] at this;simp;omega
 subst hn;unfold RR;rw [jE];exact h
theorem aS1(w:World):Calls Tryz.prog 180 #[.slice none 0 0,.I 0] w fun e w'=>e=.returned (.slice none 0 0)/\w'=w:=
 Any8.slices_Grow_room Tryz.growPl none 0 0 0 w (by omega) (by omega) (by omega) (by omega)
theorem bV1(n:Nat)(w:World)(hn:n<=8796093022208):Calls Tryz.prog 180 #[.slice none 0 0,.I (n:Int)] w fun e w'=>∃ v,e=.returned v/\RR w.heap.size w' v []/\wBl w w':=by
 rcases Nat.eq_zero_or_pos n with rfl | hp
 ·exact(aS1 w).mono fun e w' ⟨h1,h2⟩=>⟨_,h1,RR.nil _ _,by rw [h2];exact Below.refl _ _⟩
 ·obtain⟨i0,hi,hz0,hz1,hz2⟩:=aV dB;have h:=Any8.slices_Grow_grow Tryz.growPl i0 (.agg #[.I 0,.I 0]) hi hz0 (by rw [hz1];decide) none 0 0 n [] w (by omega) (by omega) (by rw [hz2];omega) (by omega) (by simp) (fun _=>rfl) (fun _ q=>by cases q);refine Calls.mono (show Calls Tryz.prog 180 _ _ _ from h) ?_;rintro e w' ⟨rfl,rfl⟩;have hg:=grownCap_ge w (0+n) 0 92;have hm:=grownCap_le_maxLen w (0+n) 0 92 (by unfold maxLen;omega);refine⟨_,rfl,?_,(Below.refl _ _).drew.alloc (by simp) _⟩;have hz:∀ k,(Builtin.zeroCells #[.I 0,.I 0] k).size=k*2:=fun k=>by simp [Builtin.zeroCells]
  refine World.ownsRow_made w.drew _ _ lz9 hm ?_;show (#[]++Builtin.zeroCells #[.I 0,.I 0] (0+n-0)++Builtin.zeroCells #[.I 0,.I 0] (grownCap w (0+n) 0 92-(0+n))).size=grownCap w (0+n) 0 92*2;rw [Array.size_append,Array.size_append,hz,hz];generalize grownCap w (0+n) 0 92=G at *;show 0+(0+n-0)*2+(G-(0+n))*2=G*2;omega
theorem bE3{w:World}{g m:Nat}{V:List (Value×lIi)}(hm:V.length=m)(hV:∀ (i:Nat) (p:Value×lIi),V[i]?=some p->w.cell? (aDr g i)=some p.1/\ArgR w p.1 p.2)(hg:g<w.heap.size)(hml:m<=1000)(hl:(iC V).length+1<=8796093022208) :
  Calls Tryz.prog 172 #[.slice (some (aDr g 0)) m m] w fun e w'=>∃ v,e=.returned v/\RR w.heap.size w' v (iC V)/\wBl w w':=by
 have HV:Hid (∀ (i:Nat) (p:Value×lIi),V[i]?=some p->w.cell? (aDr g i)=some p.1/\ArgR w p.1 p.2):=hV;have HM:Hid (V.length=m):=hm;obtain⟨t0,ti,hz0,hz1,hz2⟩:=aV dB;clear hV hm;go_enter Tryz.func172,Tryz.ntmps172;go_wp2;go_loopw [3,11] (fun s i wr=>∃ k:Nat,k<=m/\i=.I k/\s=.I ((iC (V.take k)).length:Nat)/\wr=w) (fun _ i _=>m-(intOf i).toNat)
 case atStart=>exact⟨0,o9 _,rfl,rfl,rfl⟩
 case round=>
  obtain⟨k,hk,rfl,rfl,hw⟩:=hrel;subst wr;by_cases hlt:k<m
  ·obtain⟨⟨v,L⟩,hp⟩:∃ p,V[k]?=some p:=⟨_,i9 (by have:=HM.o;omega)⟩;obtain⟨d0,ha⟩:=HV.o k _ hp;dsimp only at d0 ha;obtain⟨q,cap,rfl,-,-,-⟩:=ha.slice;have NX:Hid ((iC (V.take (k+1))).length=(iC (V.take k)).length+L.length):=aC (by rw [vK hp,o4]);have le1:=aL8 V (k+1);rw [NX.o] at le1;clear hp ha;generalize (iC (V.take k)).length=n at *;have i0:(0:Int)<=(k:Int):=(by omega);have i1:(k:Int)<(m:Int):=(by omega);have wn:IntKind.wrap .i64 ((n:Int)+(L.length:Int))=(n:Int)+(L.length:Int):=(by rw [IntKind.wrap_i64];omega);have nn:¬ ((n:Int)+(L.length:Int)<0):=(by omega);go_wp2;go_roundw
   case rel=>exact⟨k+1,by omega,by go_num,by rw [NX.o];rfl,by first | rfl | trivial⟩
   case measure=>simp [intOf];omega
  ·have i1:¬ (k:Int)<(m:Int):=by omega
   have E:Hid (V.take k=V):=aC (n8 (by rw [HM.o];omega));rw [E.o];have LB:Hid ((iC V).length<=8796093022208):=aC (by omega);go_wp2_with (go_at_call 180;refine(bV1 _ _ LB.o).mono ?_;rintro e w5 ⟨v5,rfl,h1,h2⟩;have R5:Hid (RR w.heap.size w5 v5 []):=h1;have B5:Hid (wBl w w5):=h2;clear h1 h2)
   rename World=>W1;go_loopw [6,27] (fun s i wr=>∃ k:Nat,k<=m/\i=.I k/\RR w.heap.size wr s (iC (V.take k))/\wBl w wr) (fun _ i _=>m-(intOf i).toNat)
   case atStart=>exact⟨0,o9 _,rfl,R5.o,B5.o⟩
   case round=>
    obtain⟨j,hj,rfl,hrr,hb⟩:=hrel;obtain⟨qg,cg,rfl⟩:=hrr.shape;have RG:Hid (RR w.heap.size wr (.slice qg (iC (V.take j)).length cg) (iC (V.take j))):=hrr;have B:Hid (wBl w wr):=hb;have hbs:w.heap.size<=wr.heap.size:=hb.size;clear hrr hb;by_cases hjlt:j<m
    ·obtain⟨⟨v,L⟩,hp⟩:∃ p,V[j]?=some p:=⟨_,i9 (by have:=HM.o;omega)⟩;obtain⟨d0,ha⟩:=HV.o j _ hp;dsimp only at d0 ha;have d1:=(B.o.cell (p:=(aDr g j)) hg).trans d0;have NX:Hid (iC (V.take (j+1))=iC (V.take j)++L):=vK hp;have le1:=aL8 V (j+1);rw [NX.o,o4] at le1;have hA:=ha.kept B.o;obtain⟨q,cap,rfl,-,-,-⟩:=ha.slice;have j0:(0:Int)<=(j:Int):=(by omega);have j1:(j:Int)<(m:Int):=(by omega);clear hp d0;generalize iC (V.take j)=F at *
     cases q with
     | none=>
      have e0:Value.slice none L.length cap=.slice none 0 0/\L=[]:=by
       rcases ha with⟨p,cap',e,e2,e3⟩ | ⟨g',off',cap',e,_⟩
       ·subst e2;cases e;have:=e3 rfl;subst this;exact⟨rfl,rfl⟩
       ·cases e
      rw [e0.1] at d1;have EL:Hid (L=[]):=e0.2;clear ha hA e0;go_wp2_with (at_builtin;refine wpList_append_own_none rfl _ _ 22 rfl w.heap.size 92 t0 2 bG ti (.slice qg F.length cg) F.length (aT F) rfl RG.o rfl ?_)
      go_roundw
      case rel=>exact⟨j+1,by omega,by go_num,by rw [NX.o,EL.o,aBR];exact RG.o,B.o⟩
      case measure=>simp [intOf];omega
     | some ad=>
      have NW:Hid (∀ j u,(aT L)[j]?=some u->wr.cell? (ad.add j)=some u):=hA.news;clear ha hA;go_wp2_with (at_builtin;refine wpList_append_own_at _ rfl _ _ 22 rfl w.heap.size 92 t0 (.agg #[.I 0,.I 0]) 2 16 bG ti hz0 hz1 hz2 rfl (by decide) (.slice qg F.length cg) F.length (aT F) rfl RG.o ad L.length cap (aT L) rfl (eC L) NW.o (nT L) (by unfold maxLen;omega) (by omega) hbs ?_;intro v' w6 hown' hgrow _ hblk;have A6:Hid (RR w.heap.size w6 v' (F++L)):=rG hown';have B6:Hid (wBl w w6):=cW B.o RG.o hgrow;clear hown' hgrow hblk)
      go_roundw
      case rel=>exact⟨j+1,by omega,by go_num,by rw [NX.o];exact A6.o,B6.o⟩
      case measure=>simp [intOf];omega
    ·have j1:¬ (j:Int)<(m:Int):=by omega
     have E2:Hid (V.take j=V):=aC (n8 (by rw [HM.o];omega));rw [E2.o] at RG ⊢;go_wp2;go_ret;exact⟨_,rfl,RG.o,B.o⟩
def num(c:Int):Prop:=-9223372036854775808<=c/\c<=9223372036854775807
theorem bU2{w:World}{v:Value}{L:lIi}{m:Bool}(h:ArgR w v L)(hF:Fit L)(hl:L.length+3<=8796093022208) :
  Calls Tryz.prog 169 #[v,.bool m] w (xT w (fun c=>In L c/\bP m c) (L.length+2)):=by
 have H:Hid (ArgR w v L/\Fit L):=⟨h,hF⟩;have hl1:L.length<=8796093022208:=by omega
 clear h hF;go_enter Tryz.func169,Tryz.ntmps169;go_wp2_with first
  |(go_at_call 170;refine(iF H.o.1 H.o.2 hl1).mono ?_;rintro e w5 ⟨v5,C5,rfl,h1,h2,h3,h4⟩;have X5:Hid (RR w.heap.size w5 v5 C5/\IsC C5 (In L)/\C5.length<=L.length/\wBl w w5):=⟨h1,h2,h3,h4⟩;clear h1 h2 h3 h4)
  |(go_at_call 176;refine(bN7 m _).mono ?_;rintro e w6 ⟨v6,rfl,h1,h2⟩;have X6:Hid (RR w5.heap.size w6 v6 (dL m)/\wBl w5 w6):=⟨h1,h2⟩;clear h1 h2)
  |(go_at_call 175;refine(aA0 (X5.o.1.kept X6.o.2).arg X6.o.1.arg X5.o.2.1.cls (jW m).cls X5.o.2.1.fit (jW m).fit (by have:=X5.o.2.2.1;have:=jD m;omega)).mono ?_;rintro e w7 ⟨v7,C7,rfl,h1,h2,h3,h4⟩;have X7:Hid (RR w6.heap.size w7 v7 C7/\IsC C7 (fun c=>In C5 c/\In (dL m) c)/\C7.length<=C5.length+(dL m).length/\wBl w6 w7):=⟨h1,h2,h3,h4⟩;clear h1 h2 h3 h4)
 go_ret;have B6:=aJ X5.o.2.2.2 X6.o.2 lz9;refine⟨_,_,rfl,X7.o.1.mono B6.size,X7.o.2.1.to fun c=>?_,?_,aJ B6 X7.o.2.2.2 lz9⟩
 ·rw [X5.o.2.1.mem,(jW m).mem]
 ·have:=X7.o.2.2.1;have:=X5.o.2.2.1;have:=jD m;omega
theorem bY5{w:World}{va vb:Value}{A B:lIi}(ha:ArgR w va A)(hb:ArgR w vb B)(fa:Fit A)(fb:Fit B)(hl:A.length+B.length+1<=8796093022208) :
  Calls Tryz.prog 179 #[va,vb] w (xT w (fun c=>In A c/\In B c) (A.length+B.length)):=by
 have H:Hid (ArgR w va A/\Fit A):=⟨ha,fa⟩;have K:Hid (ArgR w vb B/\Fit B):=⟨hb,fb⟩;have hl1:A.length<=8796093022208:=by omega
 have hl2:B.length<=8796093022208:=by omega
 clear ha hb fa fb;go_enter Tryz.func179,Tryz.ntmps179;go_wp2_with first
  |(have hx:=X5.o;clear hx;go_at_call 170;have hih:=iF (K.o.1.kept X5.o.2.2.2) K.o.2 hl2;refine hih.mono ?_;clear hih;rintro e w6 ⟨v6,C6,rfl,h1,h2,h3,h4⟩;have X6:Hid (RR w5.heap.size w6 v6 C6/\IsC C6 (In B)/\C6.length<=B.length/\wBl w5 w6):=⟨h1,h2,h3,h4⟩;clear h1 h2 h3 h4)
  |(go_at_call 170;refine(iF H.o.1 H.o.2 hl1).mono ?_;rintro e w5 ⟨v5,C5,rfl,h1,h2,h3,h4⟩;have X5:Hid (RR w.heap.size w5 v5 C5/\IsC C5 (In A)/\C5.length<=A.length/\wBl w w5):=⟨h1,h2,h3,h4⟩;clear h1 h2 h3 h4)
  |(go_at_call 175;refine(aA0 (X5.o.1.kept X6.o.2.2.2).arg X6.o.1.arg X5.o.2.1.cls X6.o.2.1.cls X5.o.2.1.fit X6.o.2.1.fit (by have:=X5.o.2.2.1;have:=X6.o.2.2.1;omega)).mono ?_;rintro e w7 ⟨v7,C7,rfl,h1,h2,h3,h4⟩;have X7:Hid (RR w6.heap.size w7 v7 C7/\IsC C7 (fun c=>In C5 c/\In C6 c)/\C7.length<=C5.length+C6.length/\wBl w6 w7):=⟨h1,h2,h3,h4⟩;clear h1 h2 h3 h4)
 go_ret;have B6:=aJ X5.o.2.2.2 X6.o.2.2.2 lz9;refine⟨_,_,rfl,X7.o.1.mono B6.size,X7.o.2.1.to fun c=>?_,?_,aJ B6 X7.o.2.2.2 lz9⟩
 ·rw [X5.o.2.1.mem,X6.o.2.1.mem]
 ·have:=X7.o.2.2.1;have:=X5.o.2.2.1;have:=X6.o.2.2.1;omega
theorem aY1{base:Nat}{w:World}{n:Nat}{v:Value}{L:lIi}(h:w.ownsRow base 92 2 v n (aT L))(hn:L.length=n):RR base w v L:=by subst hn;exact h
def shK(C:lIi)(k:Nat)(d:Int):lIi:=C.mapIdx fun i r=>if i<k then (r.1+d,r.2+d) else r
theorem aX5(C:lIi)(d:Int):shK C 0 d=C:=by
 unfold shK;apply aCK
 ·simp
 ·intro i h1 h2;simp
theorem sK(C:lIi)(k:Nat)(d:Int):(shK C k d).length=C.length:=by simp [shK]
theorem bI8{C:lIi}{k:Nat}{r:Int×Int}(h:C[k]?=some r)(d:Int):(shK C k d)[k]?=some r:=by
 simp [shK,h]
theorem bI7{C:lIi}{k:Nat}{r:Int×Int}(h:C[k]?=some r)(d:Int):(shK C k d).set k (r.1+d,r.2+d)=shK C (k+1) d:=by
 obtain⟨hk,rfl⟩:=m7.1 h;unfold shK;apply aCK
 ·simp
 ·intro i h1 h2;rw [List.getElem_set];simp only [List.getElem_mapIdx];by_cases hik:k=i
  ·subst hik;simp
  ·rw [if_neg hik];by_cases q:i<k
   ·rw [if_pos q,if_pos (by omega)]
   ·rw [if_neg q,if_neg (by omega)]
theorem bI9(C:lIi)(d:Int):shK C C.length d=C.map fun r=>(r.1+d,r.2+d):=by
 unfold shK;apply aCK
 ·simp
 ·intro i h1 h2;simp only [List.length_mapIdx] at h1;simp [h1]
theorem kJ(C:lIi)(d c:Int):In (C.map fun r=>(r.1+d,r.2+d)) c↔In C (c-d):=by
 unfold In;constructor
 ·rintro ⟨r,hr,h1,h2⟩;obtain⟨x,hx,rfl⟩:=aAI.1 hr;exact⟨x,hx,by simp only at h1 h2;omega,by simp only at h1 h2;omega⟩
 ·rintro ⟨r,hr,h1,h2⟩;exact⟨_,aAI.2 ⟨r,hr,rfl⟩,by simp only;omega,by simp only;omega⟩
theorem aK8{w:World}{v:Value}{L:lIi}{a b d:Int}(h:ArgR w v L)(hF:Fit L)(hl:L.length+2<=8796093022208)(h0:65<=a)(hab:a<=b)(h1:b<=122)(hd1:-32<=d)(hd2:d<=32) :
  Calls Tryz.prog 171 #[v,.agg #[.I a,.I b],.I d] w fun e w'=>∃ v' D,e=.returned v'/\RR w.heap.size w' v' D/\Fit D/\(∀ c,In D c↔In L (c-d)/\a<=c-d/\c-d<=b)/\D.length<=L.length+1/\wBl w w':=by
 have H:Hid (ArgR w v L/\Fit L):=⟨h,hF⟩;have FB:Hid (Fit [(a,b)]):=pB (by omega);have B2:Hid (wBl w ((w.alloc (.cells #[.I a,.I b] 92)).alloc (.cells #[.I a,.I b] 92))):=(bz9).alloc (by simp) _;have AB:Hid (ArgR ((w.alloc (.cells #[.I a,.I b] 92)).alloc (.cells #[.I a,.I b] 92)) (.slice (some ⟨w.heap.size+1,0,none⟩) 1 1) [(a,b)]):=aC <| by
  have:RR w.heap.size ((w.alloc (.cells #[.I a,.I b] 92)).alloc (.cells #[.I a,.I b] 92)) (.slice (some ⟨(w.alloc (.cells #[.I a,.I b] 92)).heap.size,0,none⟩) 1 1) [(a,b)]:=World.ownsRow_lit _ #[.I a,.I b] 1 (by simp) (by unfold maxLen;omega) rfl;simpa using this.arg
 clear h hF;go_enter Tryz.func171,Tryz.ntmps171;go_wp2_with (go_at_call 179;refine(bY5 (H.o.1.kept B2.o) AB.o H.o.2 FB.o (by simp;omega)).mono ?_;rintro e w5 ⟨v5,C,rfl,p1,p2,p3,p4⟩;obtain⟨q5,c5,rfl⟩:=p1.shape;have X5:Hid (RR w.heap.size w5 (.slice q5 C.length c5) C/\IsC C (fun c=>In L c/\In [(a,b)] c)/\C.length<=L.length+1/\wBl w w5):=⟨p1.mono B2.o.size,p2,p3,aJ B2.o p4 lz9⟩;clear p1 p2 p3 p4)
 have hcl:=X5.o.2.2.1;have BD:Hid (∀ (i:Nat) (r:Int×Int),C[i]?=some r->(a<=r.1/\r.1<=b)/\(a<=r.2/\r.2<=b)):=fun i r hr=>by
  have hm:=n7 hr;have hs:=X5.o.2.1.cls.some r hm;have p:=((X5.o.2.1.mem r.1).1 ⟨r,hm,aAH _,hs⟩).2;have q:=((X5.o.2.1.mem r.2).1 ⟨r,hm,hs,aAH _⟩).2;rw [eD] at p q;exact⟨p,q⟩
 go_loopw [15] (fun i wr=>∃ k:Nat,k<=C.length/\i=.I k/\RR w.heap.size wr (.slice q5 C.length c5) (shK C k d)/\wBl w wr) (fun i _=>C.length-(intOf i).toNat)
 case atStart=>exact⟨0,o9 _,rfl,by rw [aX5];exact X5.o.1,X5.o.2.2.2⟩
 case round=>
  obtain⟨k,hk,rfl,hrr,hb⟩:=hrel;have RK:Hid (RR w.heap.size wr (.slice q5 C.length c5) (shK C k d)):=hrr;have B:Hid (wBl w wr):=hb;clear hrr hb;by_cases hlt:k<C.length
  ·obtain⟨r,hr⟩:∃ r,C[k]?=some r:=⟨_,i9 hlt⟩;have hbd:=BD.o k r hr;have OW:Hid (wr.ownsRow w.heap.size 92 2 (.slice q5 C.length c5) C.length (aT (shK C k d))):=aC (by have:=RK.o;unfold RR at this;rwa [sK] at this);obtain⟨g,c',e⟩:=aL OW.o (by omega);cases e;obtain⟨z1,z2⟩:=iQ _ k r (bI8 hr d);have d1:=aM OW.o z1;have d2:=aM OW.o z2;rw [aAU] at d1 d2;have f1:=OW.o.frozenAt (k*2);have f2:=OW.o.frozenAt (k*2+1);have O2:Hid ((((wr.setCell ⟨g,k*2,none⟩ (.I (r.1+d))).setCell ⟨g,k*2+1,none⟩ (.I (r.2+d)))).ownsRow w.heap.size 92 2 (.slice (some (aDr g 0)) C.length c5) C.length (aT (shK C (k+1) d))):=aC (by
    have:=((OW.o.stored (k*2) (.I (r.1+d))).1.stored (k*2+1) (.I (r.2+d))).1;rwa [tK,bI7 hr] at this)
   have hgb:=(aF OW.o rfl).1;have hgs:=(aF OW.o rfl).2.1;have FB2:Hid (wBl w ((wr.setCell ⟨g,k*2,none⟩ (.I (r.1+d))).setCell ⟨g,k*2+1,none⟩ (.I (r.2+d)))):=(B.o.setCell (p:=⟨g,k*2,none⟩) hgb _).setCell (p:=⟨g,k*2+1,none⟩) hgb _;obtain⟨r1,r2⟩:=r;dsimp only at d1 d2 hbd;have w1:IntKind.wrap .i64 (r1+d)=r1+d:=(by rw [IntKind.wrap_i64];omega);have w2:IntKind.wrap .i64 (r2+d)=r2+d:=(by rw [IntKind.wrap_i64];omega);have i0:(0:Int)<=(k:Int):=(by omega);have i1:(k:Int)<(C.length:Int):=(by omega);clear z1 z2 hr hbd;go_wp2;go_roundw
   case rel=>exact⟨k+1,by omega,by go_num,aY1 O2.o (sK C (k+1) d),FB2.o⟩
   case measure=>simp [intOf];omega
  ·have i1:¬ (k:Int)<(C.length:Int):=by omega
   obtain rfl:k=C.length:=by omega
   rw [bI9] at RK;go_wp2;go_ret;refine⟨_,rfl,_,RK.o,fun r hr=>?_,fun c=>?_,by simp;omega,B.o⟩
   ·obtain⟨x,hx,e⟩:=aAI.1 hr;subst e;obtain⟨i,hi⟩:=List.getElem?_of_mem hx;have:=BD.o i x hi;simp only;omega
   ·rw [kJ,X5.o.2.1.mem,eD]
section
attribute [local go_sem] aS
theorem nZ{A B:lIi}{k:Nat}{a b:Int×Int}(ha:A[k]?=some a)(hb:B[k]?=some b)(h:A.take k=B.take k):A.take (k+1)=B.take (k+1)↔a=b:=by
 obtain⟨h1,rfl⟩:=m7.1 ha;obtain⟨h2,rfl⟩:=m7.1 hb;rw [dN A k h1,dN B k h2,h];simp only [List.append_cancel_left_eq,List.cons.injEq,and_true]
theorem aM2{w:World}{va vb:Value}{A B:lIi}(ha:ArgR w va A)(hb:ArgR w vb B) :
  Calls Tryz.prog 168 #[va,vb] w fun e w'=>e=.returned (.bool (decide (A=B)))/\wBl w w':=by
 obtain⟨q1,cap1,rfl,hl1,-,hc1⟩:=ha.slice;obtain⟨q2,cap2,rfl,hl2,-,hc2⟩:=hb.slice;have HC1:Hid (∀ (i:Nat) (r:Int×Int),A[i]?=some r->∃ g off,q1=some (aDr g off)/\g<w.heap.size/\w.cell? ⟨g,off+2*i,none⟩=some (.I r.1)/\w.cell? ⟨g,off+2*i+1,none⟩=some (.I r.2)):=hc1;have HC2:Hid (∀ (i:Nat) (r:Int×Int),B[i]?=some r->∃ g off,q2=some (aDr g off)/\g<w.heap.size/\w.cell? ⟨g,off+2*i,none⟩=some (.I r.1)/\w.cell? ⟨g,off+2*i+1,none⟩=some (.I r.2)):=hc2;clear hc1 hc2 ha hb;unfold maxLen at hl1 hl2;by_cases hne:A.length=B.length
 ·have HNE:Hid (A.length=B.length):=hne;rw [<- hne];have b1:(((A.length:Nat):Int) != ((A.length:Nat):Int))=false:=by simp
  clear hne hl2;go_enter Tryz.func168,Tryz.ntmps168;go_wp2;go_loopw [13] (fun i wr=>∃ k:Nat,k<=A.length/\i=.I k/\A.take k=B.take k/\wBl w wr) (fun i _=>A.length-(intOf i).toNat)
  case atStart=>exact⟨0,o9 _,rfl,by simp,Below.refl _ _⟩
  case round=>
   obtain⟨k,hk,rfl,ht,hbl⟩:=hrel;have HT:Hid (A.take k=B.take k):=ht;have BW:Hid (wBl w wr):=hbl;clear ht hbl;by_cases hlt:k<A.length
   ·obtain⟨a,ea⟩:∃ r,A[k]?=some r:=⟨_,i9 hlt⟩;obtain⟨b,eb⟩:∃ r,B[k]?=some r:=⟨_,i9 (by have:=HNE.o;omega)⟩;obtain⟨g1,o1,rfl,hg1,x1,x2⟩:=HC1.o k _ ea;obtain⟨g2,o2,rfl,hg2,y1,y2⟩:=HC2.o k _ eb;have d1:=(BW.o.cell (p:=⟨g1,o1+2*k,none⟩) hg1).trans x1;have d2:=(BW.o.cell (p:=⟨g1,o1+2*k+1,none⟩) hg1).trans x2;have d3:=(BW.o.cell (p:=⟨g2,o2+2*k,none⟩) hg2).trans y1;have d4:=(BW.o.cell (p:=⟨g2,o2+2*k+1,none⟩) hg2).trans y2;rw [aAU] at d1 d2 d3 d4;have s1:g1<wr.heap.size:=n9 hg1 BW.o.size;have s2:g2<wr.heap.size:=n9 hg2 BW.o.size;have NX:Hid (A.take (k+1)=B.take (k+1)↔a=b):=nZ ea eb HT.o;have NE:Hid (a≠b->¬ A=B):=fun q e=>by subst e;rw [ea] at eb;exact q (t6 eb)
    have i0:(0:Int)<=(k:Int):=(by omega);have i1:(k:Int)<(A.length:Int):=(by omega);obtain⟨a1,a2⟩:=a;obtain⟨b1',b2⟩:=b;dsimp only at d1 d2 d3 d4;clear x1 x2 y1 y2 ea eb;by_cases e1:a1=b1'
    ·by_cases e2:a2=b2
     ·subst e1 e2;have f1:(a1==a1)=true:=(by simp);have f2:(a2==a2)=true:=(by simp);have NX2:Hid (A.take (k+1)=B.take (k+1)):=NX.o.2 rfl;clear NX NE;go_wp2;refine wx9 ?_
      repeat (go_big_quiet_step (first | exact rfl))
      refine wpQuiet_nil ?_;intro w7 hw7;have B7:Hid (wBl wr w7):=aP hw7;clear hw7;go_wp2;go_roundw
      case rel=>exact⟨k+1,by omega,by go_num,NX2.o,aJ BW.o B7.o lz9⟩
      case measure=>simp [intOf];omega
     ·subst e1;have f1:(a1==a1)=true:=(by simp);have f2:(a2==b2)=false:=(by simp [e2]);have N2:Hid (decide (A=B)=false):=t5 (NE.o (fun q=>e2 (Prod.mk.inj q).2));clear NX NE;go_wp2;refine wx9 ?_
      repeat (go_big_quiet_step (first | exact rfl))
      refine wpQuiet_nil ?_;intro w7 hw7;have B7:Hid (wBl wr w7):=aP hw7;clear hw7;go_wp2;go_ret;exact⟨by rw [N2.o];rfl,aJ BW.o B7.o lz9⟩
    ·have f1:(a1==b1')=false:=by simp [e1]
     have N2:Hid (decide (A=B)=false):=t5 (NE.o (fun q=>e1 (Prod.mk.inj q).1));clear NX NE;go_wp2;refine wx9 ?_
     repeat (go_big_quiet_step (first | exact rfl))
     refine wpQuiet_nil ?_;intro w7 hw7;have B7:Hid (wBl wr w7):=aP hw7;clear hw7;go_wp2;go_ret;exact⟨by rw [N2.o];rfl,aJ BW.o B7.o lz9⟩
   ·have i1:¬ (k:Int)<(A.length:Int):=by omega
    have EE:Hid (decide (A=B)=true):=aAR (by
     have e:=HT.o;rw [n8 (by omega),n8 (by have:=HNE.o;omega)] at e;exact e)
    go_wp2;go_ret;exact⟨by rw [EE.o];rfl,BW.o⟩
 ·have EE:Hid (decide (A=B)=false):=t5 (fun e=>hne (by rw [e]));have b1:(((A.length:Nat):Int) != ((B.length:Nat):Int))=true:=by simp;omega
  go_enter Tryz.func168,Tryz.ntmps168;go_wp2;go_ret;exact⟨by rw [EE.o];rfl,Below.refl _ _⟩
end
def mX(L:lIi)(c:Int):Prop:=In L c\/(In L (c-32)/\65<=c-32/\c-32<=90)\/(In L (c+32)/\97<=c+32/\c+32<=122)
theorem aD3{w:World}{va vb vc:Value}{A B C:lIi}(ha:ArgR w va A)(hb:ArgR w vb B)(hc:ArgR w vc C)(t:TypeId):∀ (i:Nat) (p:Value×lIi),[(va,A),(vb,B),(vc,C)][i]?=some p->(w.alloc (.cells #[va,vb,vc] t)).cell? (aDr w.heap.size i)=some p.1/\ArgR (w.alloc (.cells #[va,vb,vc] t)) p.1 p.2:=by
 have B1:wBl w (w.alloc (.cells #[va,vb,vc] t)):=bz9;intro i p hp
 match i,hp with
 | 0,hp=>simp at hp;subst hp;exact⟨aA (aE w _) (i:=0) rfl,ha.kept B1⟩
 | 1,hp=>simp at hp;subst hp;exact⟨aA (aE w _) (i:=1) rfl,hb.kept B1⟩
 | 2,hp=>simp at hp;subst hp;exact⟨aA (aE w _) (i:=2) rfl,hc.kept B1⟩
theorem bN5{w:World}{va vb vc:Value}{A B C:lIi}(ha:ArgR w va A)(hb:ArgR w vb B)(hc:ArgR w vc C)(hl:A.length+B.length+C.length+1<=8796093022208) :
  Calls Tryz.prog 172 #[.slice (some (aDr w.heap.size 0)) 3 3] (w.alloc (.cells #[va,vb,vc] 22)) fun e w'=>∃ v,e=.returned v/\RR w.heap.size w' v (A++(B++C))/\wBl w w':=
 (bE3 (V:=[(va,A),(vb,B),(vc,C)]) (m:=3) rfl (aD3 ha hb hc 22) (by simp) (by omega) (by simp [iC];omega)).mono fun e w' ⟨v,h1,h2,h3⟩=>⟨v,h1,by have:=h2.mono (base':=w.heap.size) (by simp);simpa [iC] using this,aJ (bz9) h3 lz9⟩
theorem bV3{w:World}{v:Value}{L:lIi}(h:ArgR w v L)(hF:Fit L)(hl:3*L.length+9<=8796093022208) :
  Calls Tryz.prog 157 #[v] w (xT w (mX L) (3*L.length+2)):=by
 obtain⟨q1,k1,e1,-,-,-⟩:=h.slice;subst e1;have H:Hid (ArgR w (.slice q1 L.length k1) L/\Fit L):=⟨h,hF⟩;have hl1:L.length+2<=8796093022208:=by omega
 clear h hF;go_enter Tryz.func157,Tryz.ntmps157;go_wp2_with first
  |(have hx:=X5.o;clear hx;go_at_call 171;have hih:=aK8 (a:=97) (b:=122) (d:=-32) (H.o.1.kept X5.o.2.2.2.2) H.o.2 hl1 (by omega) (by omega) (by omega) (by omega) (by omega);refine hih.mono ?_;clear hih;rintro e w6 ⟨v6,D6,rfl,h1,h2,h3,h4,h5⟩;obtain⟨q6,c6,rfl⟩:=h1.shape;have X6:Hid (RR w5.heap.size w6 (.slice q6 D6.length c6) D6/\Fit D6/\(∀ c,In D6 c↔In L (c - -32)/\97<=c - -32/\c - -32<=122)/\D6.length<=L.length+1/\wBl w5 w6):=⟨h1,h2,h3,h4,h5⟩;clear h1 h2 h3 h4 h5)
  |(go_at_call 171;have hih:=aK8 (a:=65) (b:=90) (d:=32) H.o.1 H.o.2 hl1 (by omega) (by omega) (by omega) (by omega) (by omega);refine hih.mono ?_;clear hih;rintro e w5 ⟨v5,D5,rfl,h1,h2,h3,h4,h5⟩;obtain⟨q5,c5,rfl⟩:=h1.shape;have X5:Hid (RR w.heap.size w5 (.slice q5 D5.length c5) D5/\Fit D5/\(∀ c,In D5 c↔In L (c-32)/\65<=c-32/\c-32<=90)/\D5.length<=L.length+1/\wBl w w5):=⟨h1,h2,h3,h4,h5⟩;clear h1 h2 h3 h4 h5)
  |(go_at_call 172;refine(bN5 ((H.o.1.kept X5.o.2.2.2.2).kept X6.o.2.2.2.2) (X5.o.1.kept X6.o.2.2.2.2).arg X6.o.1.arg (by have:=X5.o.2.2.2.1;have:=X6.o.2.2.2.1;omega)).mono ?_;rintro e w7 ⟨v7,rfl,h1,h2⟩;have X7:Hid (RR w6.heap.size w7 v7 (L++(D5++D6))/\wBl w6 w7):=⟨h1,h2⟩;clear h1 h2)
  |(go_at_call 170;refine(iF X7.o.1.arg (dT H.o.2 (dT X5.o.2.1 X6.o.2.1)) (by have:=X5.o.2.2.2.1;have:=X6.o.2.2.2.1;simp;omega)).mono ?_;rintro e w8 ⟨v8,C8,rfl,h1,h2,h3,h4⟩;have X8:Hid (RR w7.heap.size w8 v8 C8/\IsC C8 (In (L++(D5++D6)))/\C8.length<=(L++(D5++D6)).length/\wBl w7 w8):=⟨h1,h2,h3,h4⟩;clear h1 h2 h3 h4)
 go_ret;have B7:=aJ (aJ X5.o.2.2.2.2 X6.o.2.2.2.2 lz9) X7.o.2 lz9;refine⟨_,_,rfl,X8.o.1.mono B7.size,X8.o.2.1.to fun c=>?_,?_,aJ B7 X8.o.2.2.2 lz9⟩
 ·rw [bZ,bZ,X5.o.2.2.1,X6.o.2.2.1];unfold mX;rw [show c - -32=c+32 by omega]
 ·have:=X8.o.2.2.1;have:=X5.o.2.2.2.1;have:=X6.o.2.2.2.1;simp at *;omega
theorem bS6{w:World}{va vb:Value}{A B:lIi}(ha:ArgR w va A)(hb:ArgR w vb B)(fa:Fit A)(fb:Fit B)(hl1:A.length<=8796093022208)(hl2:B.length<=8796093022208) :
  Calls Tryz.prog 156 #[va,vb] w fun e w'=>∃ b:Bool,e=.returned (.bool b)/\(b=true ↔ ∀ c,In A c↔In B c)/\wBl w w':=by
 have H:Hid (ArgR w va A/\Fit A):=⟨ha,fa⟩;have K:Hid (ArgR w vb B/\Fit B):=⟨hb,fb⟩;clear ha hb fa fb;go_enter Tryz.func156,Tryz.ntmps156;go_wp2_with first
  |(have hx:=X5.o;clear hx;go_at_call 170;have hih:=iF (K.o.1.kept X5.o.2.2.2) K.o.2 hl2;refine hih.mono ?_;clear hih;rintro e w6 ⟨v6,C6,rfl,h1,h2,h3,h4⟩;have X6:Hid (RR w5.heap.size w6 v6 C6/\IsC C6 (In B)/\C6.length<=B.length/\wBl w5 w6):=⟨h1,h2,h3,h4⟩;clear h1 h2 h3 h4)
  |(go_at_call 170;refine(iF H.o.1 H.o.2 hl1).mono ?_;rintro e w5 ⟨v5,C5,rfl,h1,h2,h3,h4⟩;have X5:Hid (RR w.heap.size w5 v5 C5/\IsC C5 (In A)/\C5.length<=A.length/\wBl w w5):=⟨h1,h2,h3,h4⟩;clear h1 h2 h3 h4)
  |(go_at_call 168;refine(aM2 (X5.o.1.kept X6.o.2.2.2).arg X6.o.1.arg).mono ?_;obtain⟨bb,hbb⟩:∃ bb,decide (C5=C6)=bb:=⟨_,rfl⟩;rw [hbb];have EB:Hid (decide (C5=C6)=bb):=hbb;clear hbb;rintro e w7 ⟨rfl,h1⟩;have X7:Hid (wBl w6 w7):=h1;clear h1)
 go_ret;refine⟨bb,rfl,?_,aJ (aJ X5.o.2.2.2 X6.o.2.2.2 lz9) X7.o lz9⟩;rw [<- EB.o,decide_eq_true_iff];constructor
 ·intro e c;rw [<- X5.o.2.1.mem,<- X6.o.2.1.mem,e]
 ·intro e;exact X5.o.2.1.one X6.o.2.1 e
theorem aI8{w:World}{v:Value}{L:lIi}{m:Bool}(h:ArgR w v L)(hF:Fit L)(hl:L.length+3<=8796093022208) :
  Calls Tryz.prog 155 #[v,.bool m] w fun e w'=>∃ b:Bool,e=.returned (.bool b)/\(b=true↔IsC L (fun c=>In L c/\bP m c))/\wBl w w':=by
 have H:Hid (ArgR w v L/\Fit L):=⟨h,hF⟩;clear h hF;go_enter Tryz.func155,Tryz.ntmps155;go_wp2_with first
  |(go_at_call 169;refine(bU2 H.o.1 H.o.2 hl).mono ?_;rintro e w5 ⟨v5,C5,rfl,h1,h2,h3,h4⟩;have X5:Hid (RR w.heap.size w5 v5 C5/\IsC C5 (fun c=>In L c/\bP m c)/\C5.length<=L.length+2/\wBl w w5):=⟨h1,h2,h3,h4⟩;clear h1 h2 h3 h4)
  |(go_at_call 168;refine(aM2 (H.o.1.kept X5.o.2.2.2) X5.o.1.arg).mono ?_;obtain⟨bb,hbb⟩:∃ bb,decide (L=C5)=bb:=⟨_,rfl⟩;rw [hbb];have EB:Hid (decide (L=C5)=bb):=hbb;clear hbb;rintro e w7 ⟨rfl,h1⟩;have X7:Hid (wBl w5 w7):=h1;clear h1)
 go_ret;refine⟨bb,rfl,?_,aJ X5.o.2.2.2 X7.o lz9⟩;rw [<- EB.o,decide_eq_true_iff];constructor
 ·intro e;have h2:=X5.o.2.1;rw [<- e] at h2;exact h2
 ·intro e;exact e.one X5.o.2.1 fun _=>Iff.rfl
section
attribute [local go_sem] aS
def nM(L:lIi)(c:Int):Bool:=L.any fun r=>decide (r.1<=c)&&decide (c<=r.2)
theorem bB5(L:lIi)(c:Int):nM L c=true↔In L c:=by
 simp [nM,In]
theorem vH{L:lIi}{k:Nat}{r:Int×Int}(h:L[k]?=some r)(c:Int):nM (L.take (k+1)) c=(nM (L.take k) c ||(decide (r.1<=c)&&decide (c<=r.2))):=by
 obtain⟨hk,rfl⟩:=m7.1 h;rw [dN L k hk];unfold nM;rw [List.any_append];simp only [List.any_cons,List.any_nil,Bool.or_false]
theorem aG3{L:lIi}{k:Nat}{r:Int×Int}{c:Int}(h:L[k]?=some r)(h1:r.1<=c)(h2:c<=r.2):nM L c=true:=(bB5 L c).2 ⟨r,n7 h,h1,h2⟩
end
theorem aT4{m:Bool}{c:Int}(h:bP m c):0<=c/\c<1114112:=by
 obtain⟨h1,h2,_⟩:=h;unfold top at h2
 split at h2 <;> omega
theorem aM6:∀ (C:lIi) (lo hi:Int),Cls C->(∀ c,In C c->lo<=c/\c<=hi)->C=[]\/2*(C.length:Int)<=hi-lo+2
 | [],_,_,_,_=>.inl rfl
 | r :: C,lo,hi,h,hb=>by
  have hr:=fU h;have b1:=hb r.1 ((cH ..).2 (.inl ⟨aAH _,hr⟩));have b2:=hb r.2 ((cH ..).2 (.inl ⟨hr,aAH _⟩));refine .inr ?_;rcases aM6 C (r.2+2) hi (lS h) (fun c hc=>⟨by have:=eB h hc;omega,(hb c ((cH ..).2 (.inr hc))).2⟩) with rfl | q
  ·simp;omega
  ·simp;omega
theorem bE8{C:lIi}{p:Int->Prop}{m:Bool}(h:IsC C p)(hc:∀ c,p c->bP m c):C.length<=600000:=by
 rcases aM6 C 0 1114111 h.cls (fun c q=>by have:=aT4 (hc c ((h.mem c).1 q));omega) with rfl | q
 ·simp
 ·omega
section
attribute [local go_sem] aS
def nD(c f:Bool)(L:lIi):Prop:=IsC L (fun x=>In L x/\bP c x)/\(f=true->∀ x,In L x↔mX L x)
theorem oF{c:Bool}{L:lIi}(h:IsC L (fun x=>In L x/\bP c x)):L.length<=600000:=bE8 (m:=c) h (fun _ q=>q.2)
theorem sM{w:World}{q:Option Addr}{k:Nat}{L:lIi}(c f:Bool)(h:ArgR w (.slice q L.length k) L)(hF:Fit L)(hl:L.length+3<=8796093022208) :
  Calls Tryz.prog 128 #[.slice q L.length k,.agg #[.bool c,.bool f]] w fun e w'=>∃ r:Bool,e=.returned (.bool r)/\(r=true↔nD c f L)/\wBl w w':=by
 have H:=aC h;have B1:Hid (wBl w (w.alloc (.cells #[.bool c,.bool f] 27))):=bz9;have N1:=aE w (.cells #[.bool c,.bool f] 27);have m0:(w.alloc (.cells #[.bool c,.bool f] 27)).cell? (aDr w.heap.size 0)=some (.bool c):=aA N1 (i:=0) rfl;clear h;by_cases hc:IsC L (fun x=>In L x/\bP c x)
 ·have hlen:=oF hc;have HC:=aC hc;have HR:Hid (∀ W:World,wBl w W->Calls Tryz.prog 155 #[.slice q L.length k,.bool c] W fun e w'=>e=.returned (.bool true)/\wBl W w'):=fun W hW=>(aI8 (m:=c) (H.o.kept hW) hF hl).mono fun e w' ⟨b,h1,h2,h3⟩=>⟨by rw [h1,h2.2 HC.o],h3⟩;clear hc
  cases f with
  | false=>
   go_enter Tryz.func128,Tryz.ntmps128;go_wp2_with (go_at_call 155;(with_reducible refine(HR.o _ B1.o).mono ?_);rintro e w2 ⟨rfl,h2⟩;have B2:Hid (wBl w w2):=aJ B1.o h2 lz9;have m1:w2.cell? (aDr w.heap.size 1)=some (.bool false):=(h2.cell (p:=(aDr w.heap.size 1)) (aB N1)).trans (aA N1 (i:=1) rfl);clear h2)
   go_ret;exact⟨true,rfl,by simp [nD,HC.o],B2.o⟩
  | true=>
   go_enter Tryz.func128,Tryz.ntmps128;go_wp2_with first |(go_at_call 155;(with_reducible refine(HR.o _ B1.o).mono ?_);rintro e w2 ⟨rfl,h2⟩;have B2:Hid (wBl w w2):=aJ B1.o h2 lz9;have m1:w2.cell? (aDr w.heap.size 1)=some (.bool true):=(h2.cell (p:=(aDr w.heap.size 1)) (aB N1)).trans (aA N1 (i:=1) rfl);clear h2) |(go_at_call 157;(with_reducible refine(bV3 (H.o.kept B2.o) hF (by omega)).mono ?_);rintro e w3 ⟨v3,C3,rfl,h31,h32,h33,h34⟩;obtain⟨q3,c3,rfl⟩:=h31.shape;have X3:Hid (RR w2.heap.size w3 (.slice q3 C3.length c3) C3/\IsC C3 (mX L)/\C3.length<=3*L.length+2/\wBl w w3):=⟨h31,h32,h33,aJ B2.o h34 lz9⟩;clear h31 h32 h33 h34) |(go_at_call 156;(with_reducible refine(bS6 (H.o.kept X3.o.2.2.2) X3.o.1.arg hF X3.o.2.1.fit (by omega) (by have:=X3.o.2.2.1;omega)).mono ?_);rintro e w4 ⟨r4,rfl,h41,h42⟩;have X4:Hid ((r4=true ↔ ∀ x,In L x↔In C3 x)/\wBl w w4):=⟨h41,aJ X3.o.2.2.2 h42 lz9⟩;clear h41 h42)
   go_ret;refine⟨r4,rfl,?_,X4.o.2⟩;rw [X4.o.1];unfold nD;constructor
   ·intro h;exact⟨HC.o,fun _ x=>(h x).trans (X3.o.2.1.mem x)⟩
   ·intro h x;exact(h.2 rfl x).trans (X3.o.2.1.mem x).symm
 ·have HC:=aC hc;have HR:Hid (∀ W:World,wBl w W->Calls Tryz.prog 155 #[.slice q L.length k,.bool c] W fun e w'=>e=.returned (.bool false)/\wBl W w'):=fun W hW=>(aI8 (m:=c) (H.o.kept hW) hF hl).mono fun e w' ⟨b,h1,h2,h3⟩=>⟨by
   cases b with
   | false=>exact h1
   | true=>exact absurd (h2.1 rfl) HC.o,h3⟩
  clear hc;go_enter Tryz.func128,Tryz.ntmps128;go_wp2_with (go_at_call 155;(with_reducible refine(HR.o _ B1.o).mono ?_);rintro e w2 ⟨rfl,h2⟩;have B2:Hid (wBl w w2):=aJ B1.o h2 lz9;clear h2)
  go_ret;exact⟨false,rfl,by simp [nD,HC.o],B2.o⟩
def bD(c f:Bool)(g:Int)(F:Fl):Prop:=
 if F.k=2 then nD c f F.rs/\F.n=0/\F.mn=0/\F.mx=0
 else if F.k=7 then F.n=g/\F.mn=0/\F.mx=0/\F.rs.length=0
 else if F.k=8 then (1<=F.n/\F.n<=9)/\F.mn=0/\F.mx=0/\F.rs.length=0
 else if F.k=9 then fI F.mn F.mx=true/\F.n=0/\F.rs.length=0
 else F.n=0/\F.mn=0/\F.mx=0/\F.rs.length=0
theorem pO{n:Nat}{w W:World}(h:Below n w W){b:Nat}(hb:n<=b)(j:Nat)(u:Value)(hn:n<=w.heap.size):Below n w (W.setCell (aDr b j) u):=
 bB h (S:=fun z=>z=b) ((Fr.refl (fun z=>z=b) W).setCell (p:=(aDr b j)) rfl u) hn (fun k e=>by omega)
theorem uG{w:World}(F:Fl)(c f:Bool)(g:Int)(h:ArgR w (.slice F.rq F.rs.length F.rc) F.rs)(hF:Fit F.rs)(hl:F.rs.length+3<=8796093022208) :
  Calls Tryz.prog 102 #[.agg (nDf F),.agg #[.bool c,.bool f],.I g] w fun e w'=>∃ r:Bool,e=.returned (.bool r)/\(r=true↔bD c f g F)/\wBl w w':=by
 obtain⟨r,hr⟩:∃ r:Bool,r=true↔bD c f g F:=⟨@decide (bD c f g F) (Classical.propDecidable _),by simp⟩
 suffices hs:Calls Tryz.prog 102 #[.agg (nDf F),.agg #[.bool c,.bool f],.I g] w fun e w'=>e=.returned (.bool r)/\wBl w w' from hs.mono fun e w' ⟨h1,h2⟩=>⟨r,h1,hr,h2⟩
 have HR:=aC hr;clear hr;have B1:Hid (wBl w ((w.alloc (.cells (nDf F) 25)).alloc (.cells #[.bool c,.bool f] 27))):=(bz9).alloc (by simp) _;have N1:Hid (BoxN ((w.alloc (.cells (nDf F) 25)).alloc (.cells #[.bool c,.bool f] 27)) w.heap.size F):=(Below.heap_alloc _ _ _ (by simp)).trans (aE w _);have M1:Hid (((w.alloc (.cells (nDf F) 25)).alloc (.cells #[.bool c,.bool f] 27)).heap[w.heap.size+1]?=some (.cells #[.bool c,.bool f] 27 (0,0))):=(by
  have:=aE (w.alloc (.cells (nDf F) 25)) (.cells #[.bool c,.bool f] 27);rwa [f4] at this)
 have H:=aC h;obtain⟨k,n,mn,mx,rs,rq,rc,kq,kl,kc⟩:=F;dsimp only at *;have m0:((w.alloc (.cells #[.I k,.I n,.I mn,.I mx,.slice rq rs.length rc,.slice kq kl kc] 25)).alloc (.cells #[.bool c,.bool f] 27)).cell? ⟨w.heap.size+1,0,none⟩=some (.bool c):=aA M1.o (i:=0) rfl;have m1:((w.alloc (.cells #[.I k,.I n,.I mn,.I mx,.slice rq rs.length rc,.slice kq kl kc] 25)).alloc (.cells #[.bool c,.bool f] 27)).cell? ⟨w.heap.size+1,1,none⟩=some (.bool f):=aA M1.o (i:=1) rfl;obtain⟨c0,c1,c2,c3,c4,c5⟩:=N1.o.six;simp only [m9] at c1 c2 c3 c4 c5;have fz:=fun j=>aG N1.o j;have ln:=aB N1.o;clear h;by_cases k2:k=2
 ·subst k2;by_cases z0:nD c f rs
  ·have HS:Hid (∀ W:World,wBl w W->Calls Tryz.prog 128 #[.slice rq rs.length rc,.agg #[.bool c,.bool f]] W fun e w'=>e=.returned (.bool true)/\wBl W w'):=fun W hW=>(sM c f (H.o.kept hW) hF hl).mono fun e w' ⟨b,h1,h2,h3⟩=>⟨by rw [h1];cases b <;> simp_all,h3⟩
   by_cases z1:n=0
   ·subst z1;by_cases z2:mn=0
    ·subst z2;by_cases z3:mx=0
     ·subst z3;have R:r=true:=HR.o.2 (by unfold bD;simp_all);subst R;go_enter Tryz.func102,Tryz.ntmps102;go_wp2_with (go_at_call 128;(with_reducible refine(HS.o _ B1.o).mono ?_);rintro e w2 ⟨rfl,h2⟩;have B2:Hid (wBl w (w2.setCell (aDr w.heap.size 4) (.slice none 0 0))):=pO (aJ B1.o h2 lz9) lz9 _ _ lz9;have N2:BoxN w2 w.heap.size _:=(h2.block _ (aB N1.o)).trans N1.o;obtain⟨d0,d1,d2,d3,d4,d5⟩:=N2.six;simp only [m9] at d1 d2 d3 d4 d5;have gz:=aG N2 4;have p1:=aI (j:=4) (u:=.slice none 0 0) d1 (by decide);have p2:=aI (j:=4) (u:=.slice none 0 0) d2 (by decide);have p3:=aI (j:=4) (u:=.slice none 0 0) d3 (by decide);have p4:=aAB w2 (aDr w.heap.size 4) (.slice none 0 0) d4;have ln2:=aB N2;clear h2 N2)
      go_ret;exact⟨rfl,B2.o⟩
     ·have R:r=false:=(by cases r with | false=>rfl | true=>exact absurd (HR.o.1 rfl) (by unfold bD;simp_all <;> omega))
      subst R;have ez3:(mx==0)=false:=(by simpa using z3);go_enter Tryz.func102,Tryz.ntmps102;go_wp2_with (go_at_call 128;(with_reducible refine(HS.o _ B1.o).mono ?_);rintro e w2 ⟨rfl,h2⟩;have B2:Hid (wBl w (w2.setCell (aDr w.heap.size 4) (.slice none 0 0))):=pO (aJ B1.o h2 lz9) lz9 _ _ lz9;have N2:BoxN w2 w.heap.size _:=(h2.block _ (aB N1.o)).trans N1.o;obtain⟨d0,d1,d2,d3,d4,d5⟩:=N2.six;simp only [m9] at d1 d2 d3 d4 d5;have gz:=aG N2 4;have p1:=aI (j:=4) (u:=.slice none 0 0) d1 (by decide);have p2:=aI (j:=4) (u:=.slice none 0 0) d2 (by decide);have p3:=aI (j:=4) (u:=.slice none 0 0) d3 (by decide);have p4:=aAB w2 (aDr w.heap.size 4) (.slice none 0 0) d4;have ln2:=aB N2;clear h2 N2)
      go_ret;exact⟨rfl,B2.o⟩
    ·have R:r=false:=(by cases r with | false=>rfl | true=>exact absurd (HR.o.1 rfl) (by unfold bD;simp_all <;> omega))
     subst R;have ez2:(mn==0)=false:=(by simpa using z2);go_enter Tryz.func102,Tryz.ntmps102;go_wp2_with (go_at_call 128;(with_reducible refine(HS.o _ B1.o).mono ?_);rintro e w2 ⟨rfl,h2⟩;have B2:Hid (wBl w (w2.setCell (aDr w.heap.size 4) (.slice none 0 0))):=pO (aJ B1.o h2 lz9) lz9 _ _ lz9;have N2:BoxN w2 w.heap.size _:=(h2.block _ (aB N1.o)).trans N1.o;obtain⟨d0,d1,d2,d3,d4,d5⟩:=N2.six;simp only [m9] at d1 d2 d3 d4 d5;have gz:=aG N2 4;have p1:=aI (j:=4) (u:=.slice none 0 0) d1 (by decide);have p2:=aI (j:=4) (u:=.slice none 0 0) d2 (by decide);have p3:=aI (j:=4) (u:=.slice none 0 0) d3 (by decide);have p4:=aAB w2 (aDr w.heap.size 4) (.slice none 0 0) d4;have ln2:=aB N2;clear h2 N2)
     go_ret;exact⟨rfl,B2.o⟩
   ·have R:r=false:=(by cases r with | false=>rfl | true=>exact absurd (HR.o.1 rfl) (by unfold bD;simp_all <;> omega))
    subst R;have ez1:(n==0)=false:=(by simpa using z1);go_enter Tryz.func102,Tryz.ntmps102;go_wp2_with (go_at_call 128;(with_reducible refine(HS.o _ B1.o).mono ?_);rintro e w2 ⟨rfl,h2⟩;have B2:Hid (wBl w (w2.setCell (aDr w.heap.size 4) (.slice none 0 0))):=pO (aJ B1.o h2 lz9) lz9 _ _ lz9;have N2:BoxN w2 w.heap.size _:=(h2.block _ (aB N1.o)).trans N1.o;obtain⟨d0,d1,d2,d3,d4,d5⟩:=N2.six;simp only [m9] at d1 d2 d3 d4 d5;have gz:=aG N2 4;have p1:=aI (j:=4) (u:=.slice none 0 0) d1 (by decide);have p2:=aI (j:=4) (u:=.slice none 0 0) d2 (by decide);have p3:=aI (j:=4) (u:=.slice none 0 0) d3 (by decide);have p4:=aAB w2 (aDr w.heap.size 4) (.slice none 0 0) d4;have ln2:=aB N2;clear h2 N2)
    go_ret;exact⟨rfl,B2.o⟩
  ·have HS:Hid (∀ W:World,wBl w W->Calls Tryz.prog 128 #[.slice rq rs.length rc,.agg #[.bool c,.bool f]] W fun e w'=>e=.returned (.bool false)/\wBl W w'):=fun W hW=>(sM c f (H.o.kept hW) hF hl).mono fun e w' ⟨b,h1,h2,h3⟩=>⟨by rw [h1];cases b <;> simp_all,h3⟩
   have R:r=false:=(by cases r with | false=>rfl | true=>exact absurd (HR.o.1 rfl) (by unfold bD;simp_all));subst R;go_enter Tryz.func102,Tryz.ntmps102;go_wp2_with (go_at_call 128;(with_reducible refine(HS.o _ B1.o).mono ?_);rintro e w2 ⟨rfl,h2⟩;have B2:Hid (wBl w (w2.setCell (aDr w.heap.size 4) (.slice none 0 0))):=pO (aJ B1.o h2 lz9) lz9 _ _ lz9;have N2:BoxN w2 w.heap.size _:=(h2.block _ (aB N1.o)).trans N1.o;obtain⟨d0,d1,d2,d3,d4,d5⟩:=N2.six;simp only [m9] at d1 d2 d3 d4 d5;have gz:=aG N2 4;have p1:=aI (j:=4) (u:=.slice none 0 0) d1 (by decide);have p2:=aI (j:=4) (u:=.slice none 0 0) d2 (by decide);have p3:=aI (j:=4) (u:=.slice none 0 0) d3 (by decide);have p4:=aAB w2 (aDr w.heap.size 4) (.slice none 0 0) d4;have ln2:=aB N2;clear h2 N2)
   go_ret;exact⟨rfl,B2.o⟩
 ·have eb2:(k==2)=false:=by simpa using k2
  by_cases k7:k=7
  ·subst k7;have p1:=aAB _ _ (.I 0) c1;have p2:=aI (j:=1) (u:=.I 0) c2 (by decide);have p3:=aI (j:=1) (u:=.I 0) c3 (by decide);have p4:=aI (j:=1) (u:=.I 0) c4 (by decide);by_cases z0:n=g
   ·subst z0;by_cases z2:mn=0
    ·subst z2;by_cases z3:mx=0
     ·subst z3;by_cases z4:rs.length=0
      ·obtain rfl:=aAK z4;have R:r=true:=HR.o.2 (by unfold bD;simp_all);subst R;go_enter Tryz.func102,Tryz.ntmps102;go_wp2;go_ret;exact⟨rfl,(bz9).alloc (by simp) _⟩
      ·have R:r=false:=(by cases r with | false=>rfl | true=>exact absurd (HR.o.1 rfl) (by unfold bD;simp_all <;> omega))
       subst R;have el:((rs.length:Int)==0)=false:=(by simpa using z4);go_enter Tryz.func102,Tryz.ntmps102;go_wp2;go_ret;exact⟨rfl,(bz9).alloc (by simp) _⟩
     ·have R:r=false:=(by cases r with | false=>rfl | true=>exact absurd (HR.o.1 rfl) (by unfold bD;simp_all <;> omega))
      subst R;have ez3:(mx==0)=false:=(by simpa using z3);go_enter Tryz.func102,Tryz.ntmps102;go_wp2;go_ret;exact⟨rfl,(bz9).alloc (by simp) _⟩
    ·have R:r=false:=(by cases r with | false=>rfl | true=>exact absurd (HR.o.1 rfl) (by unfold bD;simp_all <;> omega))
     subst R;have ez2:(mn==0)=false:=(by simpa using z2);go_enter Tryz.func102,Tryz.ntmps102;go_wp2;go_ret;exact⟨rfl,(bz9).alloc (by simp) _⟩
   ·have R:r=false:=(by cases r with | false=>rfl | true=>exact absurd (HR.o.1 rfl) (by unfold bD;simp_all <;> omega))
    subst R;have e0:(n==g)=false:=(by simpa using z0);go_enter Tryz.func102,Tryz.ntmps102;go_wp2;go_ret;exact⟨rfl,(bz9).alloc (by simp) _⟩
  ·have eb7:(k==7)=false:=by simpa using k7
   by_cases k8:k=8
   ·subst k8;have p1:=aAB _ _ (.I 0) c1;have p2:=aI (j:=1) (u:=.I 0) c2 (by decide);have p3:=aI (j:=1) (u:=.I 0) c3 (by decide);have p4:=aI (j:=1) (u:=.I 0) c4 (by decide);by_cases z0:1<=n
    ·skip
     by_cases z1:n<=9
     ·skip
      by_cases z2:mn=0
      ·subst z2;by_cases z3:mx=0
       ·subst z3;by_cases z4:rs.length=0
        ·obtain rfl:=aAK z4;have R:r=true:=HR.o.2 (by unfold bD;simp_all);subst R;go_enter Tryz.func102,Tryz.ntmps102;go_wp2;go_ret;exact⟨rfl,(bz9).alloc (by simp) _⟩
        ·have R:r=false:=(by cases r with | false=>rfl | true=>exact absurd (HR.o.1 rfl) (by unfold bD;simp_all <;> omega))
         subst R;have el:((rs.length:Int)==0)=false:=(by simpa using z4);go_enter Tryz.func102,Tryz.ntmps102;go_wp2;go_ret;exact⟨rfl,(bz9).alloc (by simp) _⟩
       ·have R:r=false:=(by cases r with | false=>rfl | true=>exact absurd (HR.o.1 rfl) (by unfold bD;simp_all <;> omega))
        subst R;have ez3:(mx==0)=false:=(by simpa using z3);go_enter Tryz.func102,Tryz.ntmps102;go_wp2;go_ret;exact⟨rfl,(bz9).alloc (by simp) _⟩
      ·have R:r=false:=(by cases r with | false=>rfl | true=>exact absurd (HR.o.1 rfl) (by unfold bD;simp_all <;> omega))
       subst R;have ez2:(mn==0)=false:=(by simpa using z2);go_enter Tryz.func102,Tryz.ntmps102;go_wp2;go_ret;exact⟨rfl,(bz9).alloc (by simp) _⟩
     ·have R:r=false:=(by cases r with | false=>rfl | true=>exact absurd (HR.o.1 rfl) (by unfold bD;simp_all <;> omega))
      subst R;go_enter Tryz.func102,Tryz.ntmps102;go_wp2;go_ret;exact⟨rfl,(bz9).alloc (by simp) _⟩
    ·have R:r=false:=(by cases r with | false=>rfl | true=>exact absurd (HR.o.1 rfl) (by unfold bD;simp_all <;> omega))
     subst R;go_enter Tryz.func102,Tryz.ntmps102;go_wp2;go_ret;exact⟨rfl,(bz9).alloc (by simp) _⟩
   ·have eb8:(k==8)=false:=by simpa using k8
    by_cases k9:k=9
    ·subst k9;have p2:=aI (j:=3) (u:=.I 0) (aAB _ _ (.I 0) c2) (by decide);have q3:=aI (j:=2) (u:=.I 0) c3 (by decide);have p3:=aAB _ _ (.I 0) q3;have p1:=aI (j:=3) (u:=.I 0) (aI (j:=2) (u:=.I 0) c1 (by decide)) (by decide);have p4:=aI (j:=3) (u:=.I 0) (aI (j:=2) (u:=.I 0) c4 (by decide)) (by decide);have HB:=aC (uI mn mx);obtain⟨bb,hbb⟩:∃ bb,fI mn mx=bb:=⟨_,rfl⟩;rw [hbb] at HB
     cases bb with
     | true=>
      by_cases z1:n=0
      ·subst z1;by_cases z4:rs.length=0
       ·obtain rfl:=aAK z4;have R:r=true:=HR.o.2 (by unfold bD;simp_all);subst R;go_enter Tryz.func102,Tryz.ntmps102;go_wp2_with (go_at_call 129;(with_reducible refine(HB.o _).mono ?_);rintro e w5 ⟨rfl,h5⟩;subst w5)
        go_ret;exact⟨rfl,(bz9).alloc (by simp) _⟩
       ·have R:r=false:=(by cases r with | false=>rfl | true=>exact absurd (HR.o.1 rfl) (by unfold bD;simp_all <;> omega))
        subst R;have el:((rs.length:Int)==0)=false:=(by simpa using z4);go_enter Tryz.func102,Tryz.ntmps102;go_wp2_with (go_at_call 129;(with_reducible refine(HB.o _).mono ?_);rintro e w5 ⟨rfl,h5⟩;subst w5)
        go_ret;exact⟨rfl,(bz9).alloc (by simp) _⟩
      ·have R:r=false:=(by cases r with | false=>rfl | true=>exact absurd (HR.o.1 rfl) (by unfold bD;simp_all <;> omega))
       subst R;have ez1:(n==0)=false:=(by simpa using z1);go_enter Tryz.func102,Tryz.ntmps102;go_wp2_with (go_at_call 129;(with_reducible refine(HB.o _).mono ?_);rintro e w5 ⟨rfl,h5⟩;subst w5)
       go_ret;exact⟨rfl,(bz9).alloc (by simp) _⟩
     | false=>
      have R:r=false:=(by cases r with | false=>rfl | true=>exact absurd (HR.o.1 rfl) (by unfold bD;simp_all));subst R;go_enter Tryz.func102,Tryz.ntmps102;go_wp2_with (go_at_call 129;(with_reducible refine(HB.o _).mono ?_);rintro e w5 ⟨rfl,h5⟩;subst w5)
      go_ret;exact⟨rfl,(bz9).alloc (by simp) _⟩
    ·have eb9:(k==9)=false:=by simpa using k9
     by_cases z1:n=0
     ·subst z1;by_cases z2:mn=0
      ·subst z2;by_cases z3:mx=0
       ·subst z3;by_cases z4:rs.length=0
        ·obtain rfl:=aAK z4;have R:r=true:=HR.o.2 (by unfold bD;simp_all);subst R;go_enter Tryz.func102,Tryz.ntmps102;go_wp2;go_ret;exact⟨rfl,B1.o⟩
        ·have R:r=false:=(by cases r with | false=>rfl | true=>exact absurd (HR.o.1 rfl) (by unfold bD;simp_all <;> omega))
         subst R;have el:((rs.length:Int)==0)=false:=(by simpa using z4);go_enter Tryz.func102,Tryz.ntmps102;go_wp2;go_ret;exact⟨rfl,B1.o⟩
       ·have R:r=false:=(by cases r with | false=>rfl | true=>exact absurd (HR.o.1 rfl) (by unfold bD;simp_all <;> omega))
        subst R;have ez3:(mx==0)=false:=(by simpa using z3);go_enter Tryz.func102,Tryz.ntmps102;go_wp2;go_ret;exact⟨rfl,B1.o⟩
      ·have R:r=false:=(by cases r with | false=>rfl | true=>exact absurd (HR.o.1 rfl) (by unfold bD;simp_all <;> omega))
       subst R;have ez2:(mn==0)=false:=(by simpa using z2);go_enter Tryz.func102,Tryz.ntmps102;go_wp2;go_ret;exact⟨rfl,B1.o⟩
     ·have R:r=false:=(by cases r with | false=>rfl | true=>exact absurd (HR.o.1 rfl) (by unfold bD;simp_all <;> omega))
      subst R;have ez1:(n==0)=false:=(by simpa using z1);go_enter Tryz.func102,Tryz.ntmps102;go_wp2;go_ret;exact⟨rfl,B1.o⟩
end
section
attribute [local go_sem] aS
def wY:Fl:=⟨0,0,0,0,[],none,0,none,0,0⟩
def SA(A:Nat->dV):Way->Prop
 | []=>(A 0).f=wY
 |(par,i) :: rest=>A (rest.length+1)=⟨par.f,(i:Int)+1⟩/\SA A rest
def BA(A:Nat->dV):Way->Prop
 | []=>(A 0).f=wY
 |(par,i) :: rest=>A (rest.length+1)=⟨par.f,(i:Int)⟩/\SA A rest
theorem SA.tail{A:Nat->dV}:∀ {s rest:Way} {x:Tr×Nat},SA A (s++x :: rest)->A (rest.length+1)=⟨x.1.f,(x.2:Int)+1⟩/\SA A rest
 | [],_,_,h=>h
 | _ :: s,_,_,h=>SA.tail (s:=s) h.2
theorem SA.same{A B:Nat->dV}:∀ {p:Way},SA A p->(∀ i,i<=p.length->B i=A i)->SA B p
 | [],h,hb=>by unfold SA at *;rw [hb 0 lz9];exact h
 |(par,i) :: rest,h,hb=>⟨by rw [hb _ (by simp)];exact h.1,h.2.same fun i hi=>hb i (by simp;omega)⟩
theorem BA.next{A:Nat->dV}{x y:El}(h:Nx x y)(hs:SA A x.1)(hx:A (x.1.length+1)=⟨x.2.f,0⟩):BA A y.1:=by
 obtain⟨par,j,rest,e,(⟨rfl,rfl,rfl⟩ | ⟨s,i,e2,rfl⟩)⟩:=h
 ·rw [e];exact⟨hx,hs⟩
 ·rw [e];rw [e2] at hs;exact hs.tail
def gU(A:Nat->dV)(d:Nat)(f:Fl):Nat->dV:=pY (pY A d ⟨(A d).f,(A d).s+1⟩) (d+1) ⟨f,0⟩
theorem SA.enter{A:Nat->dV}{p:Way}{f:Fl}(h:BA A p):SA (gU A p.length f) p/\gU A p.length f (p.length+1)=⟨f,0⟩:=by
 refine⟨?_,by simp [gU,pY]⟩
 cases p with
 | nil=>simp only [SA,gU,pY,List.length_nil];exact h
 | cons x rest=>
  obtain⟨par,i⟩:=x;refine⟨?_,h.2.same fun i hi=>?_⟩
  ·simp only [gU,pY,o5];rw [if_neg (by omega),if_pos trivial,h.1]
  ·simp only [gU,pY,o5];rw [if_neg (by omega),if_neg (by omega)]
def fA(p:Way)(num:Int):Bool:=p.any fun x=>x.1.f.k==7&&x.1.f.n==num
theorem SA.inEq{A:Nat->dV}{num:Int}:∀ {p:Way},SA A p->inB A (p.length+1) num=fA p num
 | [],h=>by
  unfold SA at h;rw [oX];simp [inB,fA,h,wY]
 |(par,i) :: rest,h=>by
  rw [o5,oX,h.2.inEq,h.1];simp only [fA,List.any_cons];rw [Bool.or_comm]
theorem BA.inEq{A:Nat->dV}{num:Int}:∀ {p:Way},BA A p->inB A (p.length+1) num=fA p num
 | [],h=>SA.inEq (p:=[]) h
 |(par,i) :: rest,h=>by
  rw [o5,oX,h.2.inEq,h.1];simp only [fA,List.any_cons];rw [Bool.or_comm]
def eJ(p:Way)(k:Int):Bool:=match p with
 | []=>eL k
 |(par,i) :: _=>eK par.f.k (i:Int) par.ks.length k
theorem BA.stand{A:Nat->dV}{k:Int}:∀ {p:Way},BA A p->(∀ x∈p,x.1.f.kl=x.1.ks.length)->eK (A p.length).f.k (A p.length).s (A p.length).f.kl k=eJ p k
 | [],h,_=>by
  unfold BA at h;simp [eK,eJ,h,wY]
 |(par,i) :: rest,h,hk=>by
  rw [o5,h.1];simp only [eJ];rw [hk (par,i) (r9 ..)]
open Classical in
noncomputable def cF (c f:Bool) (p:Way) (t:Tr) (ah gr:Nat):Int:=
 if ah=2000 then 42 else if 40<p.length+1 then 43
 else if ¬ (eJ p t.f.k=true/\bD c f ((gr:Int)+1) t.f/\iO t.f.k t.ks.length=true) then 50
 else if t.f.k=7/\30<t.f.n then 42
 else if t.f.k=8/\¬ (fA p t.f.n=false/\t.f.n<=(gr:Int)) then 41 else 0
theorem uH{w:World}(F:Fl)(c f:Bool)(g:Int){r:Bool}(hr:r=true↔bD c f g F)(h:ArgR w (.slice F.rq F.rs.length F.rc) F.rs)(hF:Fit F.rs)(hl:F.rs.length+3<=8796093022208) :
  Calls Tryz.prog 102 #[.agg (nDf F),.agg #[.bool c,.bool f],.I g] w fun e w'=>e=.returned (.bool r)/\wBl w w':=
 (uG F c f g h hF hl).mono fun e w' ⟨b,h1,h2,h3⟩=>⟨by rw [h1];congr 2;rw [aBL,h2,hr],h3⟩
def bG7(w:World)(b:Nat)(c f:Bool)(A:Nat->dV)(p:Way)(t:Tr)(ah gr:Nat)(e:Ending)(w':World):Prop:=
 e=.returned (.I (cF c f p t ah gr))/\(cF c f p t ah gr=0->CB w' b c f ((ah:Int)+1) ((gr:Int)+(if t.f.k=7 then 1 else 0)) (gU A p.length t.f))/\Fr (fun z=>z=b) w w'
theorem bU5{w:World}{b:Nat}{c f:Bool}{ah gr:Nat}{A:Nat->dV}{p:Way}{t:Tr}(h:CB w b c f (ah:Int) (gr:Int) A)(hb:BA A p)(hk:∀ x∈p,x.1.f.kl=x.1.ks.length)(hl:(A p.length).f.kl<=9223372036854775807)(hs:0<=(A p.length).s/\(A p.length).s<=1000000)(hn:NB w t)(ha:ah<=2000)(hg:gr<=2000)(hp:p.length<=1000000) :
  Calls Tryz.prog 77 #[.pointer (some (aDr b 0)),.I ((p.length:Int)+1),.agg (nDf t.f)] w (bG7 w b c f A p t ah gr):=by
 obtain⟨m,hm⟩:∃ m,cF c f p t ah gr=m:=⟨_,rfl⟩;have HM:=aC hm;have H:=aC h;have HB:=aC hb;have HN:=aC hn;have HKK:=aC hk;have HSS:=aC hs;have HLL:=aC hl;have B1:Hid (wBl w (w.alloc (.cells (nDf t.f) 25))):=bz9;have N1:Hid (BoxN (w.alloc (.cells (nDf t.f) 25)) w.heap.size t.f):=aE w _;have H1:Hid (CB (w.alloc (.cells (nDf t.f) 25)) b c f (ah:Int) (gr:Int) A):=h.kept B1.o;have A1:Hid (NB (w.alloc (.cells (nDf t.f) 25)) t):=hn.ck (CK.of_below B1.o);have F1:Hid (Fr (fun z=>z=b) w (w.alloc (.cells (nDf t.f) 25))):=Fr.of_below B1.o;have hne:w.heap.size≠b:=by have:=h.lt;omega
 unfold cF at hm;clear h hb hn hk hs hl;by_cases h1:ah=2000
 ·rw [if_pos h1] at hm;subst hm h1;have c2:=H1.o.c2;have lb:=H1.o.lt;go_enter Tryz.func77,Tryz.ntmps77;go_wp2;go_ret;exact⟨by rw [HM.o];rfl,fun z=>(by rw [HM.o] at z;cases z),F1.o⟩
 ·rw [if_neg h1] at hm;have h1b:(((ah:Int))==2000)=false:=by simp;omega
  by_cases h2:40<p.length+1
  ·rw [if_pos h2] at hm;subst hm;have c2:=H1.o.c2;have lb:=H1.o.lt;have h2b:(40:Int)<(p.length:Int)+1:=(by omega);go_enter Tryz.func77,Tryz.ntmps77;go_wp2;go_ret;exact⟨by rw [HM.o];rfl,fun z=>(by rw [HM.o] at z;cases z),F1.o⟩
  ·rw [if_neg h2] at hm;have h2b:¬ (40:Int)<(p.length:Int)+1:=(by omega);have c0:=H1.o.c0;have c1:=H1.o.c1;have c2:=H1.o.c2;have c3:=H1.o.c3;have lb:=H1.o.lt;obtain⟨n0,n1,n2,n3,n4,n5⟩:=N1.o.six;simp only [m9] at n1 n2 n3 n4 n5;have ln:=aB N1.o;have HMM:=aC hm;clear hm;go_enter Tryz.func77,Tryz.ntmps77;go_upto_region 5 with fail
   generalize (w.alloc (.cells (nDf t.f) 25))=w1 at *;have e41:p.length<41:=(by omega);obtain⟨sb,hsb⟩:∃ sb,eJ p t.f.k=sb:=⟨_,rfl⟩;obtain⟨rf,hrf⟩:∃ rf:Bool,rf=true↔bD c f ((gr:Int)+1) t.f:=⟨@decide (bD c f ((gr:Int)+1) t.f) (Classical.propDecidable _),by simp⟩;obtain⟨kb,hkb⟩:∃ kb,iO t.f.k t.ks.length=kb:=⟨_,rfl⟩;have MS:Hid (∀ z:Ext w1,Calls Tryz.prog 101 #[.pointer (some (aDr b 0)),.I ((p.length:Int)+1),.I t.f.k] z.val fun e w''=>e=.returned (.bool sb)/\∃ y:Ext w1,w''=y.val):=fun z=>bQ ((aG1 (H1.o.kept (qG z)) e41 t.f.k HLL.o).mono fun e w' ⟨h1,h2⟩=>⟨by rw [h1,HB.o.stand HKK.o,hsb],h2⟩);have RF:Hid (∀ z:Ext w1,Calls Tryz.prog 102 #[.agg (nDf t.f),.agg #[.bool c,.bool f],.I ((gr:Int)+1)] z.val fun e w''=>e=.returned (.bool rf)/\∃ y:Ext w1,w''=y.val):=fun z=>bQ (uH t.f c f _ hrf (A1.o.r.kept (qG z)) A1.o.fit A1.o.len);have RK:Hid (∀ z:Ext w1,Calls Tryz.prog 103 #[.agg (nDf t.f)] z.val fun e w''=>e=.returned (.bool kb)/\∃ y:Ext w1,w''=y.val):=fun z=>bQ ((yT t.f z.val).mono fun e w' ⟨h1,h2⟩=>⟨by rw [h1,A1.o.kl,hkb],h2⟩);have HX:=aC (⟨hsb,hrf,hkb⟩:eJ p t.f.k=sb/\(rf=true↔bD c f ((gr:Int)+1) t.f)/\iO t.f.k t.ks.length=kb);clear hsb hrf hkb
   cases sb with
   | false=>
    have E:=HMM.o;rw [if_pos (by rw [HX.o.1];simp)] at E;subst E;refine wx9 ?_
    repeat (go_big_quiet_step (first | exact rfl |(go_at_call 101;with_reducible exact MS.o _) |(go_at_call 102;with_reducible exact RF.o _) |(go_at_call 103;with_reducible exact RK.o _)))
    refine wpQuiet_nil ?_;intro w2 hw;have hb2:=aP hw;clear hw;have F2:Hid (Fr (fun z=>z=b) w w2):=F1.o.trans (Fr.of_below hb2);clear hb2 MS RF RK;go_wp2;go_ret;exact⟨by rw [HM.o];rfl,fun z=>(by rw [HM.o] at z;cases z),F2.o⟩
   | true=>
    cases rf with
    | false=>
     have E:=HMM.o;rw [if_pos (fun z=>by have:=HX.o.2.1.2 z.2.1;cases this)] at E;subst E;refine wx9 ?_
     repeat (go_big_quiet_step (first | exact rfl |(go_at_call 101;with_reducible exact MS.o _) |(go_at_call 102;with_reducible exact RF.o _) |(go_at_call 103;with_reducible exact RK.o _)))
     refine wpQuiet_nil ?_;intro w2 hw;have hb2:=aP hw;clear hw;have F2:Hid (Fr (fun z=>z=b) w w2):=F1.o.trans (Fr.of_below hb2);clear hb2 MS RF RK;go_wp2;go_ret;exact⟨by rw [HM.o];rfl,fun z=>(by rw [HM.o] at z;cases z),F2.o⟩
    | true=>
     cases kb with
     | false=>
      have E:=HMM.o;rw [if_pos (fun z=>by have:=HX.o.2.2;rw [z.2.2] at this;cases this)] at E;subst E;refine wx9 ?_
      repeat (go_big_quiet_step (first | exact rfl |(go_at_call 101;with_reducible exact MS.o _) |(go_at_call 102;with_reducible exact RF.o _) |(go_at_call 103;with_reducible exact RK.o _)))
      refine wpQuiet_nil ?_;intro w2 hw;have hb2:=aP hw;clear hw;have F2:Hid (Fr (fun z=>z=b) w w2):=F1.o.trans (Fr.of_below hb2);clear hb2 MS RF RK;go_wp2;go_ret;exact⟨by rw [HM.o];rfl,fun z=>(by rw [HM.o] at z;cases z),F2.o⟩
     | true=>
      have E:=HMM.o;rw [if_neg (fun z=>z ⟨HX.o.1,HX.o.2.1.1 rfl,HX.o.2.2⟩)] at E;refine wx9 ?_
      repeat (go_big_quiet_step (first | exact rfl |(go_at_call 101;with_reducible exact MS.o _) |(go_at_call 102;with_reducible exact RF.o _) |(go_at_call 103;with_reducible exact RK.o _)))
      refine wpQuiet_nil ?_;intro w2 hw;have hb2:=aP hw;clear hw;have F2:Hid (Fr (fun z=>z=b) w w2):=F1.o.trans (Fr.of_below hb2);have H2:=aC (H1.o.kept hb2);have N2:Hid (BoxN w2 w.heap.size t.f):=(hb2.block _ (aB N1.o)).trans N1.o;clear hb2 MS RF RK n0 n1 n2 n3 n4 n5 c0 c1 c2 c3 lb ln H1 N1 F1;obtain⟨n0,n1,n2,n3,n4,n5⟩:=N2.o.six;simp only [m9] at n1 n2 n3 n4 n5;have XX:=H2;have FF:=F2;by_cases k7:t.f.k=7
      ·have e7:(t.f.k==7)=true:=by simpa using k7
       have e8:(t.f.k==8)=false:=(by simp [k7]);by_cases g30:30<t.f.n
       ·rw [if_pos ⟨k7,g30⟩] at E;subst E;clear k7;go_wp2;go_ret;exact⟨by rw [HM.o];rfl,fun z=>(by rw [HM.o] at z;cases z),F2.o⟩
       ·rw [if_neg (fun z=>g30 z.2),if_neg (fun z=>by have:=z.1;omega)] at E;subst E;clear k7;go_wp2_with (go_at_call 105;(with_reducible refine(xH XX.o (d:=p.length) (by omega) t.f (by omega) (by omega) HSS.o).mono ?_);rintro e w5 ⟨rfl,h51,h52⟩;have X5:Hid (CB w5 b c f ((ah:Int)+1) ((gr:Int)+(if t.f.k=7 then 1 else 0)) (gU A p.length t.f)):=h51;have F5:Hid (Fr (fun z=>z=b) w w5):=FF.o.trans h52;clear h51 h52)
        go_ret;exact⟨by rw [HM.o];rfl,fun _=>X5.o,F5.o⟩
      ·have e7:(t.f.k==7)=false:=by simpa using k7
       rw [if_neg (fun z=>k7 z.1)] at E;by_cases k8:t.f.k=8
       ·have e8:(t.f.k==8)=true:=by simpa using k8
        have HE:Calls Tryz.prog 104 #[.pointer (some (aDr b 0)),.I ((p.length:Int)+1),.I t.f.n] w2 fun e w'=>e=.returned (.bool (!fA p t.f.n&&decide (t.f.n<=(gr:Int))))/\wBl w2 w':=(aG2 H2.o (d:=p.length+1) (by omega) t.f.n).mono fun e w' ⟨h1,h2⟩=>⟨by rw [h1,HB.o.inEq],h2⟩;by_cases hen:fA p t.f.n=false/\t.f.n<=(gr:Int)
        ·rw [if_neg (fun z=>z.2 hen)] at E;subst E;rw [hen.1] at HE;have en:(!false&&decide (t.f.n<=(gr:Int)))=true:=(by simp [hen.2]);rw [en] at HE;have HE':=aC HE;clear HE k8 hen XX FF;go_wp2_with first |(go_at_call 104;(with_reducible refine(HE'.o).mono ?_);rintro e w3 ⟨rfl,h3⟩;have XX:=aC (H2.o.kept h3);have FF:Hid (Fr (fun z=>z=b) w w3):=F2.o.trans (Fr.of_below h3);have N3:BoxN w3 w.heap.size t.f:=(h3.block _ (aB N2.o)).trans N2.o;obtain⟨r0,r1,r2,r3,r4,r5⟩:=N3.six;simp only [m9] at r1 r2 r3 r4 r5;clear h3 N3) |(go_at_call 105;(with_reducible refine(xH XX.o (d:=p.length) (by omega) t.f (by omega) (by omega) HSS.o).mono ?_);rintro e w5 ⟨rfl,h51,h52⟩;have X5:Hid (CB w5 b c f ((ah:Int)+1) ((gr:Int)+(if t.f.k=7 then 1 else 0)) (gU A p.length t.f)):=h51;have F5:Hid (Fr (fun z=>z=b) w w5):=FF.o.trans h52;clear h51 h52)
         go_ret;exact⟨by rw [HM.o];rfl,fun _=>X5.o,F5.o⟩
        ·rw [if_pos ⟨k8,hen⟩] at E;subst E;have en:(!fA p t.f.n&&decide (t.f.n<=(gr:Int)))=false:=by
          cases hq:fA p t.f.n
          ·simp;exact Int.not_le.1 (fun z=>hen ⟨hq,z⟩)
          ·rfl
         rw [en] at HE;have HE':=aC HE;clear HE k8 hen XX FF;go_wp2_with (go_at_call 104;(with_reducible refine(HE'.o).mono ?_);rintro e w3 ⟨rfl,h3⟩;have FF:Hid (Fr (fun z=>z=b) w w3):=F2.o.trans (Fr.of_below h3);clear h3)
         go_ret;exact⟨by rw [HM.o];rfl,fun z=>(by rw [HM.o] at z;cases z),FF.o⟩
       ·have e8:(t.f.k==8)=false:=by simpa using k8
        rw [if_neg (fun z=>k8 z.1)] at E;subst E;go_wp2_with (go_at_call 105;(with_reducible refine(xH XX.o (d:=p.length) (by omega) t.f (by omega) (by omega) HSS.o).mono ?_);rintro e w5 ⟨rfl,h51,h52⟩;have X5:Hid (CB w5 b c f ((ah:Int)+1) ((gr:Int)+(if t.f.k=7 then 1 else 0)) (gU A p.length t.f)):=h51;have F5:Hid (Fr (fun z=>z=b) w w5):=FF.o.trans h52;clear h51 h52)
        go_ret;exact⟨by rw [HM.o];rfl,fun _=>X5.o,F5.o⟩
end
section
open Go Go.RowKit Go.Shelf
attribute [local go_sem] Oper.semAt_some
def bY1:List El->Nat
 | []=>0
 | x :: r=>max (x.1.length+1) (bY1 r)
def cD:List El->Nat
 | []=>0
 | x :: r=>(if x.2.f.k=7 then 1 else 0)+cD r
theorem gM(a b:List El):cD (a++b)=cD a+cD b:=by
 induction a with
 | nil=>simp [cD]
 | cons y a ih=>simp only [aAF,cD,ih];omega
theorem jR(a:List El)(x:El):cD (a++[x])=cD a+(if x.2.f.k=7 then 1 else 0):=by rw [gM];simp [cD]
theorem aL3(a:List El):cD a<=a.length:=by
 induction a with
 | nil=>simp [cD]
 | cons y a ih=>simp only [cD,o5];split <;> omega
theorem uX{t:Tr}:∀ {pre:List El} {x:El},pre++[x] <+: pp [] t->x.1.length<=pre.length:=by
 intro pre;have:∀ (m:Nat) (pre:List El),pre.length=m->∀ x,pre++[x] <+: pp [] t->x.1.length<=m:=by
  intro m
  induction m with
  | zero=>
   intro pre hp x h;obtain rfl:=aAK hp;rw [aAO] at h;rw [rZ h];simp
  | succ m ih=>
   intro pre hp x h;obtain⟨pre',y,rfl⟩:∃ pre' y,pre=pre'++[y]:=⟨pre.dropLast,pre.getLast (by intro e;rw [e] at hp;simp at hp),(List.dropLast_concat_getLast _).symm⟩;have h1:=ih pre' (by simp at hp;omega) y (List.IsPrefix.trans (List.prefix_append _ _) h);obtain⟨par,j,rest,e,(⟨-,-,e2⟩ | ⟨s,i,e2,-⟩)⟩:=uW h
   ·rw [e,e2];simp;omega
   ·rw [e];rw [e2] at h1;simp at h1 ⊢;omega
 exact fun {x} h=>this pre.length pre rfl x h
end
section
open Go Go.RowKit Go.Shelf
attribute [local go_sem] Oper.semAt_some
def noL:List Value:=[.I 0,.I 0,.I 0,.I 0,.slice none 0 0,.slice none 0 0,.I 0]
def pF(c f:Bool):List Value:=.bool c :: .bool f :: .I 0 :: .I 0 :: (List.replicate 41 noL).flatten
theorem bX1(j:Nat)(hj:j<7):∀ (n d:Nat),d<n->((List.replicate n noL).flatten)[d*7+j]?=noL[j]?
 | 0,d,h=>absurd h (by omega)
 | n+1,0,_=>by rw [List.replicate_succ,aCG,aBJ,m9,aAC (by simpa [noL] using hj)]
 | n+1,d+1,h=>by
  rw [List.replicate_succ,aCG,aAD (by simp [noL];omega),show (d+1)*7+j-noL.length=d*7+j by simp [noL];omega];exact bX1 j hj n d (by omega)
theorem kO(c f:Bool){d j:Nat}(hd:d<41)(hj:j<7):(pF c f)[4+d*7+j]?=noL[j]?:=by
 rw [show 4+d*7+j=d*7+j+1+1+1+1 by omega];exact bX1 j hj 41 d hd
theorem aU4:Tryz.zeroCells146.toList=pF false false:=by kernel_rfl
theorem aO8(w1:World)(c f:Bool):Sem.run Tryz.prog (storeCells (aDr w1.heap.size 0) ((Tryz.zeroCells146.toList.set 0 (.bool c)).set 1 (.bool f))) (w1.alloc (.cells Tryz.zeroCells146 146))=.ok () (w1.alloc (.cells (pF c f).toArray 146)):=by
 have e:(Tryz.zeroCells146.toList.set 0 (.bool c)).set 1 (.bool f)=(pF c f).toArray.toList:=by rw [aU4];rfl
 rw [e];exact run_storeCells_new w1 _ _ _ (by kernel_rfl) (by kernel_rfl) (by cases c <;> cases f <;> kernel_rfl)
theorem bL3(w1:World)(c f:Bool):CB (w1.alloc (.cells (pF c f).toArray 146)) w1.heap.size c f 0 0 (fun _=>⟨wY,0⟩):=by
 have N:=aE w1 (.cells (pF c f).toArray 146);have at':∀ (i:Nat) (v:Value),(pF c f)[i]?=some v->(w1.alloc (.cells (pF c f).toArray 146)).cell? (aDr w1.heap.size i)=some v:=fun i v hv=>aA N (i:=i) (by simpa using hv);refine⟨⟨_,N⟩,at' 0 _ rfl,at' 1 _ rfl,at' 2 _ rfl,at' 3 _ rfl,fun d hd=>⟨⟨?_,?_,?_,?_,?_,?_⟩,?_⟩⟩
 ·exact at' _ _ ((kO c f hd (j:=0) (by omega)).trans rfl)
 ·exact at' _ _ ((kO c f hd (j:=1) (by omega)).trans rfl)
 ·exact at' _ _ ((kO c f hd (j:=2) (by omega)).trans rfl)
 ·exact at' _ _ ((kO c f hd (j:=3) (by omega)).trans rfl)
 ·exact at' _ _ ((kO c f hd (j:=4) (by omega)).trans rfl)
 ·exact at' _ _ ((kO c f hd (j:=5) (by omega)).trans rfl)
 ·exact at' _ _ ((kO c f hd (j:=6) (by omega)).trans rfl)
noncomputable def aW (c f:Bool):Nat->Nat->List El->Int
 | _,_,[]=>0
 | ah,gr,x :: r=>if cF c f x.1 x.2 ah gr≠0 then cF c f x.1 x.2 ah gr else aW c f (ah+1) (gr+(if x.2.f.k=7 then 1 else 0)) r
theorem aS7{P:Tr->Prop}(t:Tr):∀ p,bK P t->(∀ x∈p,P x.1)->∀ z∈pp p t,∀ x∈z.1,P x.1:=by
 refine Tr.ind (P:=fun t=>∀ p,bK P t->(∀ x∈p,P x.1)->∀ z∈pp p t,∀ x∈z.1,P x.1) (fun t ih p he hp z hz=>?_) t;rw [cM] at hz;rcases aBB.1 hz with q | q
 ·subst q;exact hp
 ·have:∀ (ks:List Tr) (i:Nat),(∀ u∈ks,u∈t.ks)->z∈pps t p i ks->∀ x∈z.1,P x.1:=by
   intro ks
   induction ks with
   | nil=>intro i _ h;rw [cP] at h;cases h
   | cons u us ih2=>
    intro i hs h;rw [bM] at h;rcases o3.1 h with g | g
    ·exact ih u (hs u (r9 ..)) _ (bC he (hs u (r9 ..))) (fun x hx=>by
      rcases aBB.1 hx with e | e
      ·rw [e];exact((aQ t).1 he).1
      ·exact hp x e) z g
    ·exact ih2 (i+1) (fun v hv=>hs v (r8 _ hv)) g
  exact this t.ks 0 (fun _ h=>h) q
structure Inv(A:Nat->dV)(pre:List El):Prop where
 bd:∀ d,0<=(A d).s/\(A d).s<=(pre.length:Int)
 nx:∀ t x,pre++[x] <+: pp [] t->BA A x.1
theorem Inv.nil:Inv (fun _=>⟨wY,0⟩) []:=⟨fun d=>by simp,fun t x h=>by
 rw [aAO] at h;rw [rZ h];exact rfl⟩
theorem Inv.step{A:Nat->dV}{pre:List El}{x:El}(h:Inv A pre)(hb:BA A x.1):Inv (gU A x.1.length x.2.f) (pre++[x]):=
 ⟨fun d=>by
  have h1:=h.bd d;have h2:=h.bd x.1.length;simp only [gU,pY,o4,o5,List.length_nil]
  split
  ·simp;omega
  ·split
   ·simp;omega
   ·omega,fun t y hy=>BA.next (uW hy) (SA.enter hb).1 (SA.enter hb).2⟩
structure RI(w:World)(t:Tr)(c f:Bool)(b be:Nat)(pre:List El)(V:World):Prop where
 chk:∃ A,CB V b c f (pre.length:Int) (cD pre:Int) A/\Inv A pre
 pfx:pre <+: pp [] t
 len:pre.length<=2000
 res:V.heap[be]?=some (.cells #[.I 0] 93 (0,0))
 bel:wBl w V
 ans:∀ rest,pp [] t=pre++rest->aW c f 0 0 (pp [] t)=aW c f pre.length (cD pre) rest
def Ax2(r s B:Nat)(y:Act)(x:El)(a':Act)(W:World):Prop:=∃ bx,BoxN W bx x.2.f/\B<=bx/\a'={ y with tmps:=(y.tmps.setIfInBounds r (.I ((x.1.length:Int)+1))).setIfInBounds s (.pointer (some (aDr bx 0))) }
theorem bO1(r s B:Nat)(y:Act)(x:El)(a':Act):OwnFrom B (fun (_:Unit) W=>Ax2 r s B y x a' W):=fun _ _ _ _ h hg hr=>by
 obtain⟨bx,h1,h2,h3⟩:=h;exact⟨bx,cU hg hr h1,h2,h3⟩
theorem aY3(n:Nat)(hn:3<=n){w:World}{t:Tr}(c f:Bool)(hta:TB w t) :
  CallsIn Fence.wide n Tryz.prog 39 #[.agg (nDf t.f),.agg #[.bool c,.bool f]] w fun e w'=>e=.returned (.I (aW c f 0 0 (pp [] t)))/\wBl w w':=by
 have hfn:∀ f,Fence.wide.fn f:=fun _=>trivial;refine callsIn_of_wp_marks Tryz.func39 rfl trivial ?_ rfl;simp only [Tryz.ntmps39,aBK,o5,List.length_nil,Nat.reduceAdd,Nat.reduceSub,aBQ,aBV,aCA,aBW,aAO,aAF];refine wpIn_wide.2 ?_;have HTA:=aC hta;go_upto_region 1 with fail
 have N0:Hid (BoxN (((w.alloc (.cells (nDf t.f) 25)).alloc (.cells #[.bool c,.bool f] 27)).alloc (.cells #[.I 0] 93)) w.heap.size t.f):=(Below.heap_alloc _ _ _ (by simp;omega)).trans ((Below.heap_alloc _ _ _ (by simp)).trans (aE w _));have M0:Hid ((((w.alloc (.cells (nDf t.f) 25)).alloc (.cells #[.bool c,.bool f] 27)).alloc (.cells #[.I 0] 93)).heap[w.heap.size+1]?=some (.cells #[.bool c,.bool f] 27 (0,0))):=(Below.heap_alloc _ _ _ (by simp)).trans (by have:=aE (w.alloc (.cells (nDf t.f) 25)) (.cells #[.bool c,.bool f] 27);rwa [f4] at this);have E0:Hid ((((w.alloc (.cells (nDf t.f) 25)).alloc (.cells #[.bool c,.bool f] 27)).alloc (.cells #[.I 0] 93)).heap[w.heap.size+1+1]?=some (.cells #[.I 0] 93 (0,0))):=(by have:=aE ((w.alloc (.cells (nDf t.f) 25)).alloc (.cells #[.bool c,.bool f] 27)) (.cells #[.I 0] 93);rwa [f4,f4] at this);have B0:Hid (wBl w (((w.alloc (.cells (nDf t.f) 25)).alloc (.cells #[.bool c,.bool f] 27)).alloc (.cells #[.I 0] 93))):=((bz9).alloc (by simp) _).alloc (by simp;omega) _;generalize (((w.alloc (.cells (nDf t.f) 25)).alloc (.cells #[.bool c,.bool f] 27)).alloc (.cells #[.I 0] 93))=w1 at N0 M0 E0 B0 ⊢;generalize hbm:w.heap.size+1=bm at M0 E0 ⊢;generalize hbe:bm+1=be at E0 ⊢;have m0:w1.cell? (aDr bm 0)=some (.bool c):=aA M0.o (i:=0) rfl;have m1:w1.cell? (aDr bm 1)=some (.bool f):=aA M0.o (i:=1) rfl;have hst:=aO8 w1 c f;go_upto_region 2 with fail
 have C2:Hid (CB (w1.alloc (.cells (pF c f).toArray 146)) w1.heap.size c f 0 0 (fun _=>⟨wY,0⟩)):=bL3 w1 c f;have K2:wBl w1 (w1.alloc (.cells (pF c f).toArray 146)):=bz9;have N2:Hid (BoxN (w1.alloc (.cells (pF c f).toArray 146)) w.heap.size t.f):=(K2.block _ (aB N0.o)).trans N0.o;have E2:Hid ((w1.alloc (.cells (pF c f).toArray 146)).heap[be]?=some (.cells #[.I 0] 93 (0,0))):=(K2.block _ (aB E0.o)).trans E0.o;have B2:Hid (wBl w (w1.alloc (.cells (pF c f).toArray 146))):=aJ B0.o K2 lz9;have hbb:w.heap.size<=w1.heap.size:=B0.o.size;have hbe2:w.heap.size<=be:=by omega
 have hbl:=aB E0.o;generalize (w1.alloc (.cells (pF c f).toArray 146))=w2 at C2 K2 N2 E2 B2 ⊢;clear hst m0 m1 N0 M0 E0 K2;generalize w1.heap.size=b at C2 hbb hbl ⊢;obtain⟨c0,c1,c2,c3,c4,c5⟩:=N2.o.six;simp only [m9] at c1 c2 c3 c4 c5;go_wp2_with (go_at_call 76;(with_reducible refine(aK6 _ _).mono ?_);rintro e w3 ⟨rfl,rfl⟩)
 have K3:wBl w2 (w2.alloc (.cells (nDf t.f) 25)):=bz9;have N3:BoxN (w2.alloc (.cells (nDf t.f) 25)) w2.heap.size t.f:=aE w2 _;have C3:=C2.o.kept K3;have E3:=(K3.block _ (aB E2.o)).trans E2.o;have B3:=aJ B2.o K3 lz9;generalize (w2.alloc (.cells (nDf t.f) 25))=w4 at K3 N3 C3 E3 B3 ⊢;generalize w2.heap.size=bn at N3 ⊢;clear c0 c1 c2 c3 c4 c5 C2 N2 E2 B2 K3;have L4:=C3.lt;have L5:=aB E3;refine(wpIn_wide (n:=n)).1 ?_;refine bT0 (by omega) 13 14 bn rfl rfl N3 HTA.o (CK.of_below B3) (RI w t c f b be) (fun k pre V=>k=.ret/\V.heap[be]?=some (.cells #[.I (aW c f 0 0 (pp [] t))] 93 (0,0))/\wBl w V)
  ?_ ?_ (fun pre W h=>by have:=h.len;omega) ⟨⟨_,C3,Inv.nil⟩,aCM,by simp,E3,B3,fun rest hr=>by rw [hr];rfl⟩ (Ax2 6 7 w4.heap.size) (bO1 _ _ _) ?_ ?_ ?_ ?_
 ·rintro pre V V' row h hg hr;obtain⟨A,hA,hI⟩:=h.chk;exact⟨⟨A,hA.row hg hr,hI⟩,h.pfx,h.len,cU hg hr h.res,mQ h.bel lz9 B3.size hg hr,h.ans⟩
 ·rintro k pre V V' row ⟨h0,h1,h2⟩ hg hr;exact⟨h0,cU hg hr h1,mQ h2 lz9 B3.size hg hr⟩
 ·intro l pre x V K _ _ hs _ hK;have HS:=aC hs;simp only [fN]
  gi_wp2
  exact hK _ _ (bz9) ⟨_,aE V _,HS.o,rfl⟩
 ·rintro l pre x a' V h hck hsz ht ⟨bx,hbx,hbl2,rfl⟩;obtain⟨A,hA,hI⟩:=h.chk;have hba:=hI.nx t x ht;obtain⟨rest,hrest⟩:=ht;have hin:x∈pp [] t:=by rw [<- hrest];simp
  have hway:∀ y∈x.1,NB w y.1:=aS7 t [] HTA.o (fun _ z=>by cases z) x hin;have hkl:(A x.1.length).f.kl<=9223372036854775807:=by
   cases hx:x.1 with
   | nil=>
    rw [hx] at hba;have:(A 0).f=wY:=hba;rw [List.length_nil,this];simp [wY]
   | cons y ys=>
    rw [hx] at hba hway;have e:=hba.1;rw [o5,e];have hy:=hway y (r9 ..);obtain⟨q,cap,-,hm,-⟩:=hy.k.slice;show y.1.f.kl<=_;rw [hy.kl];exact hm
  have hbd:=hI.bd x.1.length;have hdp:=uX (t:=t) (pre:=pre) (x:=x) ⟨rest,hrest⟩;have hlen:=h.len;have hgl:=aL3 pre;have LK:=aC (bU5 (t:=x.2) hA hba (fun y hy=>(hway y hy).kl) hkl ⟨hbd.1,by omega⟩ ((HTA.o.at hin).node.ck hck) hlen (by omega) (by omega));have HE:=aC (show pp [] t=pre++x :: rest by rw [<- hrest];simp);have HA2:=aC (h.ans (x :: rest) HE.o);have HH:=aC h;have HBA:=aC hba;have HI:=aC hI;obtain⟨k0,k1,k2,k3,k4,k5⟩:=hbx.six;simp only [m9] at k1 k2 k3 k4 k5;obtain⟨m,hm⟩:∃ m,cF c f x.1 x.2 pre.length (cD pre)=m:=⟨_,rfl⟩;have HM:=aC hm;have HBX:=aC hbx;clear h hck hsz hbx hba hrest hin hway hkl hbd hm hI hgl;simp only [fN];by_cases hm0:m=0
  ·have e0:(m != 0)=false:=by simpa using hm0
   gi_wp2
   refine⟨(fun z=>by cases z),(CallsIn.inRound l (callsIn_wide.2 (LK.o))).mono ?_⟩;rintro e V5 ⟨he5,h51,h52⟩;rw [HM.o] at he5 h51;subst he5;have X5:=aC (h51 hm0);have F5:=aC h52;clear h51 h52
   gi_wp2
   subst hm0;have hl2:pre.length<2000:=by
    rcases Nat.lt_or_ge pre.length 2000 with z | z
    ·exact z
    ·have:=HM.o;unfold cF at this;rw [if_pos (by omega)] at this;cases this
   refine⟨F5.o.keepsFrom (fun k hk=>by omega),F5.o.ckeep (fun k hk=>by rintro (z | z) <;> omega),⟨⟨_,?_,HI.o.step HBA.o⟩,?_,by simp;omega,(F5.o.block _ (aB HH.o.res) (by omega)).trans HH.o.res,bB HH.o.bel F5.o lz9 (fun k e=>by omega),fun rest' hr'=>?_⟩⟩
   ·have:=X5.o;rw [jR,Int.natCast_add,show (((if x.2.f.k=7 then 1 else 0:Nat)):Int)=(if x.2.f.k=7 then 1 else 0) by split <;> rfl]
    simpa using this
   ·exact⟨rest,by rw [HE.o];simp⟩
   ·rw [HE.o,aAM,List.append_cancel_left_eq] at hr';simp at hr';subst hr';rw [HA2.o];simp only [aW,HM.o,ne_eq,not_true,if_false,o4,o5,List.length_nil,jR]
  ·have e0:(m != 0)=true:=by simpa using hm0
   have HR:=aC (show m=aW c f 0 0 (pp [] t) by rw [HA2.o];simp only [aW,HM.o,ne_eq,hm0,not_false_eq_true,if_true])
   gi_wp2
   refine⟨(fun z=>by cases z),(CallsIn.inRound l (callsIn_wide.2 (LK.o))).mono ?_⟩;rintro e V5 ⟨he5,h51,h52⟩;rw [HM.o] at he5;subst he5;have F5:=aC h52;have E5:V5.heap[be]?=some (.cells #[.I 0] 93 (0,0)):=(h52.block _ (aB HH.o.res) (by omega)).trans HH.o.res;have fz:=aG E5 0;have cz:=aA E5 (i:=0) rfl;have E6:=aC (aN E5 0 (.I m));have F6:=aC ((Fr.refl (fun z=>z=be) V5).setCell (p:=(aDr be 0)) rfl (.I m));clear h51 h52 E5
   gi_wp2
   refine⟨(F5.o.keepsFrom (fun k hk=>by omega)).trans (F6.o.keepsFrom (fun k hk=>by omega)),rfl,by rw [<- HR.o];exact E6.o,bB (bB HH.o.bel F5.o lz9 (fun k e=>by omega)) F6.o lz9 (fun k e=>by omega)⟩
 ·rintro D V hD h hck hK;have e1:aW c f 0 0 (pp [] t)=0:=by rw [h.ans [] (by simp)];rfl
  have HH:=aC h;have HK:=aC hK;have HD:=aC hD;have fz:=aG h.res 0;have cz:=aA h.res (i:=0) rfl;have E6:=aC (aN h.res 0 (.I 0));have F6:=aC ((Fr.refl (fun z=>z=be) V).setCell (p:=(aDr be 0)) rfl (.I 0));clear h hck hK hD;simp only [fV];go_wp2;have hDb:be≠D:=by have:=HD.o;omega
  have cw:((V.setCell (aDr be 0) (.I 0)).putObj D (.deferred none)).cell? (aDr be 0)=some (.I 0):=aA ((World.putObj_heap_other hDb).trans E6.o) (i:=0) rfl;refine⟨by simp,.inl ⟨_,_,rfl,run_takeDeferred ((F6.o.block _ (aB HK.o) (by have:=HD.o;omega)).trans HK.o),?_⟩⟩;exact⟨.I (aW c f 0 0 (pp [] t)),by simp [results,Tryz.results39,go_sem,cw,e1],rfl,pP _ (bB HH.o.bel F6.o lz9 (fun k e=>by omega)) (m8 B3.size HD.o)⟩
 ·rintro D k pre V hD hpre ⟨rfl,h1,h2⟩ hK;refine(wpIn_wide (n:=n)).2 ?_;have H1:=aC h1;have H2:=aC h2;have HK:=aC hK;have hDb:be≠D:=by omega
  have cw:(V.putObj D (.deferred none)).cell? (aDr be 0)=some (.I (aW c f 0 0 (pp [] t))):=aA ((World.putObj_heap_other hDb).trans H1.o) (i:=0) rfl;clear h1 h2 hK;simp only [fV];go_wp2;refine⟨by simp,.inl ⟨_,_,rfl,run_takeDeferred HK.o,?_⟩⟩;exact⟨.I (aW c f 0 0 (pp [] t)),by simp [results,Tryz.results39,go_sem,cw],rfl,pP _ H2.o (m8 B3.size hD)⟩
theorem dW{w:World}{t:Tr}(c f:Bool)(hta:TB w t):Calls Tryz.prog 39 #[.agg (nDf t.f),.agg #[.bool c,.bool f]] w fun e w'=>e=.returned (.I (aW c f 0 0 (pp [] t)))/\wBl w w':=callsIn_wide.1 (aY3 3 (by decide) c f hta)
end
theorem mE{c f:Bool}:∀ (L:List El) (ah gr:Nat),aW c f ah gr L=0->∀ pre x post,L=pre++x :: post->cF c f x.1 x.2 (ah+pre.length) (gr+cD pre)=0
 | [],_,_,_,pre,x,post,h=>by cases pre <;> cases h
 | y :: L,ah,gr,hr,pre,x,post,h=>by
  unfold aW at hr;by_cases hy:cF c f y.1 y.2 ah gr=0
  ·rw [if_neg (by simpa using hy)] at hr
   cases pre with
   | nil=>
    simp at h;obtain⟨rfl,rfl⟩:=h;simpa [cD] using hy
   | cons z pre=>
    simp at h;obtain⟨rfl,rfl⟩:=h;have:=mE (pre++x :: post) (ah+1) (gr+(if y.2.f.k=7 then 1 else 0)) hr pre x post rfl;simp only [o5,cD];rw [show ah+(pre.length+1)=ah+1+pre.length by omega,show gr+((if y.2.f.k=7 then 1 else 0)+cD pre)=gr+(if y.2.f.k=7 then 1 else 0)+cD pre by omega];exact this
  ·rw [if_pos hy] at hr;exact absurd hr hy
theorem bK8{ks:List Tr}(s:Way)(h:∀ t∈ks,∀ p,pp (p++s) t=(pp p t).map fun z=>(z.1++s,z.2))(par:Tr)(p:Way)(i:Nat):pps par (p++s) i ks=(pps par p i ks).map fun z=>(z.1++s,z.2):=by
 induction ks generalizing i with
 | nil=>rw [cP,cP];rfl
 | cons t ts ih=>rw [bM,bM,aBS,<- ih (fun u hu=>h u (r8 _ hu)),<- h t (r9 ..)];rfl
theorem bT8(s:Way)(t:Tr):∀ p,pp (p++s) t=(pp p t).map fun z=>(z.1++s,z.2):=by
 refine Tr.ind (P:=fun t=>∀ p,pp (p++s) t=(pp p t).map fun z=>(z.1++s,z.2)) (fun t ih p=>?_) t;rw [cM,cM,aBP,bK8 s ih]
theorem sI{pk seen k:Int}{kl:Nat}(h:eK pk seen kl k=true):eL k=true:=by
 have ht:cA k=true->eL k=true:=by
  intro z;simp [cA] at z;simp [eL];omega
 unfold eK at h
 split at h
 ·simp at h;rcases h with (z | z) | z
  ·exact ht z
  ·obtain⟨rfl,-⟩:=z;rfl
  ·obtain⟨rfl,-⟩:=z;rfl
 ·split at h
  ·exact ht h
  ·split at h
   ·simp at h;exact h.1
   ·exact h
theorem mD{c f:Bool}{L:List El}(hr:aW c f 0 0 L=0):L.length<=2000:=by
 rcases Nat.lt_or_ge 2000 L.length with h | h
 ·exfalso
  have e:L=L.take 2000++L[2000] :: L.drop 2001:=by
   have:=aBX 2000 L;rw [aBA h] at this;exact this.symm
  have:=mE L 0 0 hr _ _ _ e;rw [show 0+(L.take 2000).length=2000 by rw [aAA];omega] at this;unfold cF at this;rw [if_pos rfl] at this;cases this
 ·exact h
theorem zJ{c f:Bool}{p:Way}{t:Tr}{ah gr:Nat}(h:cF c f p t ah gr=0)(hk:t.f.k=7):t.f.n=(gr:Int)+1/\t.f.n<=30:=by
 unfold cF at h
 split at h
 ·cases h
 ·split at h
  ·cases h
  ·split at h
   ·cases h
   ·rename_i n3
    have hf:=(Classical.not_not.1 n3).2.1
    split at h
    ·cases h
    ·rename_i n4
     refine⟨?_,Int.not_lt.1 fun z=>n4 ⟨hk,z⟩⟩;unfold bD at hf;rw [if_neg (by omega),if_pos hk] at hf;exact hf.1
section
variable {T:Type} {ρ:dJ T}
def GpL(c:Nat)(L:List El):Prop:=∀ pre x post,L=pre++x :: post->(x.2.f.k=7->x.2.f.n=((c+cD pre:Nat):Int)+1)/\(x.2.f.k=8->1<=x.2.f.n/\x.2.f.n<=((c+cD pre:Nat):Int)/\fA x.1 x.2.f.n=false)
theorem vI(x:El)(l:List El):cD (x :: l)=(if x.2.f.k=7 then 1 else 0)+cD l:=by
 rw [show x :: l=[x]++l from rfl,gM,show [x]=[]++[x] from rfl,jR];simp [cD]
theorem GpL.left{c:Nat}{a b:List El}(h:GpL c (a++b)):GpL c a:=fun pre x post e=>h pre x (post++b) (by rw [e];simp)
theorem GpL.right{c:Nat}{a b:List El}(h:GpL c (a++b)):GpL (c+cD a) b:=fun pre x post e=>by
 have:=h (a++pre) x post (by rw [e];simp);rw [gM,<- aAN] at this;exact this
theorem GpL.head{c:Nat}{x:El}{b:List El}(h:GpL c (x :: b)):(x.2.f.k=7->x.2.f.n=((c:Nat):Int)+1)/\(x.2.f.k=8->1<=x.2.f.n/\x.2.f.n<=((c:Nat):Int)/\fA x.1 x.2.f.n=false):=by
 have:=h [] x b rfl;rw [show cD []=0 from rfl,aAQ] at this;exact this
theorem GpL.kids{c:Nat}{p:Way}{t:Tr}(h:GpL c (pp p t)):GpL (c+(if t.f.k=7 then 1 else 0)) (pps t p 0 t.ks):=by
 rw [cM,show (p,t) :: pps t p 0 t.ks=[(p,t)]++pps t p 0 t.ks from rfl] at h;have:=h.right;rwa [vI,show cD []=0 from rfl,aAQ] at this
theorem bB6(p:Way)(t:Tr):cD (pp p t)=(if t.f.k=7 then 1 else 0)+cD (pps t p 0 t.ks):=by rw [cM,vI]
theorem aY4{c f:Bool}{t:Tr}(h:aW c f 0 0 (pp [] t)=0)(h1:∀ x∈pp [] t,x.2.f.k=8->1<=x.2.f.n):GpL 0 (pp [] t):=by
 intro pre x post e;have q:=mE _ 0 0 h pre x post e;refine⟨fun hk=>?_,fun hk=>?_⟩
 ·have:=(zJ q hk).1;simpa using this
 ·refine⟨h1 x (by rw [e];simp) hk,?_⟩;unfold cF at q
  split at q
  ·cases q
  ·split at q
   ·cases q
   ·split at q
    ·cases q
    ·split at q
     ·cases q
     ·split at q
      ·cases q
      ·rename_i n5
       have:=Classical.not_not.1 (fun z=>n5 ⟨hk,z⟩);exact⟨by simpa using this.2,this.1⟩
theorem aG8(t:Tr):∀ (p:Way) (c:Nat) (g:Int->T),GpL c (pp p t)->∀ n:Int,(n<=c\/((c+cD (pp p t):Nat):Int)<n)->(ev ρ g t).2 n=g n:=by
 refine Tr.ind (P:=fun t=>∀ (p:Way) (c:Nat) (g:Int->T),GpL c (pp p t)->∀ n:Int,(n<=c\/((c+cD (pp p t):Nat):Int)<n)->(ev ρ g t).2 n=g n) (fun t ih p c g hg n hn=>?_) t;have hl:∀ (ks:List Tr) (i c:Nat) (g:Int->T),(∀ u∈ks,u∈t.ks)->GpL c (pps t p i ks)->∀ n:Int,(n<=c\/((c+cD (pps t p i ks):Nat):Int)<n)->(evs ρ g ks).2 n=g n:=by
  intro ks
  induction ks with
  | nil=>intro i c g _ _ n _;rw [cQ]
  | cons u us ih2=>
   intro i c g hs hg n hn;rw [bM] at hg hn;rw [gM] at hn;rw [eN];show (evs ρ (ev ρ g u).2 us).2 n=g n;rw [ih2 (i+1) _ _ (fun v hv=>hs v (r8 _ hv)) hg.right n (by omega)];exact ih u (hs u (r9 ..)) _ c g hg.left n (by omega)
 have hd:=(show GpL c ((p,t) :: pps t p 0 t.ks) by rw [<- cM];exact hg).head.1;rw [bB6] at hn;rw [lP];by_cases hk:t.f.k=7
 ·rw [if_pos hk] at hn ⊢;have hd:=hd hk;rw [nC _ _ (by intro e;rw [e] at hn;simp only at hd;omega)];have hks:=hg.kids;rw [if_pos hk] at hks;exact hl t.ks 0 _ g (fun _ h=>h) hks n (by omega)
 ·rw [if_neg hk] at hn ⊢;have hks:=hg.kids;rw [if_neg hk] at hks;exact hl t.ks 0 _ g (fun _ h=>h) hks n (by omega)
def tU(ρ:dJ T):Prop:=∀ f ks xs g g',(f.k=8->g f.n=g' f.n)->ρ f ks xs g=ρ f ks xs g'
theorem vM(par:Tr)(i:Nat)(p:Way)(n:Int):fA ((par,i) :: p) n=((par.f.k==7&&par.f.n==n)||fA p n):=rfl
theorem bV9(hρ:tU ρ)(G:Int->T)(t:Tr):∀ (p:Way) (c:Nat) (g:Int->T),GpL c (pp p t)->(∀ n:Int,1<=n->n<=c->fA p n=false->g n=G n)->(∀ n:Int,c<n->n<=((c+cD (pp p t):Nat):Int)->G n=(ev ρ g t).2 n) ->
  (ev ρ g t).1=evG ρ G t/\∀ z∈pp p t,z.2.f.k=7->G z.2.f.n=evG ρ G z.2:=by
 refine Tr.ind (P:=fun t=>∀ (p:Way) (c:Nat) (g:Int->T),GpL c (pp p t)->(∀ n:Int,1<=n->n<=c->fA p n=false->g n=G n)->(∀ n:Int,c<n->n<=((c+cD (pp p t):Nat):Int)->G n=(ev ρ g t).2 n) ->
  (ev ρ g t).1=evG ρ G t/\∀ z∈pp p t,z.2.f.k=7->G z.2.f.n=evG ρ G z.2) (fun t ih p c g hg h1 h2=>?_) t
 have hl:∀ (ks:List Tr) (i c:Nat) (g:Int->T),(∀ u∈ks,u∈t.ks)->GpL c (pps t p i ks)->(∀ n:Int,1<=n->n<=c->fA ((t,0) :: p) n=false->g n=G n) ->
   (∀ n:Int,c<n->n<=((c+cD (pps t p i ks):Nat):Int)->G n=(evs ρ g ks).2 n)->(evs ρ g ks).1=xG ρ G ks/\∀ z∈pps t p i ks,z.2.f.k=7->G z.2.f.n=evG ρ G z.2:=by
  intro ks
  induction ks with
  | nil=>intro i c g _ _ _ _;rw [cQ,cP,xG];exact⟨rfl,fun z hz=>by cases hz⟩
  | cons u us ih2=>
   intro i c g hs hg h1 h2;rw [bM] at hg h2 ⊢;rw [gM] at h2;rw [eN] at h2 ⊢;simp only at h2;have hus:=fun v hv=>hs v (r8 u hv);have hout:∀ n:Int,n<=((c+cD (pp ((t,i) :: p) u):Nat):Int)->(evs ρ (ev ρ g u).2 us).2 n=(ev ρ g u).2 n:=by
    intro n hn;have:∀ (ks:List Tr) (i c:Nat) (g:Int->T),GpL c (pps t p i ks)->∀ n:Int,n<=c->(evs ρ g ks).2 n=g n:=by
     intro ks
     induction ks with
     | nil=>intro i c g _ n _;rw [cQ]
     | cons v vs ih3=>
      intro i c g hg n hn;rw [bM] at hg;rw [eN];show (evs ρ (ev ρ g v).2 vs).2 n=g n;rw [ih3 (i+1) _ _ hg.right n (by omega)];exact aG8 v _ c g hg.left n (.inl hn)
    exact this us (i+1) _ _ hg.right n hn
   obtain⟨q1,q2⟩:=ih u (hs u (r9 ..)) ((t,i) :: p) c g hg.left h1 (fun n a b=>by rw [h2 n a (by omega)];exact hout n b);obtain⟨r1,r2⟩:=ih2 (i+1) (c+cD (pp ((t,i) :: p) u)) (ev ρ g u).2 hus hg.right (fun n a b e=>by
    by_cases hc:n<=c
    ·rw [aG8 u _ c g hg.left n (.inl hc)];exact h1 n a hc e
    ·rw [h2 n (by omega) (by omega),hout n b]) (fun n a b=>h2 n (by omega) (by omega))
   refine⟨?_,fun z hz hk=>?_⟩
   ·show (ev ρ g u).1 :: (evs ρ (ev ρ g u).2 us).1=_;rw [q1,r1,xG]
   ·rcases o3.1 hz with e | e
    ·exact q2 z e hk
    ·exact r2 z e hk
 have hd:=(show GpL c ((p,t) :: pps t p 0 t.ks) by rw [<- cM];exact hg).head;rw [bB6] at h2;rw [lP] at h2;have hks:=hg.kids;by_cases hk:t.f.k=7
 ·rw [if_pos hk] at h2 hks;have hn:=hd.1 hk;simp only at hn;obtain⟨q1,q2⟩:=hl t.ks 0 (c+1) g (fun _ h=>h) hks (fun n a b e=>by
   rw [vM,hk] at e;have hne:t.f.n≠n:=(by intro z;rw [z] at e;simp at e);have he:fA p n=false:=(by cases h:fA p n with | false=>rfl | true=>rw [h] at e;simp at e);exact h1 n a (by omega) he) (fun n a b=>by
    rw [h2 n (by omega) (by omega),if_pos hk,nC _ _ (by omega)])
  have hx:(ev ρ g t).1=evG ρ G t:=by
   rw [kN,nP,q1];exact hρ _ _ _ _ _ (fun z=>by omega)
  refine⟨hx,fun z hz hz7=>?_⟩;rw [cM] at hz;rcases aBB.1 hz with e | e
  ·subst e;show G t.f.n=evG ρ G t;rw [<- hx,h2 t.f.n (by omega) (by omega),if_pos hk,uV]
  ·exact q2 z e hz7
 ·rw [if_neg hk] at h2 hks;obtain⟨q1,q2⟩:=hl t.ks 0 (c+0) g (fun _ h=>h) hks (fun n a b e=>by
   rw [vM] at e;have he:fA p n=false:=(by cases h:fA p n with | false=>rfl | true=>rw [h] at e;simp at e);exact h1 n a (by omega) he) (fun n a b=>by
    rw [h2 n (by omega) (by omega),if_neg hk])
  have hx:(ev ρ g t).1=evG ρ G t:=by
   rw [kN,nP,q1];refine hρ _ _ _ _ _ (fun z=>?_);obtain⟨b1,b2,b3⟩:=hd.2 z;simp only at b1 b2 b3;have:∀ (ks:List Tr) (i c:Nat) (g:Int->T),GpL c (pps t p i ks)->∀ n:Int,n<=c->(evs ρ g ks).2 n=g n:=by
    intro ks
    induction ks with
    | nil=>intro i c g _ n _;rw [cQ]
    | cons v vs ih3=>
     intro i c g hg n hn;rw [bM] at hg;rw [eN];show (evs ρ (ev ρ g v).2 vs).2 n=g n;rw [ih3 (i+1) _ _ hg.right n (by omega)];exact aG8 v _ c g hg.left n (.inl hn)
   rw [this t.ks 0 (c+0) g hks _ (by omega)];exact h1 _ b1 b2 b3
  refine⟨hx,fun z hz hz7=>?_⟩;rw [cM] at hz;rcases aBB.1 hz with e | e
  ·subst e;exact absurd hz7 hk
  ·exact q2 z e hz7
theorem bC9(hρ:tU ρ){t:Tr}(h:GpL 0 (pp [] t))(g:Int->T) :
  (ev ρ g t).1=evG ρ (ev ρ g t).2 t/\∀ z∈pp [] t,z.2.f.k=7->(ev ρ g t).2 z.2.f.n=evG ρ (ev ρ g t).2 z.2:=
 bV9 hρ _ t [] 0 g h (fun n a b _=>by omega) (fun n _ _=>rfl)
end
abbrev Zl:=El×Nat
def arP:Way->Int | []=>0 |(par,_) :: _=>par.f.k
def fiP:Way->Bool | []=>true |(_,i) :: _=>(i:Int)==0
def laP:Way->Bool | []=>true |(par,i) :: _=>(i:Int)==(par.ks.length:Int)-1
def brP:Way->Bool | []=>true |(par,_) :: r=>if par.f.k=7\/par.f.k=6 then true else if par.f.k=5 then brP r else false
def zc(z:Zl):List Value:=z.1.2.f.cells++[.I ((z.1.1.length:Int)+1),.I (arP z.1.1),.bool (fiP z.1.1),.bool (laP z.1.1),.bool (brP z.1.1),.I (z.2:Int)]
theorem kY(z:Zl):(zc z).length=12:=by simp [zc,Fl.cells]
def dU(l:List Zl):List Value:=l.flatMap zc
theorem fG(z:Zl)(l:List Zl):dU (z :: l)=zc z++dU l:=by simp [dU]
theorem uP(a b:List Zl):dU (a++b)=dU a++dU b:=by simp [dU]
theorem kP:∀ (l:List Zl) (i j:Nat) (z:Zl),l[i]?=some z->j<12->(dU l)[i*12+j]?=(zc z)[j]?
 | y :: l,0,j,z,h,hj=>by
  simp at h;subst h;rw [fG,aBJ,m9,aAC (by rw [kY];exact hj)]
 | y :: l,i+1,j,z,h,hj=>by
  have ih:=kP l i j z (by simpa using h) hj;rw [fG,aAD (by rw [kY];omega),<- ih,kY]
  congr 1
  omega
theorem nS:∀ (l:List Zl) (i:Nat) (x:El) (a b:Nat),l[i]?=some (x,a)->(dU l).set (i*12+11) (.I (b:Int))=dU (l.set i (x,b))
 | y :: l,0,x,a,b,h=>by
  simp at h;subst h;rw [i8,fG,fG,aBJ,m9,List.set_append_left _ _ (by rw [kY];omega)]
  congr 1
 | y :: l,i+1,x,a,b,h=>by
  have ih:=nS l i x a b (by simpa using h);rw [i7,fG,fG,List.set_append_right _ _ (by rw [kY];omega),<- ih,kY]
  congr 2
  omega
def tl(most:Nat):Nat->List El->List Zl
 | _,[]=>[]
 | k,x :: r=>(x,min (k+x.2.sz) most) :: tl most (k+1) r
theorem pW(most:Nat):∀ (a b:List El) (k:Nat),tl most k (a++b)=tl most k a++tl most (k+a.length) b
 | [],b,k=>rfl
 | x :: a,b,k=>by
  rw [aAF,tl,tl,pW most a b (k+1),aAF,o5]
  congr 3
  omega
theorem jJ(most:Nat):∀ (a:List El) (k:Nat),(tl most k a).length=a.length
 | [],k=>rfl
 | x :: a,k=>by rw [tl,o5,jJ most a,o5]
theorem aW6(most:Nat):∀ (a:List El) (k:Nat),(tl most k a).map (·.1)=a
 | [],k=>rfl
 | x :: a,k=>by rw [tl,aBP,aW6 most a]
def lI(most:Nat)(E:List Zl)(x:El):List Zl:=E++(tl most E.length (pp x.1 x.2)).take (most-E.length)
def cV(most:Nat)(E:List Zl)(p:Way)(t:Tr)(j:Nat):List Zl:=E++(((p,t),0) :: tl most (E.length+1) (pps t p 0 (t.ks.take j))).take (most-E.length)
theorem zL{most:Nat}{E:List Zl}{p:Way}{t:Tr}(h:E.length<most):cV most E p t 0=E++[((p,t),0)]:=by
 unfold cV;rw [v9,cP]
 congr 1
 rw [show most-E.length=(most-E.length-1)+1 by omega,aBM];simp [tl]
theorem oT{most:Nat}{E:List Zl}{p:Way}{t:Tr}{j:Nat}(h:E.length<most):E.length<(cV most E p t j).length/\(cV most E p t j).length<=most/\(cV most E p t j).length=E.length+min (most-E.length) (1+(pps t p 0 (t.ks.take j)).length):=by
 have:(cV most E p t j).length=E.length+min (most-E.length) (1+(pps t p 0 (t.ks.take j)).length):=by
  unfold cV;rw [o4,aAA,o5,jJ]
  congr 2
  omega
 refine⟨?_,?_,this⟩
 ·rw [this];omega
 ·rw [this];omega
theorem mJ{most:Nat}{E:List Zl}{p:Way}{t:Tr}{j:Nat}(h:E.length<most):(cV most E p t j)[E.length]?=some ((p,t),0):=by
 unfold cV;rw [aAD lz9,Nat.sub_self,show most-E.length=(most-E.length-1)+1 by omega,aBM]
 rfl
theorem aD4(most:Nat)(E:List Zl)(z:Zl)(A B:List El)(hf:E.length+(1+A.length)<most) :
  (E++(z :: tl most (E.length+1) A))++(tl most (E.length+(1+A.length)) B).take (most-(E.length+(1+A.length)))=E++(z :: tl most (E.length+1) (A++B)).take (most-E.length):=by
 rw [pW,aAM,<- aAF]
 congr 1
 have hl:(z :: tl most (E.length+1) A).length=1+A.length:=by rw [o5,jJ];omega
 have h1:((z :: tl most (E.length+1) A)++tl most (E.length+1+A.length) B).take (most-E.length)=(z :: tl most (E.length+1) A)++(tl most (E.length+1+A.length) B).take (most-E.length-(1+A.length)):=by
  rw [List.take_append,n8 (by rw [hl];omega),hl]
 rw [h1,show E.length+1+A.length=E.length+(1+A.length) by omega,show most-E.length-(1+A.length)=most-(E.length+(1+A.length)) by omega]
theorem mI{most:Nat}{E:List Zl}{p:Way}{t u:Tr}{j:Nat}(h:E.length<most)(hu:t.ks[j]?=some u)(hl:(cV most E p t j).length<most):lI most (cV most E p t j) ((t,j) :: p,u)=cV most E p t (j+1):=by
 have hlen:=(oT (p:=p) (t:=t) (j:=j) h).2.2;have e1:cV most E p t j=E++(((p,t),0) :: tl most (E.length+1) (pps t p 0 (t.ks.take j))):=by
  unfold cV;rw [n8 (by rw [o5,jJ];omega)]
 have hfull:(cV most E p t j).length=E.length+(1+(pps t p 0 (t.ks.take j)).length):=by omega
 have e2:cV most E p t (j+1)=E++(((p,t),0) :: tl most (E.length+1) (pps t p 0 (t.ks.take j)++pp ((t,j) :: p) u)).take (most-E.length):=by
  unfold cV;rw [lG hu]
 rw [e2];unfold lI;rw [hfull,<- aD4 most E _ _ _ (by omega),<- e1]
theorem aR5{most:Nat}{E:List Zl}{p:Way}{t:Tr}{j:Nat}(h:E.length<most)(hl:¬ (cV most E p t j).length<most):cV most E p t j=cV most E p t t.ks.length:=by
 have hlen:=oT (p:=p) (t:=t) (j:=j) h;have hbig:most-E.length<=1+(pps t p 0 (t.ks.take j)).length:=by omega
 unfold cV
 congr 1
 have hp:pps t p 0 (t.ks.take j) <+: pps t p 0 (t.ks.take t.ks.length):=by
  rw [aBF];exact wU j
 obtain⟨r,hr⟩:=hp;rw [<- hr,pW,<- aAF,aCH (by rw [o5,jJ];omega)]
theorem oU{most:Nat}{E:List Zl}{p:Way}{t:Tr}(h:E.length<most):(cV most E p t t.ks.length).set E.length ((p,t),(cV most E p t t.ks.length).length)=lI most E (p,t):=by
 have hlen:=(oT (p:=p) (t:=t) (j:=t.ks.length) h).2.2;have hsz:1+(pps t p 0 (t.ks.take t.ks.length)).length=t.sz:=by
  have:=cT t p;rw [cM,o5] at this;rw [aBF];omega
 rw [hlen,hsz];unfold cV lI;rw [List.set_append_right _ _ lz9,Nat.sub_self,show most-E.length=(most-E.length-1)+1 by omega,aBM,i8]
 congr 1
 show _=(tl most E.length (pp p t)).take _;rw [cM,tl,aBM,aBF]
 congr 2
 show _=min (E.length+t.sz) most;omega
theorem seg(t:Tr):∀ (p:Way) (j:Nat) (x:El),(pp p t)[j]?=some x->∃ rest,(pp p t).drop j=pp x.1 x.2++rest:=by
 refine Tr.ind (P:=fun t=>∀ (p:Way) (j:Nat) (x:El),(pp p t)[j]?=some x->∃ rest,(pp p t).drop j=pp x.1 x.2++rest) (fun t ih p j x h=>?_) t
 cases j with
 | zero=>
  rw [cM] at h;simp at h;subst h;exact⟨[],by simp⟩
 | succ j=>
  rw [cM] at h ⊢;rw [aAT] at h;rw [List.drop_succ_cons];have key:∀ (ks:List Tr) (i j:Nat),(∀ u∈ks,u∈t.ks)->(pps t p i ks)[j]?=some x->∃ rest,(pps t p i ks).drop j=pp x.1 x.2++rest:=by
   intro ks
   induction ks with
   | nil=>intro i j _ h;rw [cP] at h;simp at h
   | cons u ks ihk=>
    intro i j hm h;rw [bM] at h ⊢;by_cases hj:j<(pp ((t,i) :: p) u).length
    ·rw [aAC hj] at h;obtain⟨rest,hr⟩:=ih u (hm u r9) _ _ _ h;refine⟨rest++pps t p (i+1) ks,?_⟩;rw [List.drop_append_of_le_length (by omega),hr,aAM]
    ·rw [aAD (by omega)] at h;obtain⟨rest,hr⟩:=ihk (i+1) _ (fun v hv=>hm v (r8 _ hv)) h;refine⟨rest,?_⟩;rw [List.drop_append,List.drop_eq_nil_of_le (by omega),aAO,hr]
  exact key t.ks 0 j (fun _ h=>h) h
theorem bJ4{t:Tr}{p:Way}{j:Nat}{x:El}(h:(pp p t)[j]?=some x):j+x.2.sz<=t.sz:=by
 obtain⟨rest,hr⟩:=seg t p j x h;have:=congrArg List.length hr;rw [aAS,o4,cT,cT] at this;have hj:=(m7.1 h).1;rw [cT] at hj;omega
theorem anc(t:Tr):∀ (p:Way) (i:Nat) (x:El) (par:Tr) (k:Nat) (r:Way),(pp p t)[i]?=some x->x.1=(par,k) :: r->i=0\/∃ j,j<i/\(pp p t)[j]?=some (r,par)/\i<j+par.sz:=by
 refine Tr.ind (P:=fun t=>∀ (p:Way) (i:Nat) (x:El) (par:Tr) (k:Nat) (r:Way),(pp p t)[i]?=some x->x.1=(par,k) :: r->i=0\/∃ j,j<i/\(pp p t)[j]?=some (r,par)/\i<j+par.sz) (fun t ih p i x par k r h hx=>?_) t
 cases i with
 | zero=>exact .inl rfl
 | succ i=>
  refine .inr ?_;have hil:=(m7.1 h).1;rw [cT] at hil;rw [cM] at h ⊢;rw [aAT] at h;have key:∀ (ks:List Tr) (m i:Nat),(∀ u∈ks,u∈t.ks)->(pps t p m ks)[i]?=some x->(par=t/\r=p)\/∃ j,j<i/\(pps t p m ks)[j]?=some (r,par)/\i<j+par.sz:=by
   intro ks
   induction ks with
   | nil=>intro m i _ h;rw [cP] at h;simp at h
   | cons u ks ihk=>
    intro m i hm h;rw [bM] at h ⊢;by_cases hi:i<(pp ((t,m) :: p) u).length
    ·rw [aAC hi] at h;rcases ih u (hm u r9) _ _ _ _ _ _ h hx with rfl | ⟨j,h1,h2,h3⟩
     ·rw [cM] at h;simp at h;subst h;injection hx with e1 e2;injection e1 with e1 _;exact .inl ⟨e1.symm,e2.symm⟩
     ·exact .inr ⟨j,h1,by rw [aAC (by omega)];exact h2,h3⟩
    ·rw [aAD (by omega)] at h;rcases ihk (m+1) _ (fun v hv=>hm v (r8 _ hv)) h with e | ⟨j,h1,h2,h3⟩
     ·exact .inl e
     ·exact .inr ⟨j+(pp ((t,m) :: p) u).length,by omega,by rw [aAD (by omega),aBT];exact h2,by omega⟩
  rcases key t.ks 0 i (fun _ h=>h) h with⟨rfl,rfl⟩ | ⟨j,h1,h2,h3⟩
  ·exact⟨0,by omega,rfl,by omega⟩
  ·exact⟨j+1,by omega,by rw [aAT];exact h2,by omega⟩
theorem bO2{t:Tr}:∀ (s:Way) (i:Nat) (x:El) (par:Tr) (k:Nat) (r:Way),(pp [] t)[i]?=some x->x.1=s++(par,k) :: r->∃ j,j<i/\(pp [] t)[j]?=some (r,par)/\i<j+par.sz
 | [],i,x,par,k,r,h,hx=>by
  rcases anc t [] i x par k r h hx with rfl | q
  ·rw [cM] at h;simp at h;subst h;cases hx
  ·exact q
 |(a,b) :: s,i,x,par,k,r,h,hx=>by
  have h0:i≠0:=fun e=>by
   subst e;rw [cM] at h;simp at h;subst h;cases hx
  rcases anc t [] i x a b (s++(par,k) :: r) h hx with rfl | ⟨j1,h1,h2,h3⟩
  ·exact absurd rfl h0
  ·obtain⟨j,h4,h5,h6⟩:=bO2 s j1 _ par k r h2 rfl;refine⟨j,by omega,h5,?_⟩;obtain⟨rest,hr⟩:=seg t [] j _ h5;have h7:(pp r par)[j1-j]?=some (s++(par,k) :: r,a):=by
    have e:((pp [] t).drop j)[j1-j]?=some (s++(par,k) :: r,a):=(by rw [aBZ,show j+(j1-j)=j1 by omega];exact h2);rw [hr,aAC (by rw [cT];show j1-j<par.sz;omega)] at e;exact e
   have:=bJ4 h7;simp only at this;omega
theorem bQ5{t:Tr}{i j:Nat}{x y:El}(hx:(pp [] t)[i]?=some x)(hy:(pp [] t)[j]?=some y)(h1:j<i)(h2:i<j+y.2.sz):∃ s k,x.1=s++(y.2,k) :: y.1:=by
 obtain⟨rest,hr⟩:=seg t [] j y hy;have e:((pp [] t).drop j)[i-j]?=some x:=by rw [aBZ,show j+(i-j)=i by omega];exact hx
 rw [hr,aAC (by rw [cT];omega),cM,show i-j=(i-j-1)+1 by omega,aAT] at e;have hm:=n7 e;have:∀ (ks:List Tr) (m:Nat),x∈pps y.2 y.1 m ks->∃ s k,x.1=s++(y.2,k) :: y.1:=by
  intro ks
  induction ks with
  | nil=>intro m h;rw [cP] at h;cases h
  | cons u ks ih=>
   intro m h;rw [bM] at h;rcases o3.1 h with h | h
   ·have hw:=bT8 ((y.2,m) :: y.1) u [];rw [aAO] at hw;rw [hw] at h;obtain⟨z,-,rfl⟩:=aAI.1 h;exact⟨z.1,m,rfl⟩
   ·exact ih (m+1) h
 exact this _ _ hm
def iA:Nat->List El->List Nat
 | _,[]=>[]
 | k,x :: r=>if x.2.f.k=7 then k :: iA (k+1) r else iA (k+1) r
theorem lL:∀ (k:Nat) (a b:List El),iA k (a++b)=iA k a++iA (k+a.length) b
 | k,[],b=>by simp [iA]
 | k,x :: a,b=>by
  rw [aAF,iA,iA,lL (k+1) a b,o5,show k+1+a.length=k+(a.length+1) by omega]
  split <;> rfl
theorem oZ:∀ (k:Nat) (a:List El),(iA k a).length=cD a
 | k,[]=>rfl
 | k,x :: a=>by
  rw [iA];simp only [cD]
  split
  ·rw [o5,oZ (k+1) a];omega
  ·rw [oZ (k+1) a];omega
theorem vJ(a:List El)(x:El):iA 0 (a++[x])=iA 0 a++(if x.2.f.k=7 then [a.length] else []):=by
 rw [lL,m9]
 congr 1
theorem bM1{a:List El}{j:Nat}{y:El}(h:a[j]?=some y)(hk:y.2.f.k=7):(iA 0 a)[cD (a.take j)]?=some j:=by
 have hj:=(m7.1 h).1;have e:a=a.take j++y :: a.drop (j+1):=by
  have:=aBX j a;rw [aBA hj,(m7.1 h).2] at this;exact this.symm
 have hl:(a.take j).length=j:=by rw [aAA];omega
 conv=>lhs;arg 1;rw [e]
 rw [lL,<- oZ 0 (a.take j),aAD lz9,Nat.sub_self,iA,if_pos hk,hl,m9]
 rfl
theorem tB:∀ (a:List El) (k m j:Nat),(iA k a)[m]?=some j->k<=j/\∃ y,a[j-k]?=some y/\y.2.f.k=7/\cD (a.take (j-k))=m
 | [],k,m,j,h=>by simp [iA] at h
 | x :: a,k,m,j,h=>by
  rw [iA] at h;by_cases hk:x.2.f.k=7
  ·rw [if_pos hk] at h
   cases m with
   | zero=>
    simp at h;subst h;refine⟨t9 _,x,?_,hk,?_⟩
    ·rw [Nat.sub_self];rfl
    ·rw [Nat.sub_self];rfl
   | succ m=>
    rw [aAT] at h;obtain⟨h1,y,h2,h3,h4⟩:=tB a (k+1) m j h;refine⟨by omega,y,?_,h3,?_⟩
    ·rw [show j-k=(j-(k+1))+1 by omega,aAT];exact h2
    ·rw [show j-k=(j-(k+1))+1 by omega,aBM,cD,if_pos hk,h4];omega
  ·rw [if_neg hk] at h;obtain⟨h1,y,h2,h3,h4⟩:=tB a (k+1) m j h;refine⟨by omega,y,?_,h3,?_⟩
   ·rw [show j-k=(j-(k+1))+1 by omega,aAT];exact h2
   ·rw [show j-k=(j-(k+1))+1 by omega,aBM,cD,if_neg hk,h4];omega
theorem bY0{t:Tr}{pre:List El}{x:El}{N:Nat}{j:Nat}(hp:pre++[x] <+: pp [] t)(hnum:∀ (j:Nat) (y:El),pre[j]?=some y->y.2.f.k=7->y.2.f.n=(cD (pre.take j):Int)+1)(hi:pre.length<2000)(hj:(iA 0 pre)[N]?=some j) :
  ∃ y,pre[j]?=some y/\(fA x.1 ((N:Int)+1)=false↔min (j+y.2.sz) 2001<=pre.length):=by
 obtain⟨r,hr⟩:=hp;obtain⟨-,y,h2,h3,h4⟩:=tB pre 0 N j hj;rw [Nat.sub_zero] at h2 h4;have hjl:=(m7.1 h2).1;have hx:(pp [] t)[pre.length]?=some x:=by rw [<- hr,aAM,aAD lz9,Nat.sub_self];rfl
 have hin:∀ (k:Nat) (z:El),k<pre.length->(pp [] t)[k]?=some z->pre[k]?=some z:=fun k z hk hz=>by
  rw [<- hr,aAM,aAC hk] at hz;exact hz
 have hy:(pp [] t)[j]?=some y:=by rw [<- hr,aAM,aAC hjl];exact h2
 refine⟨y,h2,?_⟩;have hny:=hnum j y h2 h3;rw [h4] at hny;constructor
 ·intro he;rcases Nat.lt_or_ge pre.length (min (j+y.2.sz) 2001) with q | q
  ·exfalso
   obtain⟨s,k,e⟩:=bQ5 hx hy hjl (by omega);have:fA x.1 ((N:Int)+1)=true:=by
    unfold fA;rw [e,List.any_append,List.any_cons];simp [h3,hny]
   rw [he] at this;cases this
  ·exact q
 ·intro hm
  cases he:fA x.1 ((N:Int)+1) with
  | false=>rfl
  | true=>
   exfalso
   unfold fA at he;rw [List.any_eq_true] at he;obtain⟨⟨par,k⟩,hmem,hh⟩:=he;simp at hh;obtain⟨s,r',e⟩:=List.append_of_mem hmem;obtain⟨j',a1,a2,a3⟩:=bO2 s pre.length x par k r' hx e;have b1:=hin j' _ a1 a2;have b2:=hnum j' _ b1 hh.1;have b3:cD (pre.take j')=N:=by
    have:(N:Int)+1=(cD (pre.take j'):Int)+1:=(by rw [<- b2];exact hh.2.symm);omega
   have b4:=bM1 b1 hh.1;rw [b3,hj] at b4;injection b4 with b4;subst b4;rw [h2] at b1;injection b1 with b1;subst b1;simp only at hm;omega
theorem kH{c f:Bool}{p:Way}{t:Tr}{ah gr:Nat}(h:cF c f p t ah gr=0):eJ p t.f.k=true/\bD c f ((gr:Int)+1) t.f/\iO t.f.k t.ks.length=true:=by
 unfold cF at h
 split at h
 ·cases h
 ·split at h
  ·cases h
  ·split at h
   ·cases h
   ·rename_i n3
    exact Classical.not_not.1 n3
def mB(p:Way)(k:Int):Bool:=
 if arP p=5 then (if k=3 then brP p&&fiP p else if k=4 then brP p&&laP p else cA k)
 else if arP p=9 then cA k else if arP p=6 then k != 6 else true
def dA(c f:Bool)(t:Tr):Prop:=
 if t.f.k=1\/t.f.k=3\/t.f.k=4 then t.f.n=0/\t.f.mn=0/\t.f.mx=0/\t.f.rs.length=0/\t.ks.length=0
 else if t.f.k=2 then nD c f t.f.rs/\t.f.n=0/\t.f.mn=0/\t.f.mx=0/\t.ks.length=0
 else if t.f.k=5\/t.f.k=6 then 1<t.ks.length/\t.f.n=0/\t.f.mn=0/\t.f.mx=0/\t.f.rs.length=0
 else if t.f.k=7 then t.ks.length=1/\t.f.mn=0/\t.f.mx=0/\t.f.rs.length=0
 else if t.f.k=8 then (1<=t.f.n/\t.f.n<=9)/\t.f.mn=0/\t.f.mx=0/\t.f.rs.length=0/\t.ks.length=0
 else if t.f.k=9 then fI t.f.mn t.f.mx=true/\t.ks.length=1/\t.f.n=0/\t.f.rs.length=0
 else False
theorem jK{c f:Bool}{t:Tr}{g:Int}:(eL t.f.k=true/\bD c f g t.f/\iO t.f.k t.ks.length=true)↔(dA c f t/\(t.f.k=7->t.f.n=g)):=by
 obtain⟨F,ks⟩:=t;obtain⟨k,n,mn,mx,rs,rq,rc,kq,kl,kc⟩:=F;simp only [Tr.f,Tr.ks];unfold dA bD iO eL;simp only [Tr.f,Tr.ks];generalize nD c f rs=S;generalize rs.length=rl;generalize ks.length=kk;by_cases h1:k=1
 ·subst h1;simp;constructor <;> (intro h;omega)
 by_cases h3:k=3
 ·subst h3;simp;constructor <;> (intro h;omega)
 by_cases h4:k=4
 ·subst h4;simp;constructor <;> (intro h;omega)
 by_cases h2:k=2
 ·subst h2;simp;constructor
  ·rintro ⟨⟨a,b,c,d⟩,e⟩;exact⟨a,b,c,d,e⟩
  ·rintro ⟨a,b,c,d,e⟩;exact⟨⟨a,b,c,d⟩,e⟩
 by_cases h5:k=5
 ·subst h5;simp;constructor <;> (intro h;omega)
 by_cases h6:k=6
 ·subst h6;simp;constructor <;> (intro h;omega)
 by_cases h7:k=7
 ·subst h7;simp;constructor <;> (intro h;omega)
 by_cases h8:k=8
 ·subst h8;simp;constructor <;> (intro h;omega)
 by_cases h9:k=9
 ·subst h9;simp;constructor
  ·rintro ⟨⟨a,b,c⟩,e⟩;exact⟨a,e,b,c⟩
  ·rintro ⟨a,e,b,c⟩;exact⟨⟨a,b,c⟩,e⟩
 ·simp [h1,h2,h3,h4,h5,h6,h7,h8,h9];intro a b;omega
theorem sH{p:Way}{k:Int}(hbr:∀ par i r,p=(par,i) :: r->par.f.k=5->brP r=true)(hk:eL k=true):eJ p k=mB p k:=by
 cases p with
 | nil=>
  unfold eJ mB;simp [arP,hk]
 | cons y r=>
  obtain⟨par,i⟩:=y;have e:mB ((par,i) :: r) k=(if par.f.k=5 then (if k=3 then brP ((par,i) :: r)&&((i:Int)==0) else if k=4 then brP ((par,i) :: r)&&((i:Int)==(par.ks.length:Int)-1) else cA k) else if par.f.k=9 then cA k else if par.f.k=6 then k != 6 else true):=rfl;rw [e];unfold eJ eK;simp only;by_cases h5:par.f.k=5
  ·rw [if_pos h5,if_pos h5];have hb:brP ((par,i) :: r)=true:=by
    have:=hbr par i r rfl h5;simp [brP,h5,this]
   rw [hb,aCN,aCN];by_cases k3:k=3
   ·subst k3;rw [if_pos rfl];simp [cA]
   ·rw [if_neg k3];by_cases k4:k=4
    ·subst k4;rw [if_pos rfl];simp [cA]
    ·rw [if_neg k4];have e3:(k==3)=false:=(by simpa using k3);have e4:(k==4)=false:=(by simpa using k4);rw [e3,e4,Bool.false_and,Bool.false_and,Bool.or_false,Bool.or_false]
  ·rw [if_neg h5,if_neg h5];by_cases h9:par.f.k=9
   ·rw [if_pos h9,if_pos h9]
   ·rw [if_neg h9,if_neg h9];by_cases h6:par.f.k=6
    ·rw [if_pos h6,if_pos h6,hk,aCN]
    ·rw [if_neg h6,if_neg h6,hk]
theorem bY4{c f:Bool}{t:Tr}{pre:List El}{x:El}(hp:pre++[x] <+: pp [] t)(hr:∀ (j:Nat) (y:El),pre[j]?=some y->cF c f y.1 y.2 j (cD (pre.take j))=0):∀ par i r,x.1=(par,i) :: r->par.f.k=5->brP r=true:=by
 intro par i r hx h5;obtain⟨rest,he⟩:=hp;have hxi:(pp [] t)[pre.length]?=some x:=by rw [<- he,aAM,aAD lz9,Nat.sub_self];rfl
 have hin:∀ (k:Nat) (z:El),k<pre.length->(pp [] t)[k]?=some z->pre[k]?=some z:=fun k z hk hz=>by
  rw [<- he,aAM,aAC hk] at hz;exact hz
 cases r with
 | nil=>rfl
 | cons y r'=>
  obtain⟨qq,m⟩:=y;obtain⟨j,a1,a2,a3⟩:=bO2 [] pre.length x par i ((qq,m) :: r') hxi hx;have l1:=(kH (hr j _ (hin j _ a1 a2))).1;obtain⟨j0,b1,b2,b3⟩:=bO2 [] j _ qq m r' a2 rfl;have l2:=(kH (hr j0 _ (hin j0 _ (by omega) b2))).2.2;have hks:1<=qq.ks.length:=by
   have h1:2<=qq.sz:=by omega
   rw [fE] at h1
   cases hk:qq.ks with
   | nil=>rw [hk,eP] at h1;omega
   | cons a l=>simp
  have l1':eK qq.f.k (m:Int) qq.ks.length 5=true:=by
   have:eJ ((qq,m) :: r') par.f.k=true:=l1;rw [h5] at this;exact this
  have l2':iO qq.f.k qq.ks.length=true:=l2;unfold eK at l1';simp only [brP];by_cases k5:qq.f.k=5
  ·rw [if_pos k5] at l1';simp [cA] at l1'
  ·rw [if_neg k5] at l1';by_cases k9:qq.f.k=9
   ·rw [if_pos k9] at l1';simp [cA] at l1'
   ·by_cases k67:qq.f.k=7\/qq.f.k=6
    ·rw [if_pos k67]
    ·exfalso
     unfold iO at l2';rw [if_neg (by omega),if_neg (by omega)] at l2';have h0:=eq_of_beq l2';omega
def bT(c f:Bool)(p:Way)(t:Tr):Prop:=mB p t.f.k=true/\dA c f t
theorem sE{c f:Bool}{t:Tr}(h:dA c f t):eL t.f.k=true:=(jK (g:=t.f.n)).2 ⟨h,fun _=>rfl⟩ |>.1
theorem aG6{c f:Bool}{p:Way}{t:Tr}{g:Int}(hbr:∀ par i r,p=(par,i) :: r->par.f.k=5->brP r=true):(eJ p t.f.k=true/\bD c f g t.f/\iO t.f.k t.ks.length=true)↔(bT c f p t/\(t.f.k=7->t.f.n=g)):=by
 constructor
 ·rintro ⟨h1,h2,h3⟩;have hk:eL t.f.k=true:=by
   cases p with
   | nil=>exact h1
   | cons y r=>exact sI h1
  have:=jK.1 ⟨hk,h2,h3⟩;exact⟨⟨by rw [<- sH hbr hk];exact h1,this.1⟩,this.2⟩
 ·rintro ⟨⟨h1,h2⟩,h3⟩;have hk:=sE h2;have:=jK.2 ⟨h2,h3⟩;exact⟨by rw [sH hbr hk];exact h1,this.2⟩
end Go.Proofs.YtdgfpiekjigfnaaGreatDoor
