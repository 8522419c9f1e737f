/-
  Parts of the proof.
-/
import Derived.Test.YtlaimbkenbijeaaGreatDoorTextsProofA0
import Derived.Test.YtlaimbkenbijeaaGreatDoorTextsProofB14
import Derived.Test.YtlaimbkenbijeaaGreatDoorTextsProofB15
import Derived.Laws.AppendOwnNone
import Derived.Test.YtlaimbkenbijeaaGreatDoorTextsProofB12
import Derived.Test.YtlaimbkenbijeaaGreatDoorTextsProofB13
import Derived.Test.YtlaimbkenbijeaaGreatDoorTextsProofB3
import Derived.Test.YtlaimbkenbijeaaGreatDoorTextsProofB2
import Derived.Test.YtlaimbkenbijeaaGreatDoorTextsProofB7
import Derived.Test.YtlaimbkenbijeaaGreatDoorTextsProofB8
set_option maxRecDepth 100000
set_option maxHeartbeats 8000000
namespace Go.Proofs.YtlaimbkenbijeaaGreatDoor
open Go Go.RowKit
def iJ(V:List (Value × List (Int × Int))):List (Int × Int):=V.flatMap fun p=>p.2
theorem vA{V:List (Value × List (Int × Int))}{k:Nat}{p:Value × List (Int × Int)}(h:V[k]?=some p):iJ (V.take (k+1))=iJ (V.take k) ++ p.2:=by
 obtain⟨hk,rfl⟩:=i5.1 h
 rw [eH V k hk]
 unfold iJ
 rw [List.flatMap_append]
 simp only [aBA,List.flatMap_nil,aBH]
theorem aK0(V:List (Value × List (Int × Int)))(k:Nat):(iJ (V.take k)).length<=(iJ V).length:=by
 have e:iJ V=iJ (V.take k) ++ iJ (V.drop k):=by unfold iJ;rw [<- List.flatMap_append,aBG]
 rw [e,m7]
 omega
theorem rA{base:Nat}{w:World}{n:Nat}{v:Value}{F L:List (Int × Int)}(h:w.ownsRow base 110 2 v n (aS F ++ aS L)):RR base w v (F ++ L):=by
 have hn:n=(F ++ L).length:=by have:=h.1;simp [dS] at this;simp;omega
 subst hn
 unfold RR
 rw [jP]
 exact h
theorem aP0(w:World):Calls Tryz.prog 216 #[.slice none 0 0,.int .i64 0] w fun e w'=>e=.returned (.slice none 0 0)/\w'=w:=
 Any8.slices_Grow_room Tryz.growPl none 0 0 0 w (by omega) (by omega) (by omega) (by omega)
theorem bM3(n:Nat)(w:World)(hn:n<=8796093022208):Calls Tryz.prog 216 #[.slice none 0 0,.int .i64 (n:Int)] w fun e w'=>∃ v,e=.returned v/\RR w.heap.size w' v []/\Below w.heap.size w w':=by
 rcases Nat.eq_zero_or_pos n with rfl | hp
 ·exact(aP0 w).mono fun e w' ⟨h1,h2⟩=>⟨_,h1,RR.nil _ _,by rw [h2];exact Below.refl _ _⟩
 ·obtain⟨i0,hi,hz0,hz1,hz2⟩:=bH cY
  have h:=Any8.slices_Grow_grow Tryz.growPl i0 (.agg #[.int .i64 0,.int .i64 0]) hi hz0 (by rw [hz1];decide) none 0 0 n [] w (by omega) (by omega) (by rw [hz2];omega) (by omega) (by simp) (fun _=>rfl) (fun _ q=>by cases q)
  refine Calls.mono (show Calls Tryz.prog 216 _ _ _ from h) ?_
  rintro e w' ⟨rfl,rfl⟩
  have hg:=grownCap_ge w (0+n) 0 110
  have hm:=grownCap_le_maxLen w (0+n) 0 110 (by unfold maxLen;omega)
  refine⟨_,rfl,?_,(Below.refl _ _).drew.alloc (by simp) _⟩
  have hz:∀ k,(Builtin.zeroCells #[.int .i64 0,.int .i64 0] k).size=k * 2:=fun k=>by simp [Builtin.zeroCells]
  refine World.ownsRow_made w.drew _ _ lz9 hm ?_
  show (#[] ++ Builtin.zeroCells #[.int .i64 0,.int .i64 0] (0+n - 0) ++ Builtin.zeroCells #[.int .i64 0,.int .i64 0] (grownCap w (0+n) 0 110 - (0+n))).size=grownCap w (0+n) 0 110 * 2
  rw [Array.size_append,Array.size_append,hz,hz]
  generalize grownCap w (0+n) 0 110=G at *
  show 0+(0+n - 0) * 2+(G - (0+n)) * 2=G * 2
  omega
theorem aY7{w:World}{g m:Nat}{V:List (Value × List (Int × Int))}(hm:V.length=m)(hV:∀ (i:Nat) (p:Value × List (Int × Int)),V[i]?=some p->w.cell? ⟨g,i,none⟩=some p.1/\ArgR w p.1 p.2)(hg:g < w.heap.size)(hml:m<=1000)(hl:(iJ V).length+1<=8796093022208) :
  Calls Tryz.prog 208 #[.slice (some ⟨g,0,none⟩) m m] w fun e w'=>∃ v,e=.returned v/\RR w.heap.size w' v (iJ V)/\Below w.heap.size w w':=by
 have HV:Hid (∀ (i:Nat) (p:Value × List (Int × Int)),V[i]?=some p->w.cell? ⟨g,i,none⟩=some p.1/\ArgR w p.1 p.2):=hV
 have HM:Hid (V.length=m):=hm
 obtain⟨t0,ti,hz0,hz1,hz2⟩:=bH cY
 clear hV hm
 go_enter Tryz.func208,Tryz.ntmps208
 go_wp2
 go_loopw [3,11] (fun s i wr=>∃ k:Nat,k<=m/\i=.int .i64 k/\s=.int .i64 ((iJ (V.take k)).length:Nat)/\wr=w) (fun _ i _=>m - (intOf i).toNat)
 case atStart=>exact⟨0,m9 _,rfl,rfl,rfl⟩
 case round=>
  obtain⟨k,hk,rfl,rfl,hw⟩:=hrel
  subst wr
  by_cases hlt:k < m
  ·obtain⟨⟨v,L⟩,hp⟩:∃ p,V[k]?=some p:=⟨_,g9 (by have:=HM.out;omega)⟩
   obtain⟨d0,ha⟩:=HV.out k _ hp
   dsimp only at d0 ha
   obtain⟨q,cap,rfl,-,-,-⟩:=ha.slice
   have NX:Hid ((iJ (V.take (k+1))).length=(iJ (V.take k)).length+L.length):=aD (by rw [vA hp,m7])
   have le1:=aK0 V (k+1)
   rw [NX.out] at le1
   clear hp ha
   generalize (iJ (V.take k)).length=n at *
   have i0:(0:Int)<=(k:Int):=by omega
   have i1:(k:Int) < (m:Int):=by omega
   have wn:IntKind.wrap .i64 ((n:Int)+(L.length:Int))=(n:Int)+(L.length:Int):=by rw [IntKind.wrap_i64];omega
   have nn:¬ ((n:Int)+(L.length:Int) < 0):=by omega
   go_wp2
   go_roundw
   case rel=>exact⟨k+1,by omega,by go_num,by rw [NX.out];rfl,by first | rfl | trivial⟩
   case measure=>simp [intOf];omega
  ·have i1:¬ (k:Int) < (m:Int):=by omega
   have E:Hid (V.take k=V):=aD (j9 (by rw [HM.out];omega))
   rw [E.out]
   have LB:Hid ((iJ V).length<=8796093022208):=aD (by omega)
   go_wp2_with (go_at_call 216;refine(bM3 _ _ LB.out).mono ?_;rintro e w5 ⟨v5,rfl,h1,h2⟩;have R5:Hid (RR w.heap.size w5 v5 []):=h1;have B5:Hid (Below w.heap.size w w5):=h2;clear h1 h2)
   rename World=>W1
   go_loopw [6,27] (fun s i wr=>∃ k:Nat,k<=m/\i=.int .i64 k/\RR w.heap.size wr s (iJ (V.take k))/\Below w.heap.size w wr) (fun _ i _=>m - (intOf i).toNat)
   case atStart=>exact⟨0,m9 _,rfl,R5.out,B5.out⟩
   case round=>
    obtain⟨j,hj,rfl,hrr,hb⟩:=hrel
    obtain⟨qg,cg,rfl⟩:=hrr.shape
    have RG:Hid (RR w.heap.size wr (.slice qg (iJ (V.take j)).length cg) (iJ (V.take j))):=hrr
    have B:Hid (Below w.heap.size w wr):=hb
    have hbs:w.heap.size<=wr.heap.size:=hb.size
    clear hrr hb
    by_cases hjlt:j < m
    ·obtain⟨⟨v,L⟩,hp⟩:∃ p,V[j]?=some p:=⟨_,g9 (by have:=HM.out;omega)⟩
     obtain⟨d0,ha⟩:=HV.out j _ hp
     dsimp only at d0 ha
     have d1:=(B.out.cell (p:=⟨g,j,none⟩) hg).trans d0
     have NX:Hid (iJ (V.take (j+1))=iJ (V.take j) ++ L):=vA hp
     have le1:=aK0 V (j+1)
     rw [NX.out,m7] at le1
     have hA:=ha.kept B.out
     obtain⟨q,cap,rfl,-,-,-⟩:=ha.slice
     have j0:(0:Int)<=(j:Int):=by omega
     have j1:(j:Int) < (m:Int):=by omega
     clear hp d0
     generalize iJ (V.take j)=F at *
     cases q with
     | none=>
      have e0:Value.slice none L.length cap=.slice none 0 0/\L=[]:=by
       rcases ha with⟨p,cap',e,e2,e3⟩ | ⟨g',off',cap',e,_⟩
       ·subst e2
        cases e
        have:=e3 rfl
        subst this
        exact⟨rfl,rfl⟩
       ·cases e
      rw [e0.1] at d1
      have EL:Hid (L=[]):=e0.2
      clear ha hA e0
      go_wp2_with (at_builtin;refine wpList_append_own_none rfl _ _ 22 rfl w.heap.size 110 t0 2 bM ti (.slice qg F.length cg) F.length (aS F) rfl RG.out rfl ?_)
      go_roundw
      case rel=>exact⟨j+1,by omega,by go_num,by rw [NX.out,EL.out,aBH];exact RG.out,B.out⟩
      case measure=>simp [intOf];omega
     | some ad=>
      have NW:Hid (∀ j u,(aS L)[j]?=some u->wr.cell? (ad.add j)=some u):=hA.news
      clear ha hA
      go_wp2_with (at_builtin;refine wpList_append_own_at _ rfl _ _ 22 rfl w.heap.size 110 t0 (.agg #[.int .i64 0,.int .i64 0]) 2 16 bM ti hz0 hz1 hz2 rfl (by decide) (.slice qg F.length cg) F.length (aS F) rfl RG.out ad L.length cap (aS L) rfl (dS L) NW.out (lA L) (by unfold maxLen;omega) (by omega) hbs ?_;intro v' w6 hown' hgrow _ hblk;have A6:Hid (RR w.heap.size w6 v' (F ++ L)):=rA hown';have B6:Hid (Below w.heap.size w w6):=dC B.out RG.out hgrow;clear hown' hgrow hblk)
      go_roundw
      case rel=>exact⟨j+1,by omega,by go_num,by rw [NX.out];exact A6.out,B6.out⟩
      case measure=>simp [intOf];omega
    ·have j1:¬ (j:Int) < (m:Int):=by omega
     have E2:Hid (V.take j=V):=aD (j9 (by rw [HM.out];omega))
     rw [E2.out] at RG ⊢
     go_wp2
     go_ret
     exact⟨_,rfl,RG.out,B.out⟩
def num(c:Int):Prop:=-9223372036854775808<=c/\c<=9223372036854775807
theorem bL5{w:World}{v:Value}{L:List (Int × Int)}{m:Bool}(h:ArgR w v L)(hF:Fit L)(hl:L.length+3<=8796093022208) :
  Calls Tryz.prog 205 #[v,.bool m] w (xG w (fun c=>In L c/\bP m c) (L.length+2)):=by
 have H:Hid (ArgR w v L/\Fit L):=⟨h,hF⟩
 have hl1:L.length<=8796093022208:=by omega
 clear h hF
 go_enter Tryz.func205,Tryz.ntmps205
 go_wp2_with first
  |(go_at_call 206;refine(iM H.out.1 H.out.2 hl1).mono ?_;rintro e w5 ⟨v5,C5,rfl,h1,h2,h3,h4⟩;have X5:Hid (RR w.heap.size w5 v5 C5/\IsC C5 (In L)/\C5.length<=L.length/\Below w.heap.size w w5):=⟨h1,h2,h3,h4⟩;clear h1 h2 h3 h4)
  |(go_at_call 212;refine(bG4 m _).mono ?_;rintro e w6 ⟨v6,rfl,h1,h2⟩;have X6:Hid (RR w5.heap.size w6 v6 (dR m)/\Below w5.heap.size w5 w6):=⟨h1,h2⟩;clear h1 h2)
  |(go_at_call 211;refine(zS (X5.out.1.kept X6.out.2).arg X6.out.1.arg X5.out.2.1.cls (kE m).cls X5.out.2.1.fit (kE m).fit (by have:=X5.out.2.2.1;have:=jO m;omega)).mono ?_;rintro e w7 ⟨v7,C7,rfl,h1,h2,h3,h4⟩;have X7:Hid (RR w6.heap.size w7 v7 C7/\IsC C7 (fun c=>In C5 c/\In (dR m) c)/\C7.length<=C5.length+(dR m).length/\Below w6.heap.size w6 w7):=⟨h1,h2,h3,h4⟩;clear h1 h2 h3 h4)
 go_ret
 have B6:=aJ X5.out.2.2.2 X6.out.2 lz9
 refine⟨_,_,rfl,X7.out.1.mono B6.size,X7.out.2.1.to fun c=>?_,?_,aJ B6 X7.out.2.2.2 lz9⟩
 ·rw [X5.out.2.1.mem,(kE m).mem]
 ·have:=X7.out.2.2.1
  have:=X5.out.2.2.1
  have:=jO m
  omega
theorem bO8{w:World}{va vb:Value}{A B:List (Int × Int)}(ha:ArgR w va A)(hb:ArgR w vb B)(fa:Fit A)(fb:Fit B)(hl:A.length+B.length+1<=8796093022208) :
  Calls Tryz.prog 215 #[va,vb] w (xG w (fun c=>In A c/\In B c) (A.length+B.length)):=by
 have H:Hid (ArgR w va A/\Fit A):=⟨ha,fa⟩
 have K:Hid (ArgR w vb B/\Fit B):=⟨hb,fb⟩
 have hl1:A.length<=8796093022208:=by omega
 have hl2:B.length<=8796093022208:=by omega
 clear ha hb fa fb
 go_enter Tryz.func215,Tryz.ntmps215
 go_wp2_with first
  |(have hx:=X5.out;clear hx;go_at_call 206;have hih:=iM (K.out.1.kept X5.out.2.2.2) K.out.2 hl2;refine hih.mono ?_;clear hih;rintro e w6 ⟨v6,C6,rfl,h1,h2,h3,h4⟩;have X6:Hid (RR w5.heap.size w6 v6 C6/\IsC C6 (In B)/\C6.length<=B.length/\Below w5.heap.size w5 w6):=⟨h1,h2,h3,h4⟩;clear h1 h2 h3 h4)
  |(go_at_call 206;refine(iM H.out.1 H.out.2 hl1).mono ?_;rintro e w5 ⟨v5,C5,rfl,h1,h2,h3,h4⟩;have X5:Hid (RR w.heap.size w5 v5 C5/\IsC C5 (In A)/\C5.length<=A.length/\Below w.heap.size w w5):=⟨h1,h2,h3,h4⟩;clear h1 h2 h3 h4)
  |(go_at_call 211;refine(zS (X5.out.1.kept X6.out.2.2.2).arg X6.out.1.arg X5.out.2.1.cls X6.out.2.1.cls X5.out.2.1.fit X6.out.2.1.fit (by have:=X5.out.2.2.1;have:=X6.out.2.2.1;omega)).mono ?_;rintro e w7 ⟨v7,C7,rfl,h1,h2,h3,h4⟩;have X7:Hid (RR w6.heap.size w7 v7 C7/\IsC C7 (fun c=>In C5 c/\In C6 c)/\C7.length<=C5.length+C6.length/\Below w6.heap.size w6 w7):=⟨h1,h2,h3,h4⟩;clear h1 h2 h3 h4)
 go_ret
 have B6:=aJ X5.out.2.2.2 X6.out.2.2.2 lz9
 refine⟨_,_,rfl,X7.out.1.mono B6.size,X7.out.2.1.to fun c=>?_,?_,aJ B6 X7.out.2.2.2 lz9⟩
 ·rw [X5.out.2.1.mem,X6.out.2.1.mem]
 ·have:=X7.out.2.2.1
  have:=X5.out.2.2.1
  have:=X6.out.2.2.1
  omega
theorem aU1{base:Nat}{w:World}{n:Nat}{v:Value}{L:List (Int × Int)}(h:w.ownsRow base 110 2 v n (aS L))(hn:L.length=n):RR base w v L:=by subst hn;exact h
def shK(C:List (Int × Int))(k:Nat)(d:Int):List (Int × Int):=C.mapIdx fun i r=>if i < k then (r.1+d,r.2+d) else r
theorem aT6(C:List (Int × Int))(d:Int):shK C 0 d=C:=by
 unfold shK
 apply List.ext_getElem
 ·simp
 ·intro i h1 h2;simp
theorem sB(C:List (Int × Int))(k:Nat)(d:Int):(shK C k d).length=C.length:=by simp [shK]
theorem bB1{C:List (Int × Int)}{k:Nat}{r:Int × Int}(h:C[k]?=some r)(d:Int):(shK C k d)[k]?=some r:=by
 simp [shK,h]
theorem bB0{C:List (Int × Int)}{k:Nat}{r:Int × Int}(h:C[k]?=some r)(d:Int):(shK C k d).set k (r.1+d,r.2+d)=shK C (k+1) d:=by
 obtain⟨hk,rfl⟩:=i5.1 h
 unfold shK
 apply List.ext_getElem
 ·simp
 ·intro i h1 h2
  rw [List.getElem_set]
  simp only [List.getElem_mapIdx]
  by_cases hik:k=i
  ·subst hik;simp
  ·rw [if_neg hik]
   by_cases q:i < k
   ·rw [if_pos q,if_pos (by omega)]
   ·rw [if_neg q,if_neg (by omega)]
theorem bB2(C:List (Int × Int))(d:Int):shK C C.length d=C.map fun r=>(r.1+d,r.2+d):=by
 unfold shK
 apply List.ext_getElem
 ·simp
 ·intro i h1 h2
  simp only [List.length_mapIdx] at h1
  simp [h1]
theorem kV(C:List (Int × Int))(d c:Int):In (C.map fun r=>(r.1+d,r.2+d)) c ↔ In C (c - d):=by
 unfold In
 constructor
 ·rintro ⟨r,hr,h1,h2⟩
  obtain⟨x,hx,rfl⟩:=aAM.1 hr
  exact⟨x,hx,by simp only at h1 h2;omega,by simp only at h1 h2;omega⟩
 ·rintro ⟨r,hr,h1,h2⟩
  exact⟨_,aAM.2 ⟨r,hr,rfl⟩,by simp only;omega,by simp only;omega⟩
theorem aJ1{w:World}{v:Value}{L:List (Int × Int)}{a b d:Int}(h:ArgR w v L)(hF:Fit L)(hl:L.length+2<=8796093022208)(h0:65<=a)(hab:a<=b)(h1:b<=122)(hd1:-32<=d)(hd2:d<=32) :
  Calls Tryz.prog 207 #[v,.agg #[.int .i64 a,.int .i64 b],.int .i64 d] w fun e w'=>∃ v' D,e=.returned v'/\RR w.heap.size w' v' D/\Fit D/\(∀ c,In D c ↔ In L (c - d)/\a<=c - d/\c - d<=b)/\D.length<=L.length+1/\Below w.heap.size w w':=by
 have H:Hid (ArgR w v L/\Fit L):=⟨h,hF⟩
 have FB:Hid (Fit [(a,b)]):=oW (by omega)
 have B2:Hid (Below w.heap.size w ((w.alloc (.cells #[.int .i64 a,.int .i64 b] 110)).alloc (.cells #[.int .i64 a,.int .i64 b] 110))):=(bz9).alloc (by simp) _
 have AB:Hid (ArgR ((w.alloc (.cells #[.int .i64 a,.int .i64 b] 110)).alloc (.cells #[.int .i64 a,.int .i64 b] 110)) (.slice (some ⟨w.heap.size+1,0,none⟩) 1 1) [(a,b)]):=aD <| by
  have:RR w.heap.size ((w.alloc (.cells #[.int .i64 a,.int .i64 b] 110)).alloc (.cells #[.int .i64 a,.int .i64 b] 110)) (.slice (some ⟨(w.alloc (.cells #[.int .i64 a,.int .i64 b] 110)).heap.size,0,none⟩) 1 1) [(a,b)]:=World.ownsRow_lit _ #[.int .i64 a,.int .i64 b] 1 (by simp) (by unfold maxLen;omega) rfl
  simpa using this.arg
 clear h hF
 go_enter Tryz.func207,Tryz.ntmps207
 go_wp2_with (go_at_call 215;refine(bO8 (H.out.1.kept B2.out) AB.out H.out.2 FB.out (by simp;omega)).mono ?_;rintro e w5 ⟨v5,C,rfl,p1,p2,p3,p4⟩;obtain⟨q5,c5,rfl⟩:=p1.shape;have X5:Hid (RR w.heap.size w5 (.slice q5 C.length c5) C/\IsC C (fun c=>In L c/\In [(a,b)] c)/\C.length<=L.length+1/\Below w.heap.size w w5):=⟨p1.mono B2.out.size,p2,p3,aJ B2.out p4 lz9⟩;clear p1 p2 p3 p4)
 have hcl:=X5.out.2.2.1
 have BD:Hid (∀ (i:Nat) (r:Int × Int),C[i]?=some r->(a<=r.1/\r.1<=b)/\(a<=r.2/\r.2<=b)):=fun i r hr=>by
  have hm:=i9 hr
  have hs:=X5.out.2.1.cls.some r hm
  have p:=((X5.out.2.1.mem r.1).1 ⟨r,hm,aAN _,hs⟩).2
  have q:=((X5.out.2.1.mem r.2).1 ⟨r,hm,hs,aAN _⟩).2
  rw [eK] at p q
  exact⟨p,q⟩
 go_loopw [15] (fun i wr=>∃ k:Nat,k<=C.length/\i=.int .i64 k/\RR w.heap.size wr (.slice q5 C.length c5) (shK C k d)/\Below w.heap.size w wr) (fun i _=>C.length - (intOf i).toNat)
 case atStart=>exact⟨0,m9 _,rfl,by rw [aT6];exact X5.out.1,X5.out.2.2.2⟩
 case round=>
  obtain⟨k,hk,rfl,hrr,hb⟩:=hrel
  have RK:Hid (RR w.heap.size wr (.slice q5 C.length c5) (shK C k d)):=hrr
  have B:Hid (Below w.heap.size w wr):=hb
  clear hrr hb
  by_cases hlt:k < C.length
  ·obtain⟨r,hr⟩:∃ r,C[k]?=some r:=⟨_,g9 hlt⟩
   have hbd:=BD.out k r hr
   have OW:Hid (wr.ownsRow w.heap.size 110 2 (.slice q5 C.length c5) C.length (aS (shK C k d))):=aD (by have:=RK.out;unfold RR at this;rwa [sB] at this)
   obtain⟨g,c',e⟩:=aL OW.out (by omega)
   cases e
   obtain⟨z1,z2⟩:=iW _ k r (bB1 hr d)
   have d1:=aU OW.out z1
   have d2:=aU OW.out z2
   rw [aAJ] at d1 d2
   have f1:=OW.out.frozenAt (k * 2)
   have f2:=OW.out.frozenAt (k * 2+1)
   have O2:Hid ((((wr.setCell ⟨g,k * 2,none⟩ (.int .i64 (r.1+d))).setCell ⟨g,k * 2+1,none⟩ (.int .i64 (r.2+d)))).ownsRow w.heap.size 110 2 (.slice (some ⟨g,0,none⟩) C.length c5) C.length (aS (shK C (k+1) d))):=aD (by
    have:=((OW.out.stored (k * 2) (.int .i64 (r.1+d))).1.stored (k * 2+1) (.int .i64 (r.2+d))).1
    rwa [sZ,bB0 hr] at this)
   have hgb:=(aH OW.out rfl).1
   have hgs:=(aH OW.out rfl).2.1
   have FB2:Hid (Below w.heap.size w ((wr.setCell ⟨g,k * 2,none⟩ (.int .i64 (r.1+d))).setCell ⟨g,k * 2+1,none⟩ (.int .i64 (r.2+d)))):=(B.out.setCell (p:=⟨g,k * 2,none⟩) hgb _).setCell (p:=⟨g,k * 2+1,none⟩) hgb _
   obtain⟨r1,r2⟩:=r
   dsimp only at d1 d2 hbd
   have w1:IntKind.wrap .i64 (r1+d)=r1+d:=by rw [IntKind.wrap_i64];omega
   have w2:IntKind.wrap .i64 (r2+d)=r2+d:=by rw [IntKind.wrap_i64];omega
   have i0:(0:Int)<=(k:Int):=by omega
   have i1:(k:Int) < (C.length:Int):=by omega
   clear z1 z2 hr hbd
   go_wp2
   go_roundw
   case rel=>exact⟨k+1,by omega,by go_num,aU1 O2.out (sB C (k+1) d),FB2.out⟩
   case measure=>simp [intOf];omega
  ·have i1:¬ (k:Int) < (C.length:Int):=by omega
   obtain rfl:k=C.length:=by omega
   rw [bB2] at RK
   go_wp2
   go_ret
   refine⟨_,rfl,_,RK.out,fun r hr=>?_,fun c=>?_,by simp;omega,B.out⟩
   ·obtain⟨x,hx,e⟩:=aAM.1 hr
    subst e
    obtain⟨i,hi⟩:=List.getElem?_of_mem hx
    have:=BD.out i x hi
    simp only
    omega
   ·rw [kV,X5.out.2.1.mem,eK]
section
attribute [local go_sem] bB
theorem oA{A B:List (Int × Int)}{k:Nat}{a b:Int × Int}(ha:A[k]?=some a)(hb:B[k]?=some b)(h:A.take k=B.take k):A.take (k+1)=B.take (k+1) ↔ a=b:=by
 obtain⟨h1,rfl⟩:=i5.1 ha
 obtain⟨h2,rfl⟩:=i5.1 hb
 rw [eH A k h1,eH B k h2,h]
 simp only [List.append_cancel_left_eq,List.cons.injEq,and_true]
theorem aK2{w:World}{va vb:Value}{A B:List (Int × Int)}(ha:ArgR w va A)(hb:ArgR w vb B) :
  Calls Tryz.prog 204 #[va,vb] w fun e w'=>e=.returned (.bool (decide (A=B)))/\Below w.heap.size w w':=by
 obtain⟨q1,cap1,rfl,hl1,-,hc1⟩:=ha.slice
 obtain⟨q2,cap2,rfl,hl2,-,hc2⟩:=hb.slice
 have HC1:Hid (∀ (i:Nat) (r:Int × Int),A[i]?=some r->∃ g off,q1=some ⟨g,off,none⟩/\g < w.heap.size/\w.cell? ⟨g,off+2 * i,none⟩=some (.int .i64 r.1)/\w.cell? ⟨g,off+2 * i+1,none⟩=some (.int .i64 r.2)):=hc1
 have HC2:Hid (∀ (i:Nat) (r:Int × Int),B[i]?=some r->∃ g off,q2=some ⟨g,off,none⟩/\g < w.heap.size/\w.cell? ⟨g,off+2 * i,none⟩=some (.int .i64 r.1)/\w.cell? ⟨g,off+2 * i+1,none⟩=some (.int .i64 r.2)):=hc2
 clear hc1 hc2 ha hb
 unfold maxLen at hl1 hl2
 by_cases hne:A.length=B.length
 ·have HNE:Hid (A.length=B.length):=hne
  rw [<- hne]
  have b1:(((A.length:Nat):Int) != ((A.length:Nat):Int))=false:=by simp
  clear hne hl2
  go_enter Tryz.func204,Tryz.ntmps204
  go_wp2
  go_loopw [13] (fun i wr=>∃ k:Nat,k<=A.length/\i=.int .i64 k/\A.take k=B.take k/\Below w.heap.size w wr) (fun i _=>A.length - (intOf i).toNat)
  case atStart=>exact⟨0,m9 _,rfl,by simp,Below.refl _ _⟩
  case round=>
   obtain⟨k,hk,rfl,ht,hbl⟩:=hrel
   have HT:Hid (A.take k=B.take k):=ht
   have BW:Hid (Below w.heap.size w wr):=hbl
   clear ht hbl
   by_cases hlt:k < A.length
   ·obtain⟨a,ea⟩:∃ r,A[k]?=some r:=⟨_,g9 hlt⟩
    obtain⟨b,eb⟩:∃ r,B[k]?=some r:=⟨_,g9 (by have:=HNE.out;omega)⟩
    obtain⟨g1,o1,rfl,hg1,x1,x2⟩:=HC1.out k _ ea
    obtain⟨g2,o2,rfl,hg2,y1,y2⟩:=HC2.out k _ eb
    have d1:=(BW.out.cell (p:=⟨g1,o1+2 * k,none⟩) hg1).trans x1
    have d2:=(BW.out.cell (p:=⟨g1,o1+2 * k+1,none⟩) hg1).trans x2
    have d3:=(BW.out.cell (p:=⟨g2,o2+2 * k,none⟩) hg2).trans y1
    have d4:=(BW.out.cell (p:=⟨g2,o2+2 * k+1,none⟩) hg2).trans y2
    rw [aAJ] at d1 d2 d3 d4
    have s1:g1 < wr.heap.size:=i6 hg1 BW.out.size
    have s2:g2 < wr.heap.size:=i6 hg2 BW.out.size
    have NX:Hid (A.take (k+1)=B.take (k+1) ↔ a=b):=oA ea eb HT.out
    have NE:Hid (a≠b->¬ A=B):=fun q e=>by subst e;rw [ea] at eb;exact q (aAP eb)
    have i0:(0:Int)<=(k:Int):=by omega
    have i1:(k:Int) < (A.length:Int):=by omega
    obtain⟨a1,a2⟩:=a
    obtain⟨b1',b2⟩:=b
    dsimp only at d1 d2 d3 d4
    clear x1 x2 y1 y2 ea eb
    by_cases e1:a1=b1'
    ·by_cases e2:a2=b2
     ·subst e1 e2
      have f1:(a1==a1)=true:=by simp
      have f2:(a2==a2)=true:=by simp
      have NX2:Hid (A.take (k+1)=B.take (k+1)):=NX.out.2 rfl
      clear NX NE
      go_wp2
      refine wx9 ?_
      repeat (go_big_quiet_step (first | exact rfl))
      refine wpQuiet_nil ?_
      intro w7 hw7
      have B7:Hid (Below wr.heap.size wr w7):=aQ hw7
      clear hw7
      go_wp2
      go_roundw
      case rel=>exact⟨k+1,by omega,by go_num,NX2.out,aJ BW.out B7.out lz9⟩
      case measure=>simp [intOf];omega
     ·subst e1
      have f1:(a1==a1)=true:=by simp
      have f2:(a2==b2)=false:=by simp [e2]
      have N2:Hid (decide (A=B)=false):=l8 (NE.out (fun q=>e2 (Prod.mk.inj q).2))
      clear NX NE
      go_wp2
      refine wx9 ?_
      repeat (go_big_quiet_step (first | exact rfl))
      refine wpQuiet_nil ?_
      intro w7 hw7
      have B7:Hid (Below wr.heap.size wr w7):=aQ hw7
      clear hw7
      go_wp2
      go_ret
      exact⟨by rw [N2.out];rfl,aJ BW.out B7.out lz9⟩
    ·have f1:(a1==b1')=false:=by simp [e1]
     have N2:Hid (decide (A=B)=false):=l8 (NE.out (fun q=>e1 (Prod.mk.inj q).1))
     clear NX NE
     go_wp2
     refine wx9 ?_
     repeat (go_big_quiet_step (first | exact rfl))
     refine wpQuiet_nil ?_
     intro w7 hw7
     have B7:Hid (Below wr.heap.size wr w7):=aQ hw7
     clear hw7
     go_wp2
     go_ret
     exact⟨by rw [N2.out];rfl,aJ BW.out B7.out lz9⟩
   ·have i1:¬ (k:Int) < (A.length:Int):=by omega
    have EE:Hid (decide (A=B)=true):=r8 (by
     have e:=HT.out
     rw [j9 (by omega),j9 (by have:=HNE.out;omega)] at e
     exact e)
    go_wp2
    go_ret
    exact⟨by rw [EE.out];rfl,BW.out⟩
 ·have EE:Hid (decide (A=B)=false):=l8 (fun e=>hne (by rw [e]))
  have b1:(((A.length:Nat):Int) != ((B.length:Nat):Int))=true:=by simp;omega
  go_enter Tryz.func204,Tryz.ntmps204
  go_wp2
  go_ret
  exact⟨by rw [EE.out];rfl,Below.refl _ _⟩
end
def oV(L:List (Int × Int))(c:Int):Prop:=In L c\/(In L (c - 32)/\65<=c - 32/\c - 32<=90)\/(In L (c+32)/\97<=c+32/\c+32<=122)
theorem aC8{w:World}{va vb vc:Value}{A B C:List (Int × Int)}(ha:ArgR w va A)(hb:ArgR w vb B)(hc:ArgR w vc C)(t:TypeId):∀ (i:Nat) (p:Value × List (Int × Int)),[(va,A),(vb,B),(vc,C)][i]?=some p->(w.alloc (.cells #[va,vb,vc] t)).cell? ⟨w.heap.size,i,none⟩=some p.1/\ArgR (w.alloc (.cells #[va,vb,vc] t)) p.1 p.2:=by
 have B1:Below w.heap.size w (w.alloc (.cells #[va,vb,vc] t)):=bz9
 intro i p hp
 match i,hp with
 | 0,hp=>simp at hp;subst hp;exact⟨aA (aE w _) (i:=0) rfl,ha.kept B1⟩
 | 1,hp=>simp at hp;subst hp;exact⟨aA (aE w _) (i:=1) rfl,hb.kept B1⟩
 | 2,hp=>simp at hp;subst hp;exact⟨aA (aE w _) (i:=2) rfl,hc.kept B1⟩
theorem bG2{w:World}{va vb vc:Value}{A B C:List (Int × Int)}(ha:ArgR w va A)(hb:ArgR w vb B)(hc:ArgR w vc C)(hl:A.length+B.length+C.length+1<=8796093022208) :
  Calls Tryz.prog 208 #[.slice (some ⟨w.heap.size,0,none⟩) 3 3] (w.alloc (.cells #[va,vb,vc] 22)) fun e w'=>∃ v,e=.returned v/\RR w.heap.size w' v (A ++ (B ++ C))/\Below w.heap.size w w':=
 (aY7 (V:=[(va,A),(vb,B),(vc,C)]) (m:=3) rfl (aC8 ha hb hc 22) (by simp) (by omega) (by simp [iJ];omega)).mono fun e w' ⟨v,h1,h2,h3⟩=>⟨v,h1,by have:=h2.mono (base':=w.heap.size) (by simp);simpa [iJ] using this,aJ (bz9) h3 lz9⟩
theorem bM6{w:World}{v:Value}{L:List (Int × Int)}(h:ArgR w v L)(hF:Fit L)(hl:3 * L.length+9<=8796093022208) :
  Calls Tryz.prog 192 #[v] w (xG w (oV L) (3 * L.length+2)):=by
 obtain⟨q1,k1,e1,-,-,-⟩:=h.slice
 subst e1
 have H:Hid (ArgR w (.slice q1 L.length k1) L/\Fit L):=⟨h,hF⟩
 have hl1:L.length+2<=8796093022208:=by omega
 clear h hF
 go_enter Tryz.func192,Tryz.ntmps192
 go_wp2_with first
  |(have hx:=X5.out;clear hx;go_at_call 207;have hih:=aJ1 (a:=97) (b:=122) (d:=-32) (H.out.1.kept X5.out.2.2.2.2) H.out.2 hl1 (by omega) (by omega) (by omega) (by omega) (by omega);refine hih.mono ?_;clear hih;rintro e w6 ⟨v6,D6,rfl,h1,h2,h3,h4,h5⟩;obtain⟨q6,c6,rfl⟩:=h1.shape;have X6:Hid (RR w5.heap.size w6 (.slice q6 D6.length c6) D6/\Fit D6/\(∀ c,In D6 c ↔ In L (c - -32)/\97<=c - -32/\c - -32<=122)/\D6.length<=L.length+1/\Below w5.heap.size w5 w6):=⟨h1,h2,h3,h4,h5⟩;clear h1 h2 h3 h4 h5)
  |(go_at_call 207;have hih:=aJ1 (a:=65) (b:=90) (d:=32) H.out.1 H.out.2 hl1 (by omega) (by omega) (by omega) (by omega) (by omega);refine hih.mono ?_;clear hih;rintro e w5 ⟨v5,D5,rfl,h1,h2,h3,h4,h5⟩;obtain⟨q5,c5,rfl⟩:=h1.shape;have X5:Hid (RR w.heap.size w5 (.slice q5 D5.length c5) D5/\Fit D5/\(∀ c,In D5 c ↔ In L (c - 32)/\65<=c - 32/\c - 32<=90)/\D5.length<=L.length+1/\Below w.heap.size w w5):=⟨h1,h2,h3,h4,h5⟩;clear h1 h2 h3 h4 h5)
  |(go_at_call 208;refine(bG2 ((H.out.1.kept X5.out.2.2.2.2).kept X6.out.2.2.2.2) (X5.out.1.kept X6.out.2.2.2.2).arg X6.out.1.arg (by have:=X5.out.2.2.2.1;have:=X6.out.2.2.2.1;omega)).mono ?_;rintro e w7 ⟨v7,rfl,h1,h2⟩;have X7:Hid (RR w6.heap.size w7 v7 (L ++ (D5 ++ D6))/\Below w6.heap.size w6 w7):=⟨h1,h2⟩;clear h1 h2)
  |(go_at_call 206;refine(iM X7.out.1.arg (eA H.out.2 (eA X5.out.2.1 X6.out.2.1)) (by have:=X5.out.2.2.2.1;have:=X6.out.2.2.2.1;simp;omega)).mono ?_;rintro e w8 ⟨v8,C8,rfl,h1,h2,h3,h4⟩;have X8:Hid (RR w7.heap.size w8 v8 C8/\IsC C8 (In (L ++ (D5 ++ D6)))/\C8.length<=(L ++ (D5 ++ D6)).length/\Below w7.heap.size w7 w8):=⟨h1,h2,h3,h4⟩;clear h1 h2 h3 h4)
 go_ret
 have B7:=aJ (aJ X5.out.2.2.2.2 X6.out.2.2.2.2 lz9) X7.out.2 lz9
 refine⟨_,_,rfl,X8.out.1.mono B7.size,X8.out.2.1.to fun c=>?_,?_,aJ B7 X8.out.2.2.2 lz9⟩
 ·rw [cH,cH,X5.out.2.2.1,X6.out.2.2.1]
  unfold oV
  rw [show c - -32=c+32 by omega]
 ·have:=X8.out.2.2.1
  have:=X5.out.2.2.2.1
  have:=X6.out.2.2.2.1
  simp at *
  omega
theorem bK5{w:World}{va vb:Value}{A B:List (Int × Int)}(ha:ArgR w va A)(hb:ArgR w vb B)(fa:Fit A)(fb:Fit B)(hl1:A.length<=8796093022208)(hl2:B.length<=8796093022208) :
  Calls Tryz.prog 191 #[va,vb] w fun e w'=>∃ b:Bool,e=.returned (.bool b)/\(b=true ↔ ∀ c,In A c ↔ In B c)/\Below w.heap.size w w':=by
 have H:Hid (ArgR w va A/\Fit A):=⟨ha,fa⟩
 have K:Hid (ArgR w vb B/\Fit B):=⟨hb,fb⟩
 clear ha hb fa fb
 go_enter Tryz.func191,Tryz.ntmps191
 go_wp2_with first
  |(have hx:=X5.out;clear hx;go_at_call 206;have hih:=iM (K.out.1.kept X5.out.2.2.2) K.out.2 hl2;refine hih.mono ?_;clear hih;rintro e w6 ⟨v6,C6,rfl,h1,h2,h3,h4⟩;have X6:Hid (RR w5.heap.size w6 v6 C6/\IsC C6 (In B)/\C6.length<=B.length/\Below w5.heap.size w5 w6):=⟨h1,h2,h3,h4⟩;clear h1 h2 h3 h4)
  |(go_at_call 206;refine(iM H.out.1 H.out.2 hl1).mono ?_;rintro e w5 ⟨v5,C5,rfl,h1,h2,h3,h4⟩;have X5:Hid (RR w.heap.size w5 v5 C5/\IsC C5 (In A)/\C5.length<=A.length/\Below w.heap.size w w5):=⟨h1,h2,h3,h4⟩;clear h1 h2 h3 h4)
  |(go_at_call 204;refine(aK2 (X5.out.1.kept X6.out.2.2.2).arg X6.out.1.arg).mono ?_;obtain⟨bb,hbb⟩:∃ bb,decide (C5=C6)=bb:=⟨_,rfl⟩;rw [hbb];have EB:Hid (decide (C5=C6)=bb):=hbb;clear hbb;rintro e w7 ⟨rfl,h1⟩;have X7:Hid (Below w6.heap.size w6 w7):=h1;clear h1)
 go_ret
 refine⟨bb,rfl,?_,aJ (aJ X5.out.2.2.2 X6.out.2.2.2 lz9) X7.out lz9⟩
 rw [<- EB.out,decide_eq_true_iff]
 constructor
 ·intro e c
  rw [<- X5.out.2.1.mem,<- X6.out.2.1.mem,e]
 ·intro e
  exact X5.out.2.1.one X6.out.2.1 e
theorem aH3{w:World}{v:Value}{L:List (Int × Int)}{m:Bool}(h:ArgR w v L)(hF:Fit L)(hl:L.length+3<=8796093022208) :
  Calls Tryz.prog 190 #[v,.bool m] w fun e w'=>∃ b:Bool,e=.returned (.bool b)/\(b=true ↔ IsC L (fun c=>In L c/\bP m c))/\Below w.heap.size w w':=by
 have H:Hid (ArgR w v L/\Fit L):=⟨h,hF⟩
 clear h hF
 go_enter Tryz.func190,Tryz.ntmps190
 go_wp2_with first
  |(go_at_call 205;refine(bL5 H.out.1 H.out.2 hl).mono ?_;rintro e w5 ⟨v5,C5,rfl,h1,h2,h3,h4⟩;have X5:Hid (RR w.heap.size w5 v5 C5/\IsC C5 (fun c=>In L c/\bP m c)/\C5.length<=L.length+2/\Below w.heap.size w w5):=⟨h1,h2,h3,h4⟩;clear h1 h2 h3 h4)
  |(go_at_call 204;refine(aK2 (H.out.1.kept X5.out.2.2.2) X5.out.1.arg).mono ?_;obtain⟨bb,hbb⟩:∃ bb,decide (L=C5)=bb:=⟨_,rfl⟩;rw [hbb];have EB:Hid (decide (L=C5)=bb):=hbb;clear hbb;rintro e w7 ⟨rfl,h1⟩;have X7:Hid (Below w5.heap.size w5 w7):=h1;clear h1)
 go_ret
 refine⟨bb,rfl,?_,aJ X5.out.2.2.2 X7.out lz9⟩
 rw [<- EB.out,decide_eq_true_iff]
 constructor
 ·intro e
  have h2:=X5.out.2.1
  rw [<- e] at h2
  exact h2
 ·intro e
  exact e.one X5.out.2.1 fun _=>Iff.rfl
theorem aP9{m:Bool}{c:Int}(h:bP m c):0<=c/\c < 1114112:=by
 obtain⟨h1,h2,_⟩:=h
 unfold top at h2
 split at h2 <;> omega
theorem aK6:∀ (C:List (Int × Int)) (lo hi:Int),Cls C->(∀ c,In C c->lo<=c/\c<=hi)->C=[]\/2 * (C.length:Int)<=hi - lo+2
 | [],_,_,_,_=>.inl rfl
 | r :: C,lo,hi,h,hb=>by
  have hr:=gK h
  have b1:=hb r.1 ((cQ ..).2 (.inl ⟨aAN _,hr⟩))
  have b2:=hb r.2 ((cQ ..).2 (.inl ⟨hr,aAN _⟩))
  refine .inr ?_
  rcases aK6 C (r.2+2) hi (mD h) (fun c hc=>⟨by have:=eI h hc;omega,(hb c ((cQ ..).2 (.inr hc))).2⟩) with rfl | q
  ·simp;omega
  ·simp;omega
theorem aZ1{C:List (Int × Int)}{p:Int->Prop}{m:Bool}(h:IsC C p)(hc:∀ c,p c->bP m c):C.length<=600000:=by
 rcases aK6 C 0 1114111 h.cls (fun c q=>by have:=aP9 (hc c ((h.mem c).1 q));omega) with rfl | q
 ·simp
 ·omega
section
attribute [local go_sem] bB
def oE(c f:Bool)(L:List (Int × Int)):Prop:=IsC L (fun x=>In L x/\bP c x)/\(f=true->∀ x,In L x ↔ oV L x)
theorem sE{c:Bool}{L:List (Int × Int)}(h:IsC L (fun x=>In L x/\bP c x)):L.length<=600000:=aZ1 (m:=c) h (fun _ q=>q.2)
theorem sH{w:World}{q:Option Addr}{k:Nat}{L:List (Int × Int)}(c f:Bool)(h:ArgR w (.slice q L.length k) L)(hF:Fit L)(hl:L.length+3<=8796093022208) :
  Calls Tryz.prog 160 #[.slice q L.length k,.agg #[.bool c,.bool f]] w fun e w'=>∃ r:Bool,e=.returned (.bool r)/\(r=true ↔ oE c f L)/\Below w.heap.size w w':=by
 have H:=aD h
 have B1:Hid (Below w.heap.size w (w.alloc (.cells #[.bool c,.bool f] 27))):=bz9
 have N1:=aE w (.cells #[.bool c,.bool f] 27)
 have m0:(w.alloc (.cells #[.bool c,.bool f] 27)).cell? ⟨w.heap.size,0,none⟩=some (.bool c):=aA N1 (i:=0) rfl
 clear h
 by_cases hc:IsC L (fun x=>In L x/\bP c x)
 ·have hlen:=sE hc
  have HC:=aD hc
  have HR:Hid (∀ W:World,Below w.heap.size w W->Calls Tryz.prog 190 #[.slice q L.length k,.bool c] W fun e w'=>e=.returned (.bool true)/\Below W.heap.size W w'):=fun W hW=>(aH3 (m:=c) (H.out.kept hW) hF hl).mono fun e w' ⟨b,h1,h2,h3⟩=>⟨by rw [h1,h2.2 HC.out],h3⟩
  clear hc
  cases f with
  | false=>
   go_enter Tryz.func160,Tryz.ntmps160
   go_wp2_with (go_at_call 190;(with_reducible refine(HR.out _ B1.out).mono ?_);rintro e w2 ⟨rfl,h2⟩;have B2:Hid (Below w.heap.size w w2):=aJ B1.out h2 lz9;have m1:w2.cell? ⟨w.heap.size,1,none⟩=some (.bool false):=(h2.cell (p:=⟨w.heap.size,1,none⟩) (aB N1)).trans (aA N1 (i:=1) rfl);clear h2)
   go_ret
   exact⟨true,rfl,by simp [oE,HC.out],B2.out⟩
  | true=>
   go_enter Tryz.func160,Tryz.ntmps160
   go_wp2_with first |(go_at_call 190;(with_reducible refine(HR.out _ B1.out).mono ?_);rintro e w2 ⟨rfl,h2⟩;have B2:Hid (Below w.heap.size w w2):=aJ B1.out h2 lz9;have m1:w2.cell? ⟨w.heap.size,1,none⟩=some (.bool true):=(h2.cell (p:=⟨w.heap.size,1,none⟩) (aB N1)).trans (aA N1 (i:=1) rfl);clear h2) |(go_at_call 192;(with_reducible refine(bM6 (H.out.kept B2.out) hF (by omega)).mono ?_);rintro e w3 ⟨v3,C3,rfl,h31,h32,h33,h34⟩;obtain⟨q3,c3,rfl⟩:=h31.shape;have X3:Hid (RR w2.heap.size w3 (.slice q3 C3.length c3) C3/\IsC C3 (oV L)/\C3.length<=3 * L.length+2/\Below w.heap.size w w3):=⟨h31,h32,h33,aJ B2.out h34 lz9⟩;clear h31 h32 h33 h34) |(go_at_call 191;(with_reducible refine(bK5 (H.out.kept X3.out.2.2.2) X3.out.1.arg hF X3.out.2.1.fit (by omega) (by have:=X3.out.2.2.1;omega)).mono ?_);rintro e w4 ⟨r4,rfl,h41,h42⟩;have X4:Hid ((r4=true ↔ ∀ x,In L x ↔ In C3 x)/\Below w.heap.size w w4):=⟨h41,aJ X3.out.2.2.2 h42 lz9⟩;clear h41 h42)
   go_ret
   refine⟨r4,rfl,?_,X4.out.2⟩
   rw [X4.out.1]
   unfold oE
   constructor
   ·intro h
    exact⟨HC.out,fun _ x=>(h x).trans (X3.out.2.1.mem x)⟩
   ·intro h x
    exact(h.2 rfl x).trans (X3.out.2.1.mem x).symm
 ·have HC:=aD hc
  have HR:Hid (∀ W:World,Below w.heap.size w W->Calls Tryz.prog 190 #[.slice q L.length k,.bool c] W fun e w'=>e=.returned (.bool false)/\Below W.heap.size W w'):=fun W hW=>(aH3 (m:=c) (H.out.kept hW) hF hl).mono fun e w' ⟨b,h1,h2,h3⟩=>⟨by
   cases b with
   | false=>exact h1
   | true=>exact absurd (h2.1 rfl) HC.out,h3⟩
  clear hc
  go_enter Tryz.func160,Tryz.ntmps160
  go_wp2_with (go_at_call 190;(with_reducible refine(HR.out _ B1.out).mono ?_);rintro e w2 ⟨rfl,h2⟩;have B2:Hid (Below w.heap.size w w2):=aJ B1.out h2 lz9;clear h2)
  go_ret
  exact⟨false,rfl,by simp [oE,HC.out],B2.out⟩
def bG(c f:Bool)(g:Int)(F:Fl):Prop:=
 if F.k=2 then oE c f F.rs/\F.n=0/\F.mn=0/\F.mx=0
 else if F.k=7 then F.n=g/\F.mn=0/\F.mx=0/\F.rs.length=0
 else if F.k=8 then (1<=F.n/\F.n<=9)/\F.mn=0/\F.mx=0/\F.rs.length=0
 else if F.k=9 then fU F.mn F.mx=true/\F.n=0/\F.rs.length=0
 else F.n=0/\F.mn=0/\F.mx=0/\F.rs.length=0
theorem pE{n:Nat}{w W:World}(h:Below n w W){b:Nat}(hb:n<=b)(j:Nat)(u:Value)(hn:n<=w.heap.size):Below n w (W.setCell ⟨b,j,none⟩ u):=
 bC h (S:=fun z=>z=b) ((Fr.refl (fun z=>z=b) W).setCell (p:=⟨b,j,none⟩) rfl u) hn (fun k e=>by omega)
theorem tU{w:World}(F:Fl)(c f:Bool)(g:Int)(h:ArgR w (.slice F.rq F.rs.length F.rc) F.rs)(hF:Fit F.rs)(hl:F.rs.length+3<=8796093022208) :
  Calls Tryz.prog 132 #[.agg #[.int .i64 F.k,.int .i64 F.n,.int .i64 F.mn,.int .i64 F.mx,.slice F.rq F.rs.length F.rc,.slice F.kq F.kl F.kc],.agg #[.bool c,.bool f],.int .i64 g] w fun e w'=>∃ r:Bool,e=.returned (.bool r)/\(r=true ↔ bG c f g F)/\Below w.heap.size w w':=by
 obtain⟨r,hr⟩:∃ r:Bool,r=true ↔ bG c f g F:=⟨@decide (bG c f g F) (Classical.propDecidable _),by simp⟩
 suffices hs:Calls Tryz.prog 132 #[.agg #[.int .i64 F.k,.int .i64 F.n,.int .i64 F.mn,.int .i64 F.mx,.slice F.rq F.rs.length F.rc,.slice F.kq F.kl F.kc],.agg #[.bool c,.bool f],.int .i64 g] w fun e w'=>e=.returned (.bool r)/\Below w.heap.size w w' from hs.mono fun e w' ⟨h1,h2⟩=>⟨r,h1,hr,h2⟩
 have HR:=aD hr
 clear hr
 have B1:Hid (Below w.heap.size w ((w.alloc (.cells #[.int .i64 F.k,.int .i64 F.n,.int .i64 F.mn,.int .i64 F.mx,.slice F.rq F.rs.length F.rc,.slice F.kq F.kl F.kc] 25)).alloc (.cells #[.bool c,.bool f] 27))):=(bz9).alloc (by simp) _
 have N1:Hid (BoxN ((w.alloc (.cells #[.int .i64 F.k,.int .i64 F.n,.int .i64 F.mn,.int .i64 F.mx,.slice F.rq F.rs.length F.rc,.slice F.kq F.kl F.kc] 25)).alloc (.cells #[.bool c,.bool f] 27)) w.heap.size F):=(Below.heap_alloc _ _ _ (by simp)).trans (aE w _)
 have M1:Hid (((w.alloc (.cells #[.int .i64 F.k,.int .i64 F.n,.int .i64 F.mn,.int .i64 F.mx,.slice F.rq F.rs.length F.rc,.slice F.kq F.kl F.kc] 25)).alloc (.cells #[.bool c,.bool f] 27)).heap[w.heap.size+1]?=some (.cells #[.bool c,.bool f] 27 (0,0))):=(by
  have:=aE (w.alloc (.cells #[.int .i64 F.k,.int .i64 F.n,.int .i64 F.mn,.int .i64 F.mx,.slice F.rq F.rs.length F.rc,.slice F.kq F.kl F.kc] 25)) (.cells #[.bool c,.bool f] 27)
  rwa [a7] at this)
 have H:=aD h
 obtain⟨k,n,mn,mx,rs,rq,rc,kq,kl,kc⟩:=F
 dsimp only at *
 have m0:((w.alloc (.cells #[.int .i64 k,.int .i64 n,.int .i64 mn,.int .i64 mx,.slice rq rs.length rc,.slice kq kl kc] 25)).alloc (.cells #[.bool c,.bool f] 27)).cell? ⟨w.heap.size+1,0,none⟩=some (.bool c):=aA M1.out (i:=0) rfl
 have m1:((w.alloc (.cells #[.int .i64 k,.int .i64 n,.int .i64 mn,.int .i64 mx,.slice rq rs.length rc,.slice kq kl kc] 25)).alloc (.cells #[.bool c,.bool f] 27)).cell? ⟨w.heap.size+1,1,none⟩=some (.bool f):=aA M1.out (i:=1) rfl
 obtain⟨c0,c1,c2,c3,c4,c5⟩:=N1.out.six
 simp only [g8] at c1 c2 c3 c4 c5
 have fz:=fun j=>aG N1.out j
 have ln:=aB N1.out
 clear h
 by_cases k2:k=2
 ·subst k2
  by_cases z0:oE c f rs
  ·have HS:Hid (∀ W:World,Below w.heap.size w W->Calls Tryz.prog 160 #[.slice rq rs.length rc,.agg #[.bool c,.bool f]] W fun e w'=>e=.returned (.bool true)/\Below W.heap.size W w'):=fun W hW=>(sH c f (H.out.kept hW) hF hl).mono fun e w' ⟨b,h1,h2,h3⟩=>⟨by rw [h1];cases b <;> simp_all,h3⟩
   by_cases z1:n=0
   ·subst z1
    by_cases z2:mn=0
    ·subst z2
     by_cases z3:mx=0
     ·subst z3
      have R:r=true:=HR.out.2 (by unfold bG;simp_all)
      subst R
      go_enter Tryz.func132,Tryz.ntmps132
      go_wp2_with (go_at_call 160;(with_reducible refine(HS.out _ B1.out).mono ?_);rintro e w2 ⟨rfl,h2⟩;have B2:Hid (Below w.heap.size w (w2.setCell ⟨w.heap.size,4,none⟩ (.slice none 0 0))):=pE (aJ B1.out h2 lz9) lz9 _ _ lz9;have N2:BoxN w2 w.heap.size _:=(h2.block _ (aB N1.out)).trans N1.out;obtain⟨d0,d1,d2,d3,d4,d5⟩:=N2.six;simp only [g8] at d1 d2 d3 d4 d5;have gz:=aG N2 4;have p1:=aI (j:=4) (u:=.slice none 0 0) d1 (by decide);have p2:=aI (j:=4) (u:=.slice none 0 0) d2 (by decide);have p3:=aI (j:=4) (u:=.slice none 0 0) d3 (by decide);have p4:=n7 w2 ⟨w.heap.size,4,none⟩ (.slice none 0 0) d4;have ln2:=aB N2;clear h2 N2)
      go_ret
      exact⟨rfl,B2.out⟩
     ·have R:r=false:=(by cases r with | false=>rfl | true=>exact absurd (HR.out.1 rfl) (by unfold bG;simp_all <;> omega))
      subst R
      have ez3:(mx==0)=false:=by simpa using z3
      go_enter Tryz.func132,Tryz.ntmps132
      go_wp2_with (go_at_call 160;(with_reducible refine(HS.out _ B1.out).mono ?_);rintro e w2 ⟨rfl,h2⟩;have B2:Hid (Below w.heap.size w (w2.setCell ⟨w.heap.size,4,none⟩ (.slice none 0 0))):=pE (aJ B1.out h2 lz9) lz9 _ _ lz9;have N2:BoxN w2 w.heap.size _:=(h2.block _ (aB N1.out)).trans N1.out;obtain⟨d0,d1,d2,d3,d4,d5⟩:=N2.six;simp only [g8] at d1 d2 d3 d4 d5;have gz:=aG N2 4;have p1:=aI (j:=4) (u:=.slice none 0 0) d1 (by decide);have p2:=aI (j:=4) (u:=.slice none 0 0) d2 (by decide);have p3:=aI (j:=4) (u:=.slice none 0 0) d3 (by decide);have p4:=n7 w2 ⟨w.heap.size,4,none⟩ (.slice none 0 0) d4;have ln2:=aB N2;clear h2 N2)
      go_ret
      exact⟨rfl,B2.out⟩
    ·have R:r=false:=(by cases r with | false=>rfl | true=>exact absurd (HR.out.1 rfl) (by unfold bG;simp_all <;> omega))
     subst R
     have ez2:(mn==0)=false:=by simpa using z2
     go_enter Tryz.func132,Tryz.ntmps132
     go_wp2_with (go_at_call 160;(with_reducible refine(HS.out _ B1.out).mono ?_);rintro e w2 ⟨rfl,h2⟩;have B2:Hid (Below w.heap.size w (w2.setCell ⟨w.heap.size,4,none⟩ (.slice none 0 0))):=pE (aJ B1.out h2 lz9) lz9 _ _ lz9;have N2:BoxN w2 w.heap.size _:=(h2.block _ (aB N1.out)).trans N1.out;obtain⟨d0,d1,d2,d3,d4,d5⟩:=N2.six;simp only [g8] at d1 d2 d3 d4 d5;have gz:=aG N2 4;have p1:=aI (j:=4) (u:=.slice none 0 0) d1 (by decide);have p2:=aI (j:=4) (u:=.slice none 0 0) d2 (by decide);have p3:=aI (j:=4) (u:=.slice none 0 0) d3 (by decide);have p4:=n7 w2 ⟨w.heap.size,4,none⟩ (.slice none 0 0) d4;have ln2:=aB N2;clear h2 N2)
     go_ret
     exact⟨rfl,B2.out⟩
   ·have R:r=false:=(by cases r with | false=>rfl | true=>exact absurd (HR.out.1 rfl) (by unfold bG;simp_all <;> omega))
    subst R
    have ez1:(n==0)=false:=by simpa using z1
    go_enter Tryz.func132,Tryz.ntmps132
    go_wp2_with (go_at_call 160;(with_reducible refine(HS.out _ B1.out).mono ?_);rintro e w2 ⟨rfl,h2⟩;have B2:Hid (Below w.heap.size w (w2.setCell ⟨w.heap.size,4,none⟩ (.slice none 0 0))):=pE (aJ B1.out h2 lz9) lz9 _ _ lz9;have N2:BoxN w2 w.heap.size _:=(h2.block _ (aB N1.out)).trans N1.out;obtain⟨d0,d1,d2,d3,d4,d5⟩:=N2.six;simp only [g8] at d1 d2 d3 d4 d5;have gz:=aG N2 4;have p1:=aI (j:=4) (u:=.slice none 0 0) d1 (by decide);have p2:=aI (j:=4) (u:=.slice none 0 0) d2 (by decide);have p3:=aI (j:=4) (u:=.slice none 0 0) d3 (by decide);have p4:=n7 w2 ⟨w.heap.size,4,none⟩ (.slice none 0 0) d4;have ln2:=aB N2;clear h2 N2)
    go_ret
    exact⟨rfl,B2.out⟩
  ·have HS:Hid (∀ W:World,Below w.heap.size w W->Calls Tryz.prog 160 #[.slice rq rs.length rc,.agg #[.bool c,.bool f]] W fun e w'=>e=.returned (.bool false)/\Below W.heap.size W w'):=fun W hW=>(sH c f (H.out.kept hW) hF hl).mono fun e w' ⟨b,h1,h2,h3⟩=>⟨by rw [h1];cases b <;> simp_all,h3⟩
   have R:r=false:=(by cases r with | false=>rfl | true=>exact absurd (HR.out.1 rfl) (by unfold bG;simp_all))
   subst R
   go_enter Tryz.func132,Tryz.ntmps132
   go_wp2_with (go_at_call 160;(with_reducible refine(HS.out _ B1.out).mono ?_);rintro e w2 ⟨rfl,h2⟩;have B2:Hid (Below w.heap.size w (w2.setCell ⟨w.heap.size,4,none⟩ (.slice none 0 0))):=pE (aJ B1.out h2 lz9) lz9 _ _ lz9;have N2:BoxN w2 w.heap.size _:=(h2.block _ (aB N1.out)).trans N1.out;obtain⟨d0,d1,d2,d3,d4,d5⟩:=N2.six;simp only [g8] at d1 d2 d3 d4 d5;have gz:=aG N2 4;have p1:=aI (j:=4) (u:=.slice none 0 0) d1 (by decide);have p2:=aI (j:=4) (u:=.slice none 0 0) d2 (by decide);have p3:=aI (j:=4) (u:=.slice none 0 0) d3 (by decide);have p4:=n7 w2 ⟨w.heap.size,4,none⟩ (.slice none 0 0) d4;have ln2:=aB N2;clear h2 N2)
   go_ret
   exact⟨rfl,B2.out⟩
 ·have eb2:(k==2)=false:=by simpa using k2
  by_cases k7:k=7
  ·subst k7
   have p1:=n7 _ _ (.int .i64 0) c1
   have p2:=aI (j:=1) (u:=.int .i64 0) c2 (by decide)
   have p3:=aI (j:=1) (u:=.int .i64 0) c3 (by decide)
   have p4:=aI (j:=1) (u:=.int .i64 0) c4 (by decide)
   by_cases z0:n=g
   ·subst z0
    by_cases z2:mn=0
    ·subst z2
     by_cases z3:mx=0
     ·subst z3
      by_cases z4:rs.length=0
      ·obtain rfl:=o3 z4
       have R:r=true:=HR.out.2 (by unfold bG;simp_all)
       subst R
       go_enter Tryz.func132,Tryz.ntmps132
       go_wp2
       go_ret
       exact⟨rfl,(bz9).alloc (by simp) _⟩
      ·have R:r=false:=(by cases r with | false=>rfl | true=>exact absurd (HR.out.1 rfl) (by unfold bG;simp_all <;> omega))
       subst R
       have el:((rs.length:Int)==0)=false:=by simpa using z4
       go_enter Tryz.func132,Tryz.ntmps132
       go_wp2
       go_ret
       exact⟨rfl,(bz9).alloc (by simp) _⟩
     ·have R:r=false:=(by cases r with | false=>rfl | true=>exact absurd (HR.out.1 rfl) (by unfold bG;simp_all <;> omega))
      subst R
      have ez3:(mx==0)=false:=by simpa using z3
      go_enter Tryz.func132,Tryz.ntmps132
      go_wp2
      go_ret
      exact⟨rfl,(bz9).alloc (by simp) _⟩
    ·have R:r=false:=(by cases r with | false=>rfl | true=>exact absurd (HR.out.1 rfl) (by unfold bG;simp_all <;> omega))
     subst R
     have ez2:(mn==0)=false:=by simpa using z2
     go_enter Tryz.func132,Tryz.ntmps132
     go_wp2
     go_ret
     exact⟨rfl,(bz9).alloc (by simp) _⟩
   ·have R:r=false:=(by cases r with | false=>rfl | true=>exact absurd (HR.out.1 rfl) (by unfold bG;simp_all <;> omega))
    subst R
    have e0:(n==g)=false:=by simpa using z0
    go_enter Tryz.func132,Tryz.ntmps132
    go_wp2
    go_ret
    exact⟨rfl,(bz9).alloc (by simp) _⟩
  ·have eb7:(k==7)=false:=by simpa using k7
   by_cases k8:k=8
   ·subst k8
    have p1:=n7 _ _ (.int .i64 0) c1
    have p2:=aI (j:=1) (u:=.int .i64 0) c2 (by decide)
    have p3:=aI (j:=1) (u:=.int .i64 0) c3 (by decide)
    have p4:=aI (j:=1) (u:=.int .i64 0) c4 (by decide)
    by_cases z0:1<=n
    ·skip
     by_cases z1:n<=9
     ·skip
      by_cases z2:mn=0
      ·subst z2
       by_cases z3:mx=0
       ·subst z3
        by_cases z4:rs.length=0
        ·obtain rfl:=o3 z4
         have R:r=true:=HR.out.2 (by unfold bG;simp_all)
         subst R
         go_enter Tryz.func132,Tryz.ntmps132
         go_wp2
         go_ret
         exact⟨rfl,(bz9).alloc (by simp) _⟩
        ·have R:r=false:=(by cases r with | false=>rfl | true=>exact absurd (HR.out.1 rfl) (by unfold bG;simp_all <;> omega))
         subst R
         have el:((rs.length:Int)==0)=false:=by simpa using z4
         go_enter Tryz.func132,Tryz.ntmps132
         go_wp2
         go_ret
         exact⟨rfl,(bz9).alloc (by simp) _⟩
       ·have R:r=false:=(by cases r with | false=>rfl | true=>exact absurd (HR.out.1 rfl) (by unfold bG;simp_all <;> omega))
        subst R
        have ez3:(mx==0)=false:=by simpa using z3
        go_enter Tryz.func132,Tryz.ntmps132
        go_wp2
        go_ret
        exact⟨rfl,(bz9).alloc (by simp) _⟩
      ·have R:r=false:=(by cases r with | false=>rfl | true=>exact absurd (HR.out.1 rfl) (by unfold bG;simp_all <;> omega))
       subst R
       have ez2:(mn==0)=false:=by simpa using z2
       go_enter Tryz.func132,Tryz.ntmps132
       go_wp2
       go_ret
       exact⟨rfl,(bz9).alloc (by simp) _⟩
     ·have R:r=false:=(by cases r with | false=>rfl | true=>exact absurd (HR.out.1 rfl) (by unfold bG;simp_all <;> omega))
      subst R
      go_enter Tryz.func132,Tryz.ntmps132
      go_wp2
      go_ret
      exact⟨rfl,(bz9).alloc (by simp) _⟩
    ·have R:r=false:=(by cases r with | false=>rfl | true=>exact absurd (HR.out.1 rfl) (by unfold bG;simp_all <;> omega))
     subst R
     go_enter Tryz.func132,Tryz.ntmps132
     go_wp2
     go_ret
     exact⟨rfl,(bz9).alloc (by simp) _⟩
   ·have eb8:(k==8)=false:=by simpa using k8
    by_cases k9:k=9
    ·subst k9
     have p2:=aI (j:=3) (u:=.int .i64 0) (n7 _ _ (.int .i64 0) c2) (by decide)
     have q3:=aI (j:=2) (u:=.int .i64 0) c3 (by decide)
     have p3:=n7 _ _ (.int .i64 0) q3
     have p1:=aI (j:=3) (u:=.int .i64 0) (aI (j:=2) (u:=.int .i64 0) c1 (by decide)) (by decide)
     have p4:=aI (j:=3) (u:=.int .i64 0) (aI (j:=2) (u:=.int .i64 0) c4 (by decide)) (by decide)
     have HB:=aD (tW mn mx)
     obtain⟨bb,hbb⟩:∃ bb,fU mn mx=bb:=⟨_,rfl⟩
     rw [hbb] at HB
     cases bb with
     | true=>
      by_cases z1:n=0
      ·subst z1
       by_cases z4:rs.length=0
       ·obtain rfl:=o3 z4
        have R:r=true:=HR.out.2 (by unfold bG;simp_all)
        subst R
        go_enter Tryz.func132,Tryz.ntmps132
        go_wp2_with (go_at_call 161;(with_reducible refine(HB.out _).mono ?_);rintro e w5 ⟨rfl,h5⟩;subst w5)
        go_ret
        exact⟨rfl,(bz9).alloc (by simp) _⟩
       ·have R:r=false:=(by cases r with | false=>rfl | true=>exact absurd (HR.out.1 rfl) (by unfold bG;simp_all <;> omega))
        subst R
        have el:((rs.length:Int)==0)=false:=by simpa using z4
        go_enter Tryz.func132,Tryz.ntmps132
        go_wp2_with (go_at_call 161;(with_reducible refine(HB.out _).mono ?_);rintro e w5 ⟨rfl,h5⟩;subst w5)
        go_ret
        exact⟨rfl,(bz9).alloc (by simp) _⟩
      ·have R:r=false:=(by cases r with | false=>rfl | true=>exact absurd (HR.out.1 rfl) (by unfold bG;simp_all <;> omega))
       subst R
       have ez1:(n==0)=false:=by simpa using z1
       go_enter Tryz.func132,Tryz.ntmps132
       go_wp2_with (go_at_call 161;(with_reducible refine(HB.out _).mono ?_);rintro e w5 ⟨rfl,h5⟩;subst w5)
       go_ret
       exact⟨rfl,(bz9).alloc (by simp) _⟩
     | false=>
      have R:r=false:=(by cases r with | false=>rfl | true=>exact absurd (HR.out.1 rfl) (by unfold bG;simp_all))
      subst R
      go_enter Tryz.func132,Tryz.ntmps132
      go_wp2_with (go_at_call 161;(with_reducible refine(HB.out _).mono ?_);rintro e w5 ⟨rfl,h5⟩;subst w5)
      go_ret
      exact⟨rfl,(bz9).alloc (by simp) _⟩
    ·have eb9:(k==9)=false:=by simpa using k9
     by_cases z1:n=0
     ·subst z1
      by_cases z2:mn=0
      ·subst z2
       by_cases z3:mx=0
       ·subst z3
        by_cases z4:rs.length=0
        ·obtain rfl:=o3 z4
         have R:r=true:=HR.out.2 (by unfold bG;simp_all)
         subst R
         go_enter Tryz.func132,Tryz.ntmps132
         go_wp2
         go_ret
         exact⟨rfl,B1.out⟩
        ·have R:r=false:=(by cases r with | false=>rfl | true=>exact absurd (HR.out.1 rfl) (by unfold bG;simp_all <;> omega))
         subst R
         have el:((rs.length:Int)==0)=false:=by simpa using z4
         go_enter Tryz.func132,Tryz.ntmps132
         go_wp2
         go_ret
         exact⟨rfl,B1.out⟩
       ·have R:r=false:=(by cases r with | false=>rfl | true=>exact absurd (HR.out.1 rfl) (by unfold bG;simp_all <;> omega))
        subst R
        have ez3:(mx==0)=false:=by simpa using z3
        go_enter Tryz.func132,Tryz.ntmps132
        go_wp2
        go_ret
        exact⟨rfl,B1.out⟩
      ·have R:r=false:=(by cases r with | false=>rfl | true=>exact absurd (HR.out.1 rfl) (by unfold bG;simp_all <;> omega))
       subst R
       have ez2:(mn==0)=false:=by simpa using z2
       go_enter Tryz.func132,Tryz.ntmps132
       go_wp2
       go_ret
       exact⟨rfl,B1.out⟩
     ·have R:r=false:=(by cases r with | false=>rfl | true=>exact absurd (HR.out.1 rfl) (by unfold bG;simp_all <;> omega))
      subst R
      have ez1:(n==0)=false:=by simpa using z1
      go_enter Tryz.func132,Tryz.ntmps132
      go_wp2
      go_ret
      exact⟨rfl,B1.out⟩
end
section
attribute [local go_sem] bB
def wO:Fl:=⟨0,0,0,0,[],none,0,none,0,0⟩
def SA(A:Nat->eC):Way->Prop
 | []=>(A 0).f=wO
 |(par,i) :: rest=>A (rest.length+1)=⟨par.f,(i:Int)+1⟩/\SA A rest
def BA(A:Nat->eC):Way->Prop
 | []=>(A 0).f=wO
 |(par,i) :: rest=>A (rest.length+1)=⟨par.f,(i:Int)⟩/\SA A rest
theorem SA.tail{A:Nat->eC}:∀ {s rest:Way} {x:Tr × Nat},SA A (s ++ x :: rest)->A (rest.length+1)=⟨x.1.f,(x.2:Int)+1⟩/\SA A rest
 | [],_,_,h=>h
 | _ :: s,_,_,h=>SA.tail (s:=s) h.2
theorem SA.same{A B:Nat->eC}:∀ {p:Way},SA A p->(∀ i,i<=p.length->B i=A i)->SA B p
 | [],h,hb=>by unfold SA at *;rw [hb 0 lz9];exact h
 |(par,i) :: rest,h,hb=>⟨by rw [hb _ (by simp)];exact h.1,h.2.same fun i hi=>hb i (by simp;omega)⟩
theorem BA.next{A:Nat->eC}{x y:El}(h:Nx x y)(hs:SA A x.1)(hx:A (x.1.length+1)=⟨x.2.f,0⟩):BA A y.1:=by
 obtain⟨par,j,rest,e,(⟨rfl,rfl,rfl⟩ | ⟨s,i,e2,rfl⟩)⟩:=h
 ·rw [e]
  exact⟨hx,hs⟩
 ·rw [e]
  rw [e2] at hs
  exact hs.tail
def iB(A:Nat->eC)(d:Nat)(f:Fl):Nat->eC:=pQ (pQ A d ⟨(A d).f,(A d).s+1⟩) (d+1) ⟨f,0⟩
theorem SA.enter{A:Nat->eC}{p:Way}{f:Fl}(h:BA A p):SA (iB A p.length f) p/\iB A p.length f (p.length+1)=⟨f,0⟩:=by
 refine⟨?_,by simp [iB,pQ]⟩
 cases p with
 | nil=>simp only [SA,iB,pQ,List.length_nil];exact h
 | cons x rest=>
  obtain⟨par,i⟩:=x
  refine⟨?_,h.2.same fun i hi=>?_⟩
  ·simp only [iB,pQ,j8]
   rw [if_neg (by omega),if_pos trivial,h.1]
  ·simp only [iB,pQ,j8]
   rw [if_neg (by omega),if_neg (by omega)]
def eO(p:Way)(num:Int):Bool:=p.any fun x=>x.1.f.k==7 && x.1.f.n==num
theorem SA.inEq{A:Nat->eC}{num:Int}:∀ {p:Way},SA A p->inB A (p.length+1) num=eO p num
 | [],h=>by
  unfold SA at h
  rw [oS]
  simp [inB,eO,h,wO]
 |(par,i) :: rest,h=>by
  rw [j8,oS,h.2.inEq,h.1]
  simp only [eO,List.any_cons]
  rw [Bool.or_comm]
theorem BA.inEq{A:Nat->eC}{num:Int}:∀ {p:Way},BA A p->inB A (p.length+1) num=eO p num
 | [],h=>SA.inEq (p:=[]) h
 |(par,i) :: rest,h=>by
  rw [j8,oS,h.2.inEq,h.1]
  simp only [eO,List.any_cons]
  rw [Bool.or_comm]
def dW(p:Way)(k:Int):Bool:=match p with
 | []=>eX k
 |(par,i) :: _=>eW par.f.k (i:Int) par.ks.length k
theorem BA.stand{A:Nat->eC}{k:Int}:∀ {p:Way},BA A p->(∀ x∈p,x.1.f.kl=x.1.ks.length)->eW (A p.length).f.k (A p.length).s (A p.length).f.kl k=dW p k
 | [],h,_=>by
  unfold BA at h
  simp [eW,dW,h,wO]
 |(par,i) :: rest,h,hk=>by
  rw [j8,h.1]
  simp only [dW]
  rw [hk (par,i) (m8 ..)]
open Classical in
noncomputable def cG (c f:Bool) (p:Way) (t:Tr) (ah gr:Nat):Int:=
 if ah=2000 then 42 else if 40 < p.length+1 then 43
 else if ¬ (dW p t.f.k=true/\bG c f ((gr:Int)+1) t.f/\iT t.f.k t.ks.length=true) then 50
 else if t.f.k=7/\30 < t.f.n then 42
 else if t.f.k=8/\¬ (eO p t.f.n=false/\t.f.n<=(gr:Int)) then 41 else 0
theorem tV{w:World}(F:Fl)(c f:Bool)(g:Int){r:Bool}(hr:r=true ↔ bG c f g F)(h:ArgR w (.slice F.rq F.rs.length F.rc) F.rs)(hF:Fit F.rs)(hl:F.rs.length+3<=8796093022208) :
  Calls Tryz.prog 132 #[.agg #[.int .i64 F.k,.int .i64 F.n,.int .i64 F.mn,.int .i64 F.mx,.slice F.rq F.rs.length F.rc,.slice F.kq F.kl F.kc],.agg #[.bool c,.bool f],.int .i64 g] w fun e w'=>e=.returned (.bool r)/\Below w.heap.size w w':=
 (tU F c f g h hF hl).mono fun e w' ⟨b,h1,h2,h3⟩=>⟨by rw [h1];congr 2;rw [aBD,h2,hr],h3⟩
def aZ9(w:World)(b:Nat)(c f:Bool)(A:Nat->eC)(p:Way)(t:Tr)(ah gr:Nat)(e:Ending)(w':World):Prop:=
 e=.returned (.int .i64 (cG c f p t ah gr))/\(cG c f p t ah gr=0->CB w' b c f ((ah:Int)+1) ((gr:Int)+(if t.f.k=7 then 1 else 0)) (iB A p.length t.f))/\Fr (fun z=>z=b) w w'
theorem bL6{w:World}{b:Nat}{c f:Bool}{ah gr:Nat}{A:Nat->eC}{p:Way}{t:Tr}(h:CB w b c f (ah:Int) (gr:Int) A)(hb:BA A p)(hk:∀ x∈p,x.1.f.kl=x.1.ks.length)(hl:(A p.length).f.kl<=9223372036854775807)(hs:0<=(A p.length).s/\(A p.length).s<=1000000)(hn:NB w t)(ha:ah<=2000)(hg:gr<=2000)(hp:p.length<=1000000) :
  Calls Tryz.prog 100 #[.pointer (some ⟨b,0,none⟩),.int .i64 ((p.length:Int)+1),.agg #[.int .i64 t.f.k,.int .i64 t.f.n,.int .i64 t.f.mn,.int .i64 t.f.mx,.slice t.f.rq t.f.rs.length t.f.rc,.slice t.f.kq t.f.kl t.f.kc]] w (aZ9 w b c f A p t ah gr):=by
 obtain⟨m,hm⟩:∃ m,cG c f p t ah gr=m:=⟨_,rfl⟩
 have HM:=aD hm
 have H:=aD h
 have HB:=aD hb
 have HN:=aD hn
 have HKK:=aD hk
 have HSS:=aD hs
 have HLL:=aD hl
 have B1:Hid (Below w.heap.size w (w.alloc (.cells #[.int .i64 t.f.k,.int .i64 t.f.n,.int .i64 t.f.mn,.int .i64 t.f.mx,.slice t.f.rq t.f.rs.length t.f.rc,.slice t.f.kq t.f.kl t.f.kc] 25))):=bz9
 have N1:Hid (BoxN (w.alloc (.cells #[.int .i64 t.f.k,.int .i64 t.f.n,.int .i64 t.f.mn,.int .i64 t.f.mx,.slice t.f.rq t.f.rs.length t.f.rc,.slice t.f.kq t.f.kl t.f.kc] 25)) w.heap.size t.f):=aE w _
 have H1:Hid (CB (w.alloc (.cells #[.int .i64 t.f.k,.int .i64 t.f.n,.int .i64 t.f.mn,.int .i64 t.f.mx,.slice t.f.rq t.f.rs.length t.f.rc,.slice t.f.kq t.f.kl t.f.kc] 25)) b c f (ah:Int) (gr:Int) A):=h.kept B1.out
 have A1:Hid (NB (w.alloc (.cells #[.int .i64 t.f.k,.int .i64 t.f.n,.int .i64 t.f.mn,.int .i64 t.f.mx,.slice t.f.rq t.f.rs.length t.f.rc,.slice t.f.kq t.f.kl t.f.kc] 25)) t):=hn.ck (CK.of_below B1.out)
 have F1:Hid (Fr (fun z=>z=b) w (w.alloc (.cells #[.int .i64 t.f.k,.int .i64 t.f.n,.int .i64 t.f.mn,.int .i64 t.f.mx,.slice t.f.rq t.f.rs.length t.f.rc,.slice t.f.kq t.f.kl t.f.kc] 25))):=Fr.of_below B1.out
 have hne:w.heap.size≠b:=by have:=h.lt;omega
 unfold cG at hm
 clear h hb hn hk hs hl
 by_cases h1:ah=2000
 ·rw [if_pos h1] at hm
  subst hm h1
  have c2:=H1.out.c2
  have lb:=H1.out.lt
  go_enter Tryz.func100,Tryz.ntmps100
  go_wp2
  go_ret
  exact⟨by rw [HM.out];rfl,fun z=>(by rw [HM.out] at z;cases z),F1.out⟩
 ·rw [if_neg h1] at hm
  have h1b:(((ah:Int))==2000)=false:=by simp;omega
  by_cases h2:40 < p.length+1
  ·rw [if_pos h2] at hm
   subst hm
   have c2:=H1.out.c2
   have lb:=H1.out.lt
   have h2b:(40:Int) < (p.length:Int)+1:=by omega
   go_enter Tryz.func100,Tryz.ntmps100
   go_wp2
   go_ret
   exact⟨by rw [HM.out];rfl,fun z=>(by rw [HM.out] at z;cases z),F1.out⟩
  ·rw [if_neg h2] at hm
   have h2b:¬ (40:Int) < (p.length:Int)+1:=by omega
   have c0:=H1.out.c0
   have c1:=H1.out.c1
   have c2:=H1.out.c2
   have c3:=H1.out.c3
   have lb:=H1.out.lt
   obtain⟨n0,n1,n2,n3,n4,n5⟩:=N1.out.six
   simp only [g8] at n1 n2 n3 n4 n5
   have ln:=aB N1.out
   have HMM:=aD hm
   clear hm
   go_enter Tryz.func100,Tryz.ntmps100
   go_upto_region 5 with fail
   generalize (w.alloc (.cells #[.int .i64 t.f.k,.int .i64 t.f.n,.int .i64 t.f.mn,.int .i64 t.f.mx,.slice t.f.rq t.f.rs.length t.f.rc,.slice t.f.kq t.f.kl t.f.kc] 25))=w1 at *
   have e41:p.length < 41:=by omega
   obtain⟨sb,hsb⟩:∃ sb,dW p t.f.k=sb:=⟨_,rfl⟩
   obtain⟨rf,hrf⟩:∃ rf:Bool,rf=true ↔ bG c f ((gr:Int)+1) t.f:=⟨@decide (bG c f ((gr:Int)+1) t.f) (Classical.propDecidable _),by simp⟩
   obtain⟨kb,hkb⟩:∃ kb,iT t.f.k t.ks.length=kb:=⟨_,rfl⟩
   have MS:Hid (∀ z:Ext w1,Calls Tryz.prog 131 #[.pointer (some ⟨b,0,none⟩),.int .i64 ((p.length:Int)+1),.int .i64 t.f.k] z.val fun e w''=>e=.returned (.bool sb)/\∃ y:Ext w1,w''=y.val):=fun z=>bN ((aE7 (H1.out.kept (cI z)) e41 t.f.k HLL.out).mono fun e w' ⟨h1,h2⟩=>⟨by rw [h1,HB.out.stand HKK.out,hsb],h2⟩)
   have RF:Hid (∀ z:Ext w1,Calls Tryz.prog 132 #[.agg #[.int .i64 t.f.k,.int .i64 t.f.n,.int .i64 t.f.mn,.int .i64 t.f.mx,.slice t.f.rq t.f.rs.length t.f.rc,.slice t.f.kq t.f.kl t.f.kc],.agg #[.bool c,.bool f],.int .i64 ((gr:Int)+1)] z.val fun e w''=>e=.returned (.bool rf)/\∃ y:Ext w1,w''=y.val):=fun z=>bN (tV t.f c f _ hrf (A1.out.r.kept (cI z)) A1.out.fit A1.out.len)
   have RK:Hid (∀ z:Ext w1,Calls Tryz.prog 133 #[.agg #[.int .i64 t.f.k,.int .i64 t.f.n,.int .i64 t.f.mn,.int .i64 t.f.mx,.slice t.f.rq t.f.rs.length t.f.rc,.slice t.f.kq t.f.kl t.f.kc]] z.val fun e w''=>e=.returned (.bool kb)/\∃ y:Ext w1,w''=y.val):=fun z=>bN ((yP t.f z.val).mono fun e w' ⟨h1,h2⟩=>⟨by rw [h1,A1.out.kl,hkb],h2⟩)
   have HX:=aD (⟨hsb,hrf,hkb⟩:dW p t.f.k=sb/\(rf=true ↔ bG c f ((gr:Int)+1) t.f)/\iT t.f.k t.ks.length=kb)
   clear hsb hrf hkb
   cases sb with
   | false=>
    have E:=HMM.out
    rw [if_pos (by rw [HX.out.1];simp)] at E
    subst E
    refine wx9 ?_
    repeat (go_big_quiet_step (first | exact rfl |(go_at_call 131;with_reducible exact MS.out _) |(go_at_call 132;with_reducible exact RF.out _) |(go_at_call 133;with_reducible exact RK.out _)))
    refine wpQuiet_nil ?_
    intro w2 hw
    have hb2:=aQ hw
    clear hw
    have F2:Hid (Fr (fun z=>z=b) w w2):=F1.out.trans (Fr.of_below hb2)
    clear hb2 MS RF RK
    go_wp2
    go_ret
    exact⟨by rw [HM.out];rfl,fun z=>(by rw [HM.out] at z;cases z),F2.out⟩
   | true=>
    cases rf with
    | false=>
     have E:=HMM.out
     rw [if_pos (fun z=>by have:=HX.out.2.1.2 z.2.1;cases this)] at E
     subst E
     refine wx9 ?_
     repeat (go_big_quiet_step (first | exact rfl |(go_at_call 131;with_reducible exact MS.out _) |(go_at_call 132;with_reducible exact RF.out _) |(go_at_call 133;with_reducible exact RK.out _)))
     refine wpQuiet_nil ?_
     intro w2 hw
     have hb2:=aQ hw
     clear hw
     have F2:Hid (Fr (fun z=>z=b) w w2):=F1.out.trans (Fr.of_below hb2)
     clear hb2 MS RF RK
     go_wp2
     go_ret
     exact⟨by rw [HM.out];rfl,fun z=>(by rw [HM.out] at z;cases z),F2.out⟩
    | true=>
     cases kb with
     | false=>
      have E:=HMM.out
      rw [if_pos (fun z=>by have:=HX.out.2.2;rw [z.2.2] at this;cases this)] at E
      subst E
      refine wx9 ?_
      repeat (go_big_quiet_step (first | exact rfl |(go_at_call 131;with_reducible exact MS.out _) |(go_at_call 132;with_reducible exact RF.out _) |(go_at_call 133;with_reducible exact RK.out _)))
      refine wpQuiet_nil ?_
      intro w2 hw
      have hb2:=aQ hw
      clear hw
      have F2:Hid (Fr (fun z=>z=b) w w2):=F1.out.trans (Fr.of_below hb2)
      clear hb2 MS RF RK
      go_wp2
      go_ret
      exact⟨by rw [HM.out];rfl,fun z=>(by rw [HM.out] at z;cases z),F2.out⟩
     | true=>
      have E:=HMM.out
      rw [if_neg (fun z=>z ⟨HX.out.1,HX.out.2.1.1 rfl,HX.out.2.2⟩)] at E
      refine wx9 ?_
      repeat (go_big_quiet_step (first | exact rfl |(go_at_call 131;with_reducible exact MS.out _) |(go_at_call 132;with_reducible exact RF.out _) |(go_at_call 133;with_reducible exact RK.out _)))
      refine wpQuiet_nil ?_
      intro w2 hw
      have hb2:=aQ hw
      clear hw
      have F2:Hid (Fr (fun z=>z=b) w w2):=F1.out.trans (Fr.of_below hb2)
      have H2:=aD (H1.out.kept hb2)
      have N2:Hid (BoxN w2 w.heap.size t.f):=(hb2.block _ (aB N1.out)).trans N1.out
      clear hb2 MS RF RK n0 n1 n2 n3 n4 n5 c0 c1 c2 c3 lb ln H1 N1 F1
      obtain⟨n0,n1,n2,n3,n4,n5⟩:=N2.out.six
      simp only [g8] at n1 n2 n3 n4 n5
      have XX:=H2
      have FF:=F2
      by_cases k7:t.f.k=7
      ·have e7:(t.f.k==7)=true:=by simpa using k7
       have e8:(t.f.k==8)=false:=by simp [k7]
       by_cases g30:30 < t.f.n
       ·rw [if_pos ⟨k7,g30⟩] at E
        subst E
        clear k7
        go_wp2
        go_ret
        exact⟨by rw [HM.out];rfl,fun z=>(by rw [HM.out] at z;cases z),F2.out⟩
       ·rw [if_neg (fun z=>g30 z.2),if_neg (fun z=>by have:=z.1;omega)] at E
        subst E
        clear k7
        go_wp2_with (go_at_call 135;(with_reducible refine(wU XX.out (d:=p.length) (by omega) t.f (by omega) (by omega) HSS.out).mono ?_);rintro e w5 ⟨rfl,h51,h52⟩;have X5:Hid (CB w5 b c f ((ah:Int)+1) ((gr:Int)+(if t.f.k=7 then 1 else 0)) (iB A p.length t.f)):=h51;have F5:Hid (Fr (fun z=>z=b) w w5):=FF.out.trans h52;clear h51 h52)
        go_ret
        exact⟨by rw [HM.out];rfl,fun _=>X5.out,F5.out⟩
      ·have e7:(t.f.k==7)=false:=by simpa using k7
       rw [if_neg (fun z=>k7 z.1)] at E
       by_cases k8:t.f.k=8
       ·have e8:(t.f.k==8)=true:=by simpa using k8
        have HE:Calls Tryz.prog 134 #[.pointer (some ⟨b,0,none⟩),.int .i64 ((p.length:Int)+1),.int .i64 t.f.n] w2 fun e w'=>e=.returned (.bool (!eO p t.f.n && decide (t.f.n<=(gr:Int))))/\Below w2.heap.size w2 w':=(aF0 H2.out (d:=p.length+1) (by omega) t.f.n).mono fun e w' ⟨h1,h2⟩=>⟨by rw [h1,HB.out.inEq],h2⟩
        by_cases hen:eO p t.f.n=false/\t.f.n<=(gr:Int)
        ·rw [if_neg (fun z=>z.2 hen)] at E
         subst E
         rw [hen.1] at HE
         have en:(!false && decide (t.f.n<=(gr:Int)))=true:=by simp [hen.2]
         rw [en] at HE
         have HE':=aD HE
         clear HE k8 hen XX FF
         go_wp2_with first |(go_at_call 134;(with_reducible refine(HE'.out).mono ?_);rintro e w3 ⟨rfl,h3⟩;have XX:=aD (H2.out.kept h3);have FF:Hid (Fr (fun z=>z=b) w w3):=F2.out.trans (Fr.of_below h3);have N3:BoxN w3 w.heap.size t.f:=(h3.block _ (aB N2.out)).trans N2.out;obtain⟨r0,r1,r2,r3,r4,r5⟩:=N3.six;simp only [g8] at r1 r2 r3 r4 r5;clear h3 N3) |(go_at_call 135;(with_reducible refine(wU XX.out (d:=p.length) (by omega) t.f (by omega) (by omega) HSS.out).mono ?_);rintro e w5 ⟨rfl,h51,h52⟩;have X5:Hid (CB w5 b c f ((ah:Int)+1) ((gr:Int)+(if t.f.k=7 then 1 else 0)) (iB A p.length t.f)):=h51;have F5:Hid (Fr (fun z=>z=b) w w5):=FF.out.trans h52;clear h51 h52)
         go_ret
         exact⟨by rw [HM.out];rfl,fun _=>X5.out,F5.out⟩
        ·rw [if_pos ⟨k8,hen⟩] at E
         subst E
         have en:(!eO p t.f.n && decide (t.f.n<=(gr:Int)))=false:=by
          cases hq:eO p t.f.n
          ·simp;exact Int.not_le.1 (fun z=>hen ⟨hq,z⟩)
          ·rfl
         rw [en] at HE
         have HE':=aD HE
         clear HE k8 hen XX FF
         go_wp2_with (go_at_call 134;(with_reducible refine(HE'.out).mono ?_);rintro e w3 ⟨rfl,h3⟩;have FF:Hid (Fr (fun z=>z=b) w w3):=F2.out.trans (Fr.of_below h3);clear h3)
         go_ret
         exact⟨by rw [HM.out];rfl,fun z=>(by rw [HM.out] at z;cases z),FF.out⟩
       ·have e8:(t.f.k==8)=false:=by simpa using k8
        rw [if_neg (fun z=>k8 z.1)] at E
        subst E
        go_wp2_with (go_at_call 135;(with_reducible refine(wU XX.out (d:=p.length) (by omega) t.f (by omega) (by omega) HSS.out).mono ?_);rintro e w5 ⟨rfl,h51,h52⟩;have X5:Hid (CB w5 b c f ((ah:Int)+1) ((gr:Int)+(if t.f.k=7 then 1 else 0)) (iB A p.length t.f)):=h51;have F5:Hid (Fr (fun z=>z=b) w w5):=FF.out.trans h52;clear h51 h52)
        go_ret
        exact⟨by rw [HM.out];rfl,fun _=>X5.out,F5.out⟩
end
section
open Go Go.RowKit Go.Shelf
attribute [local go_sem] Oper.semAt_some
def bO6:List El->Nat
 | []=>0
 | x :: r=>max (x.1.length+1) (bO6 r)
def cL:List El->Nat
 | []=>0
 | x :: r=>(if x.2.f.k=7 then 1 else 0)+cL r
theorem fS(a b:List El):cL (a ++ b)=cL a+cL b:=by
 induction a with
 | nil=>simp [cL]
 | cons y a ih=>simp only [r9,cL,ih];omega
theorem kA(a:List El)(x:El):cL (a ++ [x])=cL a+(if x.2.f.k=7 then 1 else 0):=by rw [fS];simp [cL]
theorem aJ8(a:List El):cL a<=a.length:=by
 induction a with
 | nil=>simp [cL]
 | cons y a ih=>simp only [cL,j8];split <;> omega
theorem uN{t:Tr}:∀ {pre:List El} {x:El},pre ++ [x] <+: pp [] t->x.1.length<=pre.length:=by
 intro pre
 have:∀ (m:Nat) (pre:List El),pre.length=m->∀ x,pre ++ [x] <+: pp [] t->x.1.length<=m:=by
  intro m
  induction m with
  | zero=>
   intro pre hp x h
   obtain rfl:=o3 hp
   rw [aAG] at h
   rw [rU h]
   simp
  | succ m ih=>
   intro pre hp x h
   obtain⟨pre',y,rfl⟩:∃ pre' y,pre=pre' ++ [y]:=⟨pre.dropLast,pre.getLast (by intro e;rw [e] at hp;simp at hp),(aBY _).symm⟩
   have h1:=ih pre' (by simp at hp;omega) y (List.IsPrefix.trans (List.prefix_append _ _) h)
   obtain⟨par,j,rest,e,(⟨-,-,e2⟩ | ⟨s,i,e2,-⟩)⟩:=uM h
   ·rw [e,e2];simp;omega
   ·rw [e]
    rw [e2] at h1
    simp at h1 ⊢
    omega
 exact fun {x} h=>this pre.length pre rfl x h
end
end Go.Proofs.YtlaimbkenbijeaaGreatDoor
