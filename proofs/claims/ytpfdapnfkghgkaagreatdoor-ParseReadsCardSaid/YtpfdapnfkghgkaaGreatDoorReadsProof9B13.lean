/-
  Parts of the proof.
-/
import Derived.Test.YtpfdapnfkghgkaaGreatDoorReadsProof9B11
import Derived.Test.YtpfdapnfkghgkaaGreatDoorReadsProof9B12
import Derived.Laws.AppendOwnNone
import Derived.Test.YtpfdapnfkghgkaaGreatDoorReadsProof9B9
import Derived.Test.YtpfdapnfkghgkaaGreatDoorReadsProof9B10
import Derived.Test.YtpfdapnfkghgkaaGreatDoorReadsProof9B0
import Derived.Test.YtpfdapnfkghgkaaGreatDoorReadsProof9B3
import Derived.Test.YtpfdapnfkghgkaaGreatDoorReadsProof9B5
import Derived.Deep.WholeRow
set_option maxRecDepth 100000
set_option maxHeartbeats 8000000
namespace Go.Proofs.YtpfdapnfkghgkaaGreatDoor
open Go Go.RowKit
def gL(V:List (Value × List (Int × Int))):List (Int × Int):=V.flatMap fun p=>p.2
theorem rV{V:List (Value × List (Int × Int))}{k:Nat}{p:Value × List (Int × Int)}(h:V[k]?=some p):gL (V.take (k+1))=gL (V.take k) ++ p.2:=by
 obtain⟨hk,rfl⟩:=List.getElem?_eq_some_iff.1 h
 rw [dL V k hk]
 unfold gL
 rw [List.flatMap_append]
 simp only [List.flatMap_cons,List.flatMap_nil,List.append_nil]
theorem aB0(V:List (Value × List (Int × Int)))(k:Nat):(gL (V.take k)).length<=(gL V).length:=by
 have e:gL V=gL (V.take k) ++ gL (V.drop k):=by unfold gL;rw [<- List.flatMap_append,List.take_append_drop]
 rw [e,List.length_append]
 omega
theorem gI{base:Nat}{w:World}{n:Nat}{v:Value}{F L:List (Int × Int)}(h:w.ownsRow base 99 2 v n (aM F ++ aM L)):RR base w v (F ++ L):=by
 have hn:n=(F ++ L).length:=by have:=h.1;simp [cO] at this;simp;omega
 subst hn
 unfold RR
 rw [iB]
 exact h
theorem aG5(w:World):Calls Tryz.prog 119 #[.slice none 0 0,.int .i64 0] w fun e w'=>e=.returned (.slice none 0 0)/\w'=w:=
 Any8.slices_Grow_room Tryz.growPl none 0 0 0 w (by omega) (by omega) (by omega) (by omega)
theorem bF4(n:Nat)(w:World)(hn:n<=8796093022208):Calls Tryz.prog 119 #[.slice none 0 0,.int .i64 (n:Int)] w fun e w'=>∃ v,e=.returned v/\RR w.heap.size w' v []/\Below w.heap.size w w':=by
 rcases Nat.eq_zero_or_pos n with rfl | hp
 ·exact(aG5 w).mono fun e w' ⟨h1,h2⟩=>⟨_,h1,RR.nil _ _,by rw [h2];exact Below.refl _ _⟩
 ·obtain⟨i0,hi,hz0,hz1,hz2⟩:=aS bF
  have h:=Any8.slices_Grow_grow Tryz.growPl i0 (.agg #[.int .i64 0,.int .i64 0]) hi hz0 (by rw [hz1];decide) none 0 0 n [] w (by omega) (by omega) (by rw [hz2];omega) (by omega) (by simp) (fun _=>rfl) (fun _ q=>by cases q)
  refine Calls.mono (show Calls Tryz.prog 119 _ _ _ from h) ?_
  rintro e w' ⟨rfl,rfl⟩
  have hg:=grownCap_ge w (0+n) 0 99
  have hm:=grownCap_le_maxLen w (0+n) 0 99 (by unfold maxLen;omega)
  refine⟨_,rfl,?_,(Below.refl _ _).drew.alloc (by simp) _⟩
  have hz:∀ k,(Builtin.zeroCells #[.int .i64 0,.int .i64 0] k).size=k * 2:=fun k=>by simp [Builtin.zeroCells]
  refine World.ownsRow_made w.drew _ _ lz9 hm ?_
  show (#[] ++ Builtin.zeroCells #[.int .i64 0,.int .i64 0] (0+n - 0) ++ Builtin.zeroCells #[.int .i64 0,.int .i64 0] (grownCap w (0+n) 0 99 - (0+n))).size=grownCap w (0+n) 0 99 * 2
  rw [Array.size_append,Array.size_append,hz,hz]
  generalize grownCap w (0+n) 0 99=G at *
  show 0+(0+n - 0) * 2+(G - (0+n)) * 2=G * 2
  omega
theorem aP7{w:World}{g m:Nat}{V:List (Value × List (Int × Int))}(hm:V.length=m)(hV:∀ (i:Nat) (p:Value × List (Int × Int)),V[i]?=some p->w.cell? ⟨g,i,none⟩=some p.1/\ArgR w p.1 p.2)(hg:g < w.heap.size)(hml:m<=1000)(hl:(gL V).length+1<=8796093022208) :
  Calls Tryz.prog 92 #[.slice (some ⟨g,0,none⟩) m m] w fun e w'=>∃ v,e=.returned v/\RR w.heap.size w' v (gL V)/\Below w.heap.size w w':=by
 have HV:Hid (∀ (i:Nat) (p:Value × List (Int × Int)),V[i]?=some p->w.cell? ⟨g,i,none⟩=some p.1/\ArgR w p.1 p.2):=hV
 have HM:Hid (V.length=m):=hm
 obtain⟨t0,ti,hz0,hz1,hz2⟩:=aS bF
 clear hV hm
 go_enter Tryz.func92,Tryz.ntmps92
 go_wp2
 go_loopw [3,11] (fun s i wr=>∃ k:Nat,k<=m/\i=.int .i64 k/\s=.int .i64 ((gL (V.take k)).length:Nat)/\wr=w) (fun _ i _=>m - (intOf i).toNat)
 case atStart=>exact⟨0,Nat.zero_le _,rfl,rfl,rfl⟩
 case round=>
  obtain⟨k,hk,rfl,rfl,hw⟩:=hrel
  subst wr
  by_cases hlt:k < m
  ·obtain⟨⟨v,L⟩,hp⟩:∃ p,V[k]?=some p:=⟨_,List.getElem?_eq_getElem (by have:=HM.out;omega)⟩
   obtain⟨d0,ha⟩:=HV.out k _ hp
   dsimp only at d0 ha
   obtain⟨q,cap,rfl,-,-,-⟩:=ha.slice
   have NX:Hid ((gL (V.take (k+1))).length=(gL (V.take k)).length+L.length):=aC (by rw [rV hp,List.length_append])
   have le1:=aB0 V (k+1)
   rw [NX.out] at le1
   clear hp ha
   generalize (gL (V.take k)).length=n at *
   have i0:(0:Int)<=(k:Int):=by omega
   have i1:(k:Int) < (m:Int):=by omega
   have wn:IntKind.wrap .i64 ((n:Int)+(L.length:Int))=(n:Int)+(L.length:Int):=by rw [IntKind.wrap_i64];omega
   have nn:¬ ((n:Int)+(L.length:Int) < 0):=by omega
   go_wp2
   go_roundw
   case rel=>exact⟨k+1,by omega,by go_num,by rw [NX.out];rfl,by first | rfl | trivial⟩
   case measure=>simp [intOf];omega
  ·have i1:¬ (k:Int) < (m:Int):=by omega
   have E:Hid (V.take k=V):=aC (List.take_of_length_le (by rw [HM.out];omega))
   rw [E.out]
   have LB:Hid ((gL V).length<=8796093022208):=aC (by omega)
   go_wp2_with (go_at_call 119;refine(bF4 _ _ LB.out).mono ?_;rintro e w5 ⟨v5,rfl,h1,h2⟩;have R5:Hid (RR w.heap.size w5 v5 []):=h1;have B5:Hid (Below w.heap.size w w5):=h2;clear h1 h2)
   rename World=>W1
   go_loopw [6,27] (fun s i wr=>∃ k:Nat,k<=m/\i=.int .i64 k/\RR w.heap.size wr s (gL (V.take k))/\Below w.heap.size w wr) (fun _ i _=>m - (intOf i).toNat)
   case atStart=>exact⟨0,Nat.zero_le _,rfl,R5.out,B5.out⟩
   case round=>
    obtain⟨j,hj,rfl,hrr,hb⟩:=hrel
    obtain⟨qg,cg,rfl⟩:=hrr.shape
    have RG:Hid (RR w.heap.size wr (.slice qg (gL (V.take j)).length cg) (gL (V.take j))):=hrr
    have B:Hid (Below w.heap.size w wr):=hb
    have hbs:w.heap.size<=wr.heap.size:=hb.size
    clear hrr hb
    by_cases hjlt:j < m
    ·obtain⟨⟨v,L⟩,hp⟩:∃ p,V[j]?=some p:=⟨_,List.getElem?_eq_getElem (by have:=HM.out;omega)⟩
     obtain⟨d0,ha⟩:=HV.out j _ hp
     dsimp only at d0 ha
     have d1:=(B.out.cell (p:=⟨g,j,none⟩) hg).trans d0
     have NX:Hid (gL (V.take (j+1))=gL (V.take j) ++ L):=rV hp
     have le1:=aB0 V (j+1)
     rw [NX.out,List.length_append] at le1
     have hA:=ha.kept B.out
     obtain⟨q,cap,rfl,-,-,-⟩:=ha.slice
     have j0:(0:Int)<=(j:Int):=by omega
     have j1:(j:Int) < (m:Int):=by omega
     clear hp d0
     generalize gL (V.take j)=F at *
     cases q with
     | none=>
      have e0:Value.slice none L.length cap=.slice none 0 0/\L=[]:=by
       rcases ha with⟨p,cap',e,e2,e3⟩ | ⟨g',off',cap',e,_⟩
       ·subst e2
        cases e
        have:=e3 rfl
        subst this
        exact⟨rfl,rfl⟩
       ·cases e
      rw [e0.1] at d1
      have EL:Hid (L=[]):=e0.2
      clear ha hA e0
      go_wp2_with (at_builtin;refine wpList_append_own_none rfl _ _ 25 rfl w.heap.size 99 t0 2 aO ti (.slice qg F.length cg) F.length (aM F) rfl RG.out rfl ?_)
      go_roundw
      case rel=>exact⟨j+1,by omega,by go_num,by rw [NX.out,EL.out,List.append_nil];exact RG.out,B.out⟩
      case measure=>simp [intOf];omega
     | some ad=>
      have NW:Hid (∀ j u,(aM L)[j]?=some u->wr.cell? (ad.add j)=some u):=hA.news
      clear ha hA
      go_wp2_with (at_builtin;refine wpList_append_own_at _ rfl _ _ 25 rfl w.heap.size 99 t0 (.agg #[.int .i64 0,.int .i64 0]) 2 16 aO ti hz0 hz1 hz2 rfl (by decide) (.slice qg F.length cg) F.length (aM F) rfl RG.out ad L.length cap (aM L) rfl (cO L) NW.out (eX L) (by unfold maxLen;omega) (by omega) hbs ?_;intro v' w6 hown' hgrow _ hblk;have A6:Hid (RR w.heap.size w6 v' (F ++ L)):=gI hown';have B6:Hid (Below w.heap.size w w6):=aT B.out RG.out hgrow;clear hown' hgrow hblk)
      go_roundw
      case rel=>exact⟨j+1,by omega,by go_num,by rw [NX.out];exact A6.out,B6.out⟩
      case measure=>simp [intOf];omega
    ·have j1:¬ (j:Int) < (m:Int):=by omega
     have E2:Hid (V.take j=V):=aC (List.take_of_length_le (by rw [HM.out];omega))
     rw [E2.out] at RG ⊢
     go_wp2
     go_ret
     exact⟨_,rfl,RG.out,B.out⟩
def num(c:Int):Prop:=-9223372036854775808<=c/\c<=9223372036854775807
theorem bE8{w:World}{v:Value}{L:List (Int × Int)}{m:Bool}(h:ArgR w v L)(hF:Fit L)(hl:L.length+3<=8796093022208) :
  Calls Tryz.prog 108 #[v,.bool m] w (lG w (fun c=>In L c/\bK m c) (L.length+2)):=by
 have H:Hid (ArgR w v L/\Fit L):=⟨h,hF⟩
 have hl1:L.length<=8796093022208:=by omega
 clear h hF
 go_enter Tryz.func108,Tryz.ntmps108
 go_wp2_with first
  |(go_at_call 91;refine(bY H.out.1 H.out.2 hl1).mono ?_;rintro e w5 ⟨v5,C5,rfl,h1,h2,h3,h4⟩;have X5:Hid (RR w.heap.size w5 v5 C5/\IsC C5 (In L)/\C5.length<=L.length/\Below w.heap.size w w5):=⟨h1,h2,h3,h4⟩;clear h1 h2 h3 h4)
  |(go_at_call 129;refine(aB7 m _).mono ?_;rintro e w6 ⟨v6,rfl,h1,h2⟩;have X6:Hid (RR w5.heap.size w6 v6 (bS m)/\Below w5.heap.size w5 w6):=⟨h1,h2⟩;clear h1 h2)
  |(go_at_call 128;refine(qH (X5.out.1.kept X6.out.2).arg X6.out.1.arg X5.out.2.1.cls (dP m).cls X5.out.2.1.fit (dP m).fit (by have:=X5.out.2.2.1;have:=cF m;omega)).mono ?_;rintro e w7 ⟨v7,C7,rfl,h1,h2,h3,h4⟩;have X7:Hid (RR w6.heap.size w7 v7 C7/\IsC C7 (fun c=>In C5 c/\In (bS m) c)/\C7.length<=C5.length+(bS m).length/\Below w6.heap.size w6 w7):=⟨h1,h2,h3,h4⟩;clear h1 h2 h3 h4)
 go_ret
 have B6:=aE X5.out.2.2.2 X6.out.2 lz9
 refine⟨_,_,rfl,X7.out.1.mono B6.size,X7.out.2.1.to fun c=>?_,?_,aE B6 X7.out.2.2.2 lz9⟩
 ·rw [X5.out.2.1.mem,(dP m).mem]
 ·have:=X7.out.2.2.1
  have:=X5.out.2.2.1
  have:=cF m
  omega
theorem bI9{w:World}{va vb:Value}{A B:List (Int × Int)}(ha:ArgR w va A)(hb:ArgR w vb B)(fa:Fit A)(fb:Fit B)(hl:A.length+B.length+1<=8796093022208) :
  Calls Tryz.prog 116 #[va,vb] w (lG w (fun c=>In A c/\In B c) (A.length+B.length)):=by
 have H:Hid (ArgR w va A/\Fit A):=⟨ha,fa⟩
 have K:Hid (ArgR w vb B/\Fit B):=⟨hb,fb⟩
 have hl1:A.length<=8796093022208:=by omega
 have hl2:B.length<=8796093022208:=by omega
 clear ha hb fa fb
 go_enter Tryz.func116,Tryz.ntmps116
 go_wp2_with first
  |(have hx:=X5.out;clear hx;go_at_call 91;have hih:=bY (K.out.1.kept X5.out.2.2.2) K.out.2 hl2;refine hih.mono ?_;clear hih;rintro e w6 ⟨v6,C6,rfl,h1,h2,h3,h4⟩;have X6:Hid (RR w5.heap.size w6 v6 C6/\IsC C6 (In B)/\C6.length<=B.length/\Below w5.heap.size w5 w6):=⟨h1,h2,h3,h4⟩;clear h1 h2 h3 h4)
  |(go_at_call 91;refine(bY H.out.1 H.out.2 hl1).mono ?_;rintro e w5 ⟨v5,C5,rfl,h1,h2,h3,h4⟩;have X5:Hid (RR w.heap.size w5 v5 C5/\IsC C5 (In A)/\C5.length<=A.length/\Below w.heap.size w w5):=⟨h1,h2,h3,h4⟩;clear h1 h2 h3 h4)
  |(go_at_call 128;refine(qH (X5.out.1.kept X6.out.2.2.2).arg X6.out.1.arg X5.out.2.1.cls X6.out.2.1.cls X5.out.2.1.fit X6.out.2.1.fit (by have:=X5.out.2.2.1;have:=X6.out.2.2.1;omega)).mono ?_;rintro e w7 ⟨v7,C7,rfl,h1,h2,h3,h4⟩;have X7:Hid (RR w6.heap.size w7 v7 C7/\IsC C7 (fun c=>In C5 c/\In C6 c)/\C7.length<=C5.length+C6.length/\Below w6.heap.size w6 w7):=⟨h1,h2,h3,h4⟩;clear h1 h2 h3 h4)
 go_ret
 have B6:=aE X5.out.2.2.2 X6.out.2.2.2 lz9
 refine⟨_,_,rfl,X7.out.1.mono B6.size,X7.out.2.1.to fun c=>?_,?_,aE B6 X7.out.2.2.2 lz9⟩
 ·rw [X5.out.2.1.mem,X6.out.2.1.mem]
 ·have:=X7.out.2.2.1
  have:=X5.out.2.2.1
  have:=X6.out.2.2.1
  omega
theorem aQ3{m:Bool}{c:Int}(h:bK m c):-9223372036854775808<=c/\c<=9223372036854775807:=by
 obtain⟨h1,h2,_⟩:=h
 unfold top at h2
 split at h2 <;> omega
theorem bH4{w:World}{v:Value}{L:List (Int × Int)}{m:Bool}(h:ArgR w v L)(hF:Fit L)(hl:L.length+5<=8796093022208) :
  Calls Tryz.prog 107 #[v,.bool m] w (lG w (fun c=>bK m c/\¬ In L c) (L.length+3)):=by
 have K:Hid (ArgR w v L/\Fit L):=⟨h,hF⟩
 have hl2:L.length<=8796093022208:=by omega
 clear h hF
 go_enter Tryz.func107,Tryz.ntmps107
 go_wp2_with first
  |(go_at_call 129;refine(aB7 m _).mono ?_;rintro e w5 ⟨v5,rfl,h1,h2⟩;have X5:Hid (RR w.heap.size w5 v5 (bS m)/\Below w.heap.size w w5):=⟨h1,h2⟩;clear h1 h2)
  |(go_at_call 91;refine(bY (K.out.1.kept X5.out.2) K.out.2 hl2).mono ?_;rintro e w6 ⟨v6,C6,rfl,h1,h2,h3,h4⟩;have X6:Hid (RR w5.heap.size w6 v6 C6/\IsC C6 (In L)/\C6.length<=L.length/\Below w5.heap.size w5 w6):=⟨h1,h2,h3,h4⟩;clear h1 h2 h3 h4)
  |(go_at_call 130;refine(bE2 X6.out.1.arg X6.out.2.1.cls X6.out.2.1.fit (by have:=X6.out.2.2.1;omega)).mono ?_;rintro e w8 ⟨v8,C8,rfl,h1,h2,h3,h4⟩;have X8:Hid (RR w6.heap.size w8 v8 C8/\IsC C8 (fun c=>(-9223372036854775808<=c/\c<=9223372036854775807)/\¬ In C6 c)/\C8.length<=C6.length+1/\Below w6.heap.size w6 w8):=⟨h1,h2,h3,h4⟩;clear h1 h2 h3 h4)
  |(go_at_call 128;refine(qH ((X5.out.1.kept X6.out.2.2.2).kept X8.out.2.2.2).arg X8.out.1.arg (dP m).cls X8.out.2.1.cls (dP m).fit X8.out.2.1.fit (by have:=cF m;have:=X6.out.2.2.1;have:=X8.out.2.2.1;omega)).mono ?_;rintro e w7 ⟨v7,C7,rfl,h1,h2,h3,h4⟩;have X7:Hid (RR w8.heap.size w7 v7 C7/\IsC C7 (fun c=>In (bS m) c/\In C8 c)/\C7.length<=(bS m).length+C8.length/\Below w8.heap.size w8 w7):=⟨h1,h2,h3,h4⟩;clear h1 h2 h3 h4)
 go_ret
 have B8:=aE (aE X5.out.2 X6.out.2.2.2 lz9) X8.out.2.2.2 lz9
 refine⟨_,_,rfl,X7.out.1.mono B8.size,X7.out.2.1.to fun c=>?_,?_,aE B8 X7.out.2.2.2 lz9⟩
 ·rw [(dP m).mem,X8.out.2.1.mem,X6.out.2.1.mem]
  exact⟨fun⟨p,q⟩=>⟨p,q.2⟩,fun⟨p,q⟩=>⟨p,aQ3 p,q⟩⟩
 ·have:=X7.out.2.2.1
  have:=cF m
  have:=X6.out.2.2.1
  have:=X8.out.2.2.1
  omega
theorem aL1{base:Nat}{w:World}{n:Nat}{v:Value}{L:List (Int × Int)}(h:w.ownsRow base 99 2 v n (aM L))(hn:L.length=n):RR base w v L:=by subst hn;exact h
def shK(C:List (Int × Int))(k:Nat)(d:Int):List (Int × Int):=C.mapIdx fun i r=>if i < k then (r.1+d,r.2+d) else r
theorem aJ8(C:List (Int × Int))(d:Int):shK C 0 d=C:=by
 unfold shK
 apply List.ext_getElem
 ·simp
 ·intro i h1 h2;simp
theorem pG(C:List (Int × Int))(k:Nat)(d:Int):(shK C k d).length=C.length:=by simp [shK]
theorem aT2{C:List (Int × Int)}{k:Nat}{r:Int × Int}(h:C[k]?=some r)(d:Int):(shK C k d)[k]?=some r:=by
 simp [shK,h]
theorem aT1{C:List (Int × Int)}{k:Nat}{r:Int × Int}(h:C[k]?=some r)(d:Int):(shK C k d).set k (r.1+d,r.2+d)=shK C (k+1) d:=by
 obtain⟨hk,rfl⟩:=List.getElem?_eq_some_iff.1 h
 unfold shK
 apply List.ext_getElem
 ·simp
 ·intro i h1 h2
  rw [List.getElem_set]
  simp only [List.getElem_mapIdx]
  by_cases hik:k=i
  ·subst hik;simp
  ·rw [if_neg hik]
   by_cases q:i < k
   ·rw [if_pos q,if_pos (by omega)]
   ·rw [if_neg q,if_neg (by omega)]
theorem aT3(C:List (Int × Int))(d:Int):shK C C.length d=C.map fun r=>(r.1+d,r.2+d):=by
 unfold shK
 apply List.ext_getElem
 ·simp
 ·intro i h1 h2
  simp only [List.length_mapIdx] at h1
  simp [h1]
theorem jC(C:List (Int × Int))(d c:Int):In (C.map fun r=>(r.1+d,r.2+d)) c ↔ In C (c - d):=by
 unfold In
 constructor
 ·rintro ⟨r,hr,h1,h2⟩
  obtain⟨x,hx,rfl⟩:=List.mem_map.1 hr
  exact⟨x,hx,by simp only at h1 h2;omega,by simp only at h1 h2;omega⟩
 ·rintro ⟨r,hr,h1,h2⟩
  exact⟨_,List.mem_map.2 ⟨r,hr,rfl⟩,by simp only;omega,by simp only;omega⟩
theorem aA0{w:World}{v:Value}{L:List (Int × Int)}{a b d:Int}(h:ArgR w v L)(hF:Fit L)(hl:L.length+2<=8796093022208)(h0:65<=a)(hab:a<=b)(h1:b<=122)(hd1:-32<=d)(hd2:d<=32) :
  Calls Tryz.prog 90 #[v,.agg #[.int .i64 a,.int .i64 b],.int .i64 d] w fun e w'=>∃ v' D,e=.returned v'/\RR w.heap.size w' v' D/\Fit D/\(∀ c,In D c ↔ In L (c - d)/\a<=c - d/\c - d<=b)/\D.length<=L.length+1/\Below w.heap.size w w':=by
 have H:Hid (ArgR w v L/\Fit L):=⟨h,hF⟩
 have FB:Hid (Fit [(a,b)]):=fK (by omega)
 have B2:Hid (Below w.heap.size w ((w.alloc (.cells #[.int .i64 a,.int .i64 b] 99)).alloc (.cells #[.int .i64 a,.int .i64 b] 99))):=(bz9).alloc (by simp) _
 have AB:Hid (ArgR ((w.alloc (.cells #[.int .i64 a,.int .i64 b] 99)).alloc (.cells #[.int .i64 a,.int .i64 b] 99)) (.slice (some ⟨w.heap.size+1,0,none⟩) 1 1) [(a,b)]):=aC <| by
  have:RR w.heap.size ((w.alloc (.cells #[.int .i64 a,.int .i64 b] 99)).alloc (.cells #[.int .i64 a,.int .i64 b] 99)) (.slice (some ⟨(w.alloc (.cells #[.int .i64 a,.int .i64 b] 99)).heap.size,0,none⟩) 1 1) [(a,b)]:=World.ownsRow_lit _ #[.int .i64 a,.int .i64 b] 1 (by simp) (by unfold maxLen;omega) rfl
  simpa using this.arg
 clear h hF
 go_enter Tryz.func90,Tryz.ntmps90
 go_wp2_with (go_at_call 116;refine(bI9 (H.out.1.kept B2.out) AB.out H.out.2 FB.out (by simp;omega)).mono ?_;rintro e w5 ⟨v5,C,rfl,p1,p2,p3,p4⟩;obtain⟨q5,c5,rfl⟩:=p1.shape;have X5:Hid (RR w.heap.size w5 (.slice q5 C.length c5) C/\IsC C (fun c=>In L c/\In [(a,b)] c)/\C.length<=L.length+1/\Below w.heap.size w w5):=⟨p1.mono B2.out.size,p2,p3,aE B2.out p4 lz9⟩;clear p1 p2 p3 p4)
 have hcl:=X5.out.2.2.1
 have BD:Hid (∀ (i:Nat) (r:Int × Int),C[i]?=some r->(a<=r.1/\r.1<=b)/\(a<=r.2/\r.2<=b)):=fun i r hr=>by
  have hm:=List.mem_of_getElem? hr
  have hs:=X5.out.2.1.cls.some r hm
  have p:=((X5.out.2.1.mem r.1).1 ⟨r,hm,Int.le_refl _,hs⟩).2
  have q:=((X5.out.2.1.mem r.2).1 ⟨r,hm,hs,Int.le_refl _⟩).2
  rw [dI] at p q
  exact⟨p,q⟩
 go_loopw [15] (fun i wr=>∃ k:Nat,k<=C.length/\i=.int .i64 k/\RR w.heap.size wr (.slice q5 C.length c5) (shK C k d)/\Below w.heap.size w wr) (fun i _=>C.length - (intOf i).toNat)
 case atStart=>exact⟨0,Nat.zero_le _,rfl,by rw [aJ8];exact X5.out.1,X5.out.2.2.2⟩
 case round=>
  obtain⟨k,hk,rfl,hrr,hb⟩:=hrel
  have RK:Hid (RR w.heap.size wr (.slice q5 C.length c5) (shK C k d)):=hrr
  have B:Hid (Below w.heap.size w wr):=hb
  clear hrr hb
  by_cases hlt:k < C.length
  ·obtain⟨r,hr⟩:∃ r,C[k]?=some r:=⟨_,List.getElem?_eq_getElem hlt⟩
   have hbd:=BD.out k r hr
   have OW:Hid (wr.ownsRow w.heap.size 99 2 (.slice q5 C.length c5) C.length (aM (shK C k d))):=aC (by have:=RK.out;unfold RR at this;rwa [pG] at this)
   obtain⟨g,c',e⟩:=aI OW.out (by omega)
   cases e
   obtain⟨z1,z2⟩:=gR _ k r (aT2 hr d)
   have d1:=bC OW.out z1
   have d2:=bC OW.out z2
   rw [Nat.mul_comm] at d1 d2
   have f1:=OW.out.frozenAt (k * 2)
   have f2:=OW.out.frozenAt (k * 2+1)
   have O2:Hid ((((wr.setCell ⟨g,k * 2,none⟩ (.int .i64 (r.1+d))).setCell ⟨g,k * 2+1,none⟩ (.int .i64 (r.2+d)))).ownsRow w.heap.size 99 2 (.slice (some ⟨g,0,none⟩) C.length c5) C.length (aM (shK C (k+1) d))):=aC (by
    have:=((OW.out.stored (k * 2) (.int .i64 (r.1+d))).1.stored (k * 2+1) (.int .i64 (r.2+d))).1
    rwa [qJ,aT1 hr] at this)
   have hgb:=(aH OW.out rfl).1
   have hgs:=(aH OW.out rfl).2.1
   have FB2:Hid (Below w.heap.size w ((wr.setCell ⟨g,k * 2,none⟩ (.int .i64 (r.1+d))).setCell ⟨g,k * 2+1,none⟩ (.int .i64 (r.2+d)))):=(B.out.setCell (p:=⟨g,k * 2,none⟩) hgb _).setCell (p:=⟨g,k * 2+1,none⟩) hgb _
   obtain⟨r1,r2⟩:=r
   dsimp only at d1 d2 hbd
   have w1:IntKind.wrap .i64 (r1+d)=r1+d:=by rw [IntKind.wrap_i64];omega
   have w2:IntKind.wrap .i64 (r2+d)=r2+d:=by rw [IntKind.wrap_i64];omega
   have i0:(0:Int)<=(k:Int):=by omega
   have i1:(k:Int) < (C.length:Int):=by omega
   clear z1 z2 hr hbd
   go_wp2
   go_roundw
   case rel=>exact⟨k+1,by omega,by go_num,aL1 O2.out (pG C (k+1) d),FB2.out⟩
   case measure=>simp [intOf];omega
  ·have i1:¬ (k:Int) < (C.length:Int):=by omega
   obtain rfl:k=C.length:=by omega
   rw [aT3] at RK
   go_wp2
   go_ret
   refine⟨_,rfl,_,RK.out,fun r hr=>?_,fun c=>?_,by simp;omega,B.out⟩
   ·obtain⟨x,hx,e⟩:=List.mem_map.1 hr
    subst e
    obtain⟨i,hi⟩:=List.getElem?_of_mem hx
    have:=BD.out i x hi
    simp only
    omega
   ·rw [jC,X5.out.2.1.mem,dI]
section
attribute [local go_sem] aR
theorem sF{A B:List (Int × Int)}{k:Nat}{a b:Int × Int}(ha:A[k]?=some a)(hb:B[k]?=some b)(h:A.take k=B.take k):A.take (k+1)=B.take (k+1) ↔ a=b:=by
 obtain⟨h1,rfl⟩:=List.getElem?_eq_some_iff.1 ha
 obtain⟨h2,rfl⟩:=List.getElem?_eq_some_iff.1 hb
 rw [dL A k h1,dL B k h2,h]
 simp only [List.append_cancel_left_eq,List.cons.injEq,and_true]
end
def gF(L:List (Int × Int))(c:Int):Prop:=In L c\/(In L (c - 32)/\65<=c - 32/\c - 32<=90)\/(In L (c+32)/\97<=c+32/\c+32<=122)
theorem xA{w:World}{va vb vc:Value}{A B C:List (Int × Int)}(ha:ArgR w va A)(hb:ArgR w vb B)(hc:ArgR w vc C)(t:TypeId):∀ (i:Nat) (p:Value × List (Int × Int)),[(va,A),(vb,B),(vc,C)][i]?=some p->(w.alloc (.cells #[va,vb,vc] t)).cell? ⟨w.heap.size,i,none⟩=some p.1/\ArgR (w.alloc (.cells #[va,vb,vc] t)) p.1 p.2:=by
 have B1:Below w.heap.size w (w.alloc (.cells #[va,vb,vc] t)):=bz9
 intro i p hp
 match i,hp with
 | 0,hp=>simp at hp;subst hp;exact⟨aB (aG w _) (i:=0) rfl,ha.kept B1⟩
 | 1,hp=>simp at hp;subst hp;exact⟨aB (aG w _) (i:=1) rfl,hb.kept B1⟩
 | 2,hp=>simp at hp;subst hp;exact⟨aB (aG w _) (i:=2) rfl,hc.kept B1⟩
theorem aZ4{w:World}{va vb vc:Value}{A B C:List (Int × Int)}(ha:ArgR w va A)(hb:ArgR w vb B)(hc:ArgR w vc C)(hl:A.length+B.length+C.length+1<=8796093022208) :
  Calls Tryz.prog 92 #[.slice (some ⟨w.heap.size,0,none⟩) 3 3] (w.alloc (.cells #[va,vb,vc] 25)) fun e w'=>∃ v,e=.returned v/\RR w.heap.size w' v (A ++ (B ++ C))/\Below w.heap.size w w':=
 (aP7 (V:=[(va,A),(vb,B),(vc,C)]) (m:=3) rfl (xA ha hb hc 25) (by simp) (by omega) (by simp [gL];omega)).mono fun e w' ⟨v,h1,h2,h3⟩=>⟨v,h1,by have:=h2.mono (base':=w.heap.size) (by simp);simpa [gL] using this,aE (bz9) h3 lz9⟩
theorem bF5{w:World}{v:Value}{L:List (Int × Int)}(h:ArgR w v L)(hF:Fit L)(hl:3 * L.length+9<=8796093022208) :
  Calls Tryz.prog 70 #[v] w (lG w (gF L) (3 * L.length+2)):=by
 obtain⟨q1,k1,e1,-,-,-⟩:=h.slice
 subst e1
 have H:Hid (ArgR w (.slice q1 L.length k1) L/\Fit L):=⟨h,hF⟩
 have hl1:L.length+2<=8796093022208:=by omega
 clear h hF
 go_enter Tryz.func70,Tryz.ntmps70
 go_wp2_with first
  |(have hx:=X5.out;clear hx;go_at_call 90;have hih:=aA0 (a:=97) (b:=122) (d:=-32) (H.out.1.kept X5.out.2.2.2.2) H.out.2 hl1 (by omega) (by omega) (by omega) (by omega) (by omega);refine hih.mono ?_;clear hih;rintro e w6 ⟨v6,D6,rfl,h1,h2,h3,h4,h5⟩;obtain⟨q6,c6,rfl⟩:=h1.shape;have X6:Hid (RR w5.heap.size w6 (.slice q6 D6.length c6) D6/\Fit D6/\(∀ c,In D6 c ↔ In L (c - -32)/\97<=c - -32/\c - -32<=122)/\D6.length<=L.length+1/\Below w5.heap.size w5 w6):=⟨h1,h2,h3,h4,h5⟩;clear h1 h2 h3 h4 h5)
  |(go_at_call 90;have hih:=aA0 (a:=65) (b:=90) (d:=32) H.out.1 H.out.2 hl1 (by omega) (by omega) (by omega) (by omega) (by omega);refine hih.mono ?_;clear hih;rintro e w5 ⟨v5,D5,rfl,h1,h2,h3,h4,h5⟩;obtain⟨q5,c5,rfl⟩:=h1.shape;have X5:Hid (RR w.heap.size w5 (.slice q5 D5.length c5) D5/\Fit D5/\(∀ c,In D5 c ↔ In L (c - 32)/\65<=c - 32/\c - 32<=90)/\D5.length<=L.length+1/\Below w.heap.size w w5):=⟨h1,h2,h3,h4,h5⟩;clear h1 h2 h3 h4 h5)
  |(go_at_call 92;refine(aZ4 ((H.out.1.kept X5.out.2.2.2.2).kept X6.out.2.2.2.2) (X5.out.1.kept X6.out.2.2.2.2).arg X6.out.1.arg (by have:=X5.out.2.2.2.1;have:=X6.out.2.2.2.1;omega)).mono ?_;rintro e w7 ⟨v7,rfl,h1,h2⟩;have X7:Hid (RR w6.heap.size w7 v7 (L ++ (D5 ++ D6))/\Below w6.heap.size w6 w7):=⟨h1,h2⟩;clear h1 h2)
  |(go_at_call 91;refine(bY X7.out.1.arg (bW H.out.2 (bW X5.out.2.1 X6.out.2.1)) (by have:=X5.out.2.2.2.1;have:=X6.out.2.2.2.1;simp;omega)).mono ?_;rintro e w8 ⟨v8,C8,rfl,h1,h2,h3,h4⟩;have X8:Hid (RR w7.heap.size w8 v8 C8/\IsC C8 (In (L ++ (D5 ++ D6)))/\C8.length<=(L ++ (D5 ++ D6)).length/\Below w7.heap.size w7 w8):=⟨h1,h2,h3,h4⟩;clear h1 h2 h3 h4)
 go_ret
 have B7:=aE (aE X5.out.2.2.2.2 X6.out.2.2.2.2 lz9) X7.out.2 lz9
 refine⟨_,_,rfl,X8.out.1.mono B7.size,X8.out.2.1.to fun c=>?_,?_,aE B7 X8.out.2.2.2 lz9⟩
 ·rw [bV,bV,X5.out.2.2.1,X6.out.2.2.1]
  unfold gF
  rw [show c - -32=c+32 by omega]
 ·have:=X8.out.2.2.1
  have:=X5.out.2.2.2.1
  have:=X6.out.2.2.2.1
  simp at *
  omega
theorem aH2{m:Bool}{c:Int}(h:bK m c):0<=c/\c < 1114112:=by
 obtain⟨h1,h2,_⟩:=h
 unfold top at h2
 split at h2 <;> omega
theorem aB6:∀ (C:List (Int × Int)) (lo hi:Int),Cls C->(∀ c,In C c->lo<=c/\c<=hi)->C=[]\/2 * (C.length:Int)<=hi - lo+2
 | [],_,_,_,_=>.inl rfl
 | r :: C,lo,hi,h,hb=>by
  have hr:=fL h
  have b1:=hb r.1 ((bJ ..).2 (.inl ⟨Int.le_refl _,hr⟩))
  have b2:=hb r.2 ((bJ ..).2 (.inl ⟨hr,Int.le_refl _⟩))
  refine .inr ?_
  rcases aB6 C (r.2+2) hi (jZ h) (fun c hc=>⟨by have:=dZ h hc;omega,(hb c ((bJ ..).2 (.inr hc))).2⟩) with rfl | q
  ·simp;omega
  ·simp;omega
theorem aQ4{C:List (Int × Int)}{p:Int->Prop}{m:Bool}(h:IsC C p)(hc:∀ c,p c->bK m c):C.length<=600000:=by
 rcases aB6 C 0 1114111 h.cls (fun c q=>by have:=aH2 (hc c ((h.mem c).1 q));omega) with rfl | q
 ·simp
 ·omega
section
attribute [local go_sem] aR
def bJ6(c f:Bool)(L:List (Int × Int)):Prop:=IsC L (fun x=>In L x/\bK c x)/\(f=true->∀ x,In L x ↔ gF L x)
def aY6(c f:Bool)(g:Int)(F:Fl):Prop:=
 if F.k=2 then bJ6 c f F.rs/\F.n=0/\F.mn=0/\F.mx=0
 else if F.k=7 then F.n=g/\F.mn=0/\F.mx=0/\F.rs.length=0
 else if F.k=8 then (1<=F.n/\F.n<=9)/\F.mn=0/\F.mx=0/\F.rs.length=0
 else if F.k=9 then aR2 F.mn F.mx=true/\F.n=0/\F.rs.length=0
 else F.n=0/\F.mn=0/\F.mx=0/\F.rs.length=0
end
section
attribute [local go_sem] aR
def bH5:Fl:=⟨0,0,0,0,[],none,0,none,0,0⟩
def SA(A:Nat->aS0):Way->Prop
 | []=>(A 0).f=bH5
 |(par,i) :: rest=>A (rest.length+1)=⟨par.f,(i:Int)+1⟩/\SA A rest
def BA(A:Nat->aS0):Way->Prop
 | []=>(A 0).f=bH5
 |(par,i) :: rest=>A (rest.length+1)=⟨par.f,(i:Int)⟩/\SA A rest
def bK1(p:Way)(num:Int):Bool:=p.any fun x=>x.1.f.k==7 && x.1.f.n==num
def bD6(p:Way)(k:Int):Bool:=match p with
 | []=>oE k
 |(par,i) :: _=>bD7 par.f.k (i:Int) par.ks.length k
open Classical in
noncomputable def bB8 (c f:Bool) (p:Way) (t:Tr) (ah gr:Nat):Int:=
 if ah=2000 then 42 else if 40 < p.length+1 then 43
 else if ¬ (bD6 p t.f.k=true/\aY6 c f ((gr:Int)+1) t.f/\bH7 t.f.k t.ks.length=true) then 50
 else if t.f.k=7/\30 < t.f.n then 42
 else if t.f.k=8/\¬ (bK1 p t.f.n=false/\t.f.n<=(gr:Int)) then 41 else 0
end
section
open Go Go.RowKit Go.Shelf
attribute [local go_sem] Oper.semAt_some
def dO:List El->Nat
 | []=>0
 | x :: r=>max (x.1.length+1) (dO r)
theorem yU(a:List El)(x:El):dO (a ++ [x])=max (dO a) (x.1.length+1):=by
 induction a with
 | nil=>simp [dO]
 | cons y a ih=>simp only [List.cons_append,dO,ih];omega
def bF3:List El->Nat
 | []=>0
 | x :: r=>(if x.2.f.k=7 then 1 else 0)+bF3 r
end
section
open Go Go.RowKit Go.Shelf
attribute [local go_sem] Oper.semAt_some
noncomputable def xM (c f:Bool):Nat->Nat->List El->Int
 | _,_,[]=>0
 | ah,gr,x :: r=>if bB8 c f x.1 x.2 ah gr≠0 then bB8 c f x.1 x.2 ah gr else xM c f (ah+1) (gr+(if x.2.f.k=7 then 1 else 0)) r
structure Inv(A:Nat->aS0)(pre:List El):Prop where
 bd:∀ d,0<=(A d).s/\(A d).s<=(pre.length:Int)
 nx:∀ t x,pre ++ [x] <+: pp [] t->BA A x.1
structure RI(w:World)(t:Tr)(c f:Bool)(b be:Nat)(pre:List El)(V:World):Prop where
 chk:∃ A,CB V b c f (pre.length:Int) (bF3 pre:Int) A/\Inv A pre
 pfx:pre <+: pp [] t
 len:pre.length<=2000
 res:V.heap[be]?=some (.cells #[.int .i64 0] 35 (0,0))
 bel:Below w.heap.size w V
 ans:∀ rest,pp [] t=pre ++ rest->xM c f 0 0 (pp [] t)=xM c f pre.length (bF3 pre) rest
end
def Fl.cells(f:Fl):List Value:=[.int .i64 f.k,.int .i64 f.n,.int .i64 f.mn,.int .i64 f.mx,.slice f.rq f.rs.length f.rc,.slice f.kq f.kl f.kc]
def bD(ks:List Tr):List Value:=ks.flatMap fun t=>t.f.cells
theorem kB(t:Tr)(ks:List Tr):bD (t :: ks)=t.f.cells ++ bD ks:=by simp [bD]
theorem dJ(a b:List Tr):bD (a ++ b)=bD a ++ bD b:=by simp [bD]
theorem eO(ks:List Tr):(bD ks).length=ks.length * 6:=by
 induction ks with
 | nil=>rfl
 | cons t ks ih=>rw [kB,List.length_append,ih,List.length_cons];simp [Fl.cells];omega
theorem lX(ks:List Tr):∀ u∈bD ks,u.oneCell'=true:=by
 intro u hu
 unfold bD at hu
 rw [List.mem_flatMap] at hu
 obtain⟨t,-,ht⟩:=hu
 simp [Fl.cells] at ht
 rcases ht with rfl | rfl | rfl | rfl | rfl | rfl <;> rfl
theorem jH:∀ (ks:List Tr) (i j:Nat) (t:Tr),ks[i]?=some t->j < 6->(bD ks)[i * 6+j]?=t.f.cells[j]?
 | t :: ks,0,j,u,h,hj=>by
  simp at h
  subst h
  rw [kB,Nat.zero_mul,Nat.zero_add,List.getElem?_append_left (by simpa [Fl.cells] using hj)]
 | t :: ks,i+1,j,u,h,hj=>by
  rw [kB,List.getElem?_append_right (by simp [Fl.cells];omega),show (i+1) * 6+j - t.f.cells.length=i * 6+j by simp [Fl.cells];omega]
  exact jH ks i j u (by simpa using h) hj
theorem tS(b o j:Nat):(⟨b,o,none⟩:Addr).add j=⟨b,o+j,none⟩:=by unfold Addr.add;split <;> simp_all
theorem Six.at{W:World}{g o:Nat}{f:Fl}(h:Six W g o f){j:Nat}{u:Value}(hj:f.cells[j]?=some u):W.cell? ⟨g,o+j,none⟩=some u:=by
 obtain⟨h0,h1,h2,h3,h4,h5⟩:=h
 match j,hj with
 | 0,hj=>simp [Fl.cells] at hj;subst hj;exact h0
 | 1,hj=>simp [Fl.cells] at hj;subst hj;exact h1
 | 2,hj=>simp [Fl.cells] at hj;subst hj;exact h2
 | 3,hj=>simp [Fl.cells] at hj;subst hj;exact h3
 | 4,hj=>simp [Fl.cells] at hj;subst hj;exact h4
 | 5,hj=>simp [Fl.cells] at hj;subst hj;exact h5
 | j+6,hj=>simp [Fl.cells] at hj
theorem ArgK.news{W:World}{ad:Addr}{n c:Nat}{ks:List Tr}(h:ArgK W (.slice (some ad) n c) ks):∀ j u,(bD ks)[j]?=some u->W.cell? (ad.add j)=some u:=by
 intro j u hj
 have hjl:j < ks.length * 6:=by have:=(List.getElem?_eq_some_iff.1 hj).1;rwa [eO] at this
 rcases h with⟨p,cap,e,rfl,-⟩ | ⟨g,off,cap,e,h2,h3,h4,h5⟩
 ·simp at hjl
 ·cases e
  obtain⟨t,ht⟩:∃ t,ks[j / 6]?=some t:=⟨_,List.getElem?_eq_getElem (by omega)⟩
  have hg:=jH ks (j / 6) (j % 6) t ht (by omega)
  rw [show j / 6 * 6+j % 6=j by omega,hj] at hg
  have:=(h5 (j / 6) t ht).at hg.symm
  rw [tS,<- this]
  congr 2
  omega
theorem rW(W:World)(a:Option Addr)(l c:Nat):(binOp .eql 25 (.slice a l c) (.slice none 0 0)).run Tryz.prog W=.ok (.bool a.isNone) W:=by
 unfold binOp
 simp [run_equal_slice_nil W _ _ a l c aO]
theorem rX(W:World)(a:Option Addr)(l c:Nat):(binOp .eql 26 (.slice a l c) (.slice none 0 0)).run Tryz.prog W=.ok (.bool a.isNone) W:=by
 unfold binOp
 simp [run_equal_slice_nil W _ _ a l c cR]
theorem aQ0{w:World}{q:Option Addr}{k:Nat}{L:List (Int × Int)}(h:ArgR w (.slice q L.length k) L)(hl:L.length+3<=8796093022208) :
  Calls Tryz.prog 67 #[.slice q L.length k] w fun e w'=>∃ q' k',e=.returned (.slice q' L.length k')/\RR w.heap.size w' (.slice q' L.length k') L/\Below w.heap.size w w':=by
 obtain⟨t0,hi,hz0,hz1,hz2⟩:=aS bF
 cases q with
 | none=>
  have hLn:L=[]/\k=0:=by
   rcases h with⟨p,cap,e,rfl,hp⟩ | ⟨g,off,cap,e,-⟩
   ·cases e;exact⟨rfl,hp rfl⟩
   ·cases e
  obtain⟨rfl,rfl⟩:=hLn
  have hq:=fun W=>rW W none 0 0
  clear h
  go_enter Tryz.func67,Tryz.ntmps67
  go_wp2
  go_ret
  exact⟨none,0,rfl,RR.nil _ _,Below.refl _ _⟩
 | some ad=>
  have hq:=fun W=>rW W (some ad) L.length k
  have B0:Below w.heap.size w (w.alloc (.cells #[] 99)):=bz9
  have OW:Hid ((w.alloc (.cells #[] 99)).ownsRow w.heap.size 99 2 (.slice (some ⟨w.heap.size,0,none⟩) 0 0) 0 []):=⟨rfl,.inr ⟨w.heap.size,0,#[],rfl,Nat.le_refl _,aG w _,Nat.le_refl _,Nat.zero_le _,rfl,rfl⟩⟩
  have HG:=aC (h.kept B0).news
  clear h B0
  go_enter Tryz.func67,Tryz.ntmps67
  go_wp2_with (at_builtin;refine wpList_append_own_at _ rfl _ _ 25 rfl w.heap.size 99 t0 (.agg #[.int .i64 0,.int .i64 0]) 2 16 aO hi hz0 hz1 hz2 rfl (by decide) (.slice (some ⟨w.heap.size,0,none⟩) 0 0) 0 [] rfl OW.out ad L.length k (aM L) rfl (by rw [cO]) HG.out (eX L) (by unfold maxLen;omega) (by omega) (by simp) ?_;intro v' w6 hown' hgrow _ hblk;obtain⟨q6,cap6,rfl⟩:=aL hown';have O6:Hid (w6.ownsRow w.heap.size 99 2 (.slice q6 (0+L.length) cap6) (0+L.length) ([] ++ aM L)):=hown';have B6:Hid (Below w.heap.size w w6):=((((Fr.refl (fun k=>k=w.heap.size) w).alloc _).grown hgrow (fun k hk=>by(simp [Value.ownBlock] at hk;exact hk.symm))).below lz9 (fun k hk=>by omega));clear hown' hgrow hblk)
  go_ret
  have:=O6.out
  rw [Nat.zero_add,List.nil_append] at this
  exact⟨q6,cap6,by simp,this,B6.out⟩
theorem aQ1{w:World}{q:Option Addr}{k:Nat}{ks:List Tr}(h:ArgK w (.slice q ks.length k) ks)(hl:ks.length<=1000000) :
  Calls Tryz.prog 68 #[.slice q ks.length k] w fun e w'=>∃ q' k',e=.returned (.slice q' ks.length k')/\w'.ownsRow w.heap.size 28 6 (.slice q' ks.length k') ks.length (bD ks)/\Below w.heap.size w w':=by
 obtain⟨t0,hi,hz0,hz1,hz2⟩:=aS fA
 cases q with
 | none=>
  have hLn:ks=[]/\k=0:=by
   rcases h with⟨p,cap,e,rfl,hp⟩ | ⟨g,off,cap,e,-⟩
   ·cases e;exact⟨rfl,hp rfl⟩
   ·cases e
  obtain⟨rfl,rfl⟩:=hLn
  have hq:=fun W=>rX W none 0 0
  clear h
  go_enter Tryz.func68,Tryz.ntmps68
  go_wp2
  go_ret
  exact⟨none,0,rfl,World.ownsRow_nil _ _ _ _,Below.refl _ _⟩
 | some ad=>
  have hq:=fun W=>rX W (some ad) ks.length k
  have B0:Below w.heap.size w (w.alloc (.cells #[] 28)):=bz9
  have OW:Hid ((w.alloc (.cells #[] 28)).ownsRow w.heap.size 28 6 (.slice (some ⟨w.heap.size,0,none⟩) 0 0) 0 []):=⟨rfl,.inr ⟨w.heap.size,0,#[],rfl,Nat.le_refl _,aG w _,Nat.le_refl _,Nat.zero_le _,rfl,rfl⟩⟩
  have HG:=aC (h.ck (CK.of_below B0)).news
  clear h B0
  go_enter Tryz.func68,Tryz.ntmps68
  go_wp2_with (at_builtin;refine wpList_append_own_at _ rfl _ _ 26 rfl w.heap.size 28 t0 (.agg #[.int .i64 0,.int .i64 0,.int .i64 0,.int .i64 0,.slice none 0 0,.slice none 0 0]) 6 80 cR hi hz0 hz1 hz2 rfl (by decide) (.slice (some ⟨w.heap.size,0,none⟩) 0 0) 0 [] rfl OW.out ad ks.length k (bD ks) rfl (by rw [eO]) HG.out (lX ks) (by unfold maxLen;omega) (by omega) (by simp) ?_;intro v' w6 hown' hgrow _ hblk;obtain⟨q6,cap6,rfl⟩:=aL hown';have O6:Hid (w6.ownsRow w.heap.size 28 6 (.slice q6 (0+ks.length) cap6) (0+ks.length) ([] ++ bD ks)):=hown';have B6:Hid (Below w.heap.size w w6):=((((Fr.refl (fun k=>k=w.heap.size) w).alloc _).grown hgrow (fun k hk=>by(simp [Value.ownBlock] at hk;exact hk.symm))).below lz9 (fun k hk=>by omega));clear hown' hgrow hblk)
  go_ret
  have:=O6.out
  rw [Nat.zero_add,List.nil_append] at this
  exact⟨q6,cap6,by simp,this,B6.out⟩
def aA9(N:Nat->Prop)(t:Tr):Prop:=(∀ a,t.f.rq=some a->t.f.rs≠[]->N a.block)/\(∀ a,t.f.kq=some a->t.ks≠[]->N a.block)
def Foot(N:Nat->Prop)(t:Tr):Prop:=dQ (aA9 N) t
theorem Foot.mono{N M:Nat->Prop}{t:Tr}(h:Foot N t)(hm:∀ k,N k->M k):Foot M t:=dD (fun _ q=>⟨fun a e z=>hm _ (q.1 a e z),fun a e z=>hm _ (q.2 a e z)⟩) t h
theorem NA.foot{W:World}{t:Tr}(h:NA W t):aA9 (fun k=>k < W.heap.size) t:=by
 refine⟨fun a e hz=>?_,fun a e hz=>?_⟩
 ·rcases h.r with⟨p,cap,-,e2,-⟩ | ⟨g,off,cap,e2,hg,-⟩
  ·exact absurd e2 hz
  ·injection e2 with e3
   rw [e] at e3
   cases e3
   exact hg
 ·rcases h.k with⟨p,cap,-,e2,-⟩ | ⟨g,off,cap,e2,hg,-⟩
  ·exact absurd e2 hz
  ·injection e2 with e3
   rw [e] at e3
   cases e3
   exact hg
theorem TA.foot{W:World}{t:Tr}(h:TA W t):Foot (fun k=>k < W.heap.size) t:=dD (fun _=>NA.foot) t h
theorem NA.ckN{N:Nat->Prop}{W W':World}{t:Tr}(h:NA W t)(hf:aA9 N t)(hc:oJ N W W'):NA W' t:=by
 refine⟨?_,?_,h.fit,h.len,fun a e z=>?_,fun a e z=>?_⟩
 rotate_left 2
 ·obtain⟨cur,q⟩:=h.own.1 a e z
  exact⟨cur,hc.same _ _ _ _ (hf.1 a e z) q⟩
 ·obtain⟨cur,q⟩:=h.own.2 a e z
  exact⟨cur,hc.same _ _ _ _ (hf.2 a e z) q⟩
 ·rcases h.r with q | ⟨g,off,cap,e,hg,h1,h2,h3⟩
  ·exact .inl q
  ·injection e with e1 e2 e3
   refine .inr ⟨g,off,cap,by rw [e1,e3],Nat.lt_of_lt_of_le hg hc.size,h1,h2,fun i x hx=>?_⟩
   have hN:N g:=hf.1 _ e1 (fun z=>by rw [z] at hx;simp at hx)
   exact⟨fS hc (p:=⟨g,off+2 * i,none⟩) hN (h3 i x hx).1,fS hc (p:=⟨g,off+2 * i+1,none⟩) hN (h3 i x hx).2⟩
 ·rcases h.k with q | ⟨g,off,cap,e,hg,h1,h2,h3⟩
  ·exact .inl q
  ·injection e with e1 e2 e3
   refine .inr ⟨g,off,cap,by rw [e1,e2,e3],Nat.lt_of_lt_of_le hg hc.size,h1,h2,fun i x hx=>(h3 i x hx).ck hc (hf.2 _ e1 (fun z=>by rw [z] at hx;simp at hx))⟩
theorem iS{P Q R:Tr->Prop}(h:∀ t,P t->Q t->R t)(t:Tr):dQ P t->dQ Q t->dQ R t:=by
 refine Tr.ind (P:=fun t=>dQ P t->dQ Q t->dQ R t) (fun t ih hp hq=>?_) t
 exact(aY t).2 ⟨h t ((aY t).1 hp).1 ((aY t).1 hq).1,(aW _).2 fun u hu=>ih u hu (gO hp hu) (gO hq hu)⟩
theorem TA.ckN{N:Nat->Prop}{W W':World}{t:Tr}(h:TA W t)(hf:Foot N t)(hc:oJ N W W'):TA W' t:=iS (fun _ a b=>NA.ckN a b hc) t h hf
structure KR(W:World)(g:Nat)(ks:List Tr):Prop where
 blk:∃ cur,W.heap[g]?=some (.cells cur 28 (0,0))
 six:∀ (i:Nat) (t:Tr),ks[i]?=some t->Six W g (i * 6) t.f
theorem KR.of_row{W:World}{base g n c:Nat}{ks:List Tr}(h:W.ownsRow base 28 6 (.slice (some ⟨g,0,none⟩) n c) n (bD ks)):KR W g ks:=by
 obtain⟨-,-,cur,hc⟩:=aH h (g:=g) rfl
 have at':∀ (i j:Nat) (t:Tr) (u:Value),ks[i]?=some t->t.f.cells[j]?=some u->W.cell? ⟨g,i * 6+j,none⟩=some u:=fun i j t u hi hj=>
  bC h ((jH ks i j t hi (by have:=(List.getElem?_eq_some_iff.1 hj).1;simpa [Fl.cells] using this)).trans hj)
 exact⟨⟨cur,hc⟩,fun i t hi=>⟨at' i 0 t _ hi rfl,at' i 1 t _ hi rfl,at' i 2 t _ hi rfl,at' i 3 t _ hi rfl,at' i 4 t _ hi rfl,at' i 5 t _ hi rfl⟩⟩
theorem KR.arg{W:World}{g c:Nat}{ks:List Tr}(h:KR W g ks)(h1:ks.length<=c)(h2:c<=maxLen):ArgK W (.slice (some ⟨g,0,none⟩) ks.length c) ks:=by
 obtain⟨cur,hc⟩:=h.blk
 exact .inr ⟨g,0,c,rfl,aA hc,h1,h2,fun i t hi=>by rw [Nat.zero_add];exact h.six i t hi⟩
theorem KR.ck{N:Nat->Prop}{W W':World}{g:Nat}{ks:List Tr}(h:KR W g ks)(hc:oJ N W W')(hg:N g):KR W' g ks:=by
 obtain⟨cur,hb⟩:=h.blk
 exact⟨⟨cur,hc.same _ _ _ _ hg hb⟩,fun i t hi=>(h.six i t hi).ck hc hg⟩
theorem KR.kept{W W':World}{g:Nat}{ks:List Tr}(h:KR W g ks)(hb:Below W.heap.size W W'):KR W' g ks:=by
 obtain⟨cur,hc⟩:=h.blk
 exact h.ck (CK.of_below hb) (aA hc)
theorem KR.frz{W:World}{g:Nat}{ks:List Tr}(h:KR W g ks)(j:Nat):W.frozen? ⟨g,j,none⟩=false:=by
 obtain⟨cur,hc⟩:=h.blk
 exact aP hc j
theorem KR.lt{W:World}{g:Nat}{ks:List Tr}(h:KR W g ks):g < W.heap.size:=by
 obtain⟨cur,hc⟩:=h.blk
 exact aA hc
def bH(W:World)(b o:Nat)(f:Fl):World:=
 (((((W.setCell ⟨b,o,none⟩ (.int .i64 f.k)).setCell ⟨b,o+1,none⟩ (.int .i64 f.n)).setCell ⟨b,o+2,none⟩ (.int .i64 f.mn)).setCell ⟨b,o+3,none⟩ (.int .i64 f.mx)).setCell ⟨b,o+4,none⟩ (.slice f.rq f.rs.length f.rc)).setCell ⟨b,o+5,none⟩ (.slice f.kq f.kl f.kc)
theorem cU(W:World)(b o:Nat)(f:Fl):Fr (fun z=>z=b) W (bH W b o f):=by
 unfold bH
 exact((((((Fr.refl (fun z=>z=b) W).setCell (p:=⟨b,o,none⟩) rfl _).setCell (p:=⟨b,o+1,none⟩) rfl _).setCell (p:=⟨b,o+2,none⟩) rfl _).setCell (p:=⟨b,o+3,none⟩) rfl _).setCell (p:=⟨b,o+4,none⟩) rfl _).setCell (p:=⟨b,o+5,none⟩) rfl _
theorem fF{W:World}{b o:Nat}{f g:Fl}(h:Six W b o f):Six (bH W b o g) b o g:=by
 obtain⟨k0,k1,k2,k3,k4,k5⟩:=h
 unfold bH
 refine⟨?_,?_,?_,?_,?_,?_⟩
 ·exact aZ (aZ (aZ (aZ (aZ (World.cell?_setCell_same _ _ _ k0) (by omega)) (by omega)) (by omega)) (by omega)) (by omega)
 ·exact aZ (aZ (aZ (aZ (World.cell?_setCell_same _ _ _ (aZ k1 (by omega))) (by omega)) (by omega)) (by omega)) (by omega)
 ·exact aZ (aZ (aZ (World.cell?_setCell_same _ _ _ (aZ (aZ k2 (by omega)) (by omega))) (by omega)) (by omega)) (by omega)
 ·exact aZ (aZ (World.cell?_setCell_same _ _ _ (aZ (aZ (aZ k3 (by omega)) (by omega)) (by omega))) (by omega)) (by omega)
 ·exact aZ (World.cell?_setCell_same _ _ _ (aZ (aZ (aZ (aZ k4 (by omega)) (by omega)) (by omega)) (by omega))) (by omega)
 ·exact World.cell?_setCell_same _ _ _ (aZ (aZ (aZ (aZ (aZ k5 (by omega)) (by omega)) (by omega)) (by omega)) (by omega))
theorem dV{W:World}{b o i:Nat}{f:Fl}{v:Value}(h:W.cell? ⟨b,i,none⟩=some v)(hi:i < o\/o+6<=i):(bH W b o f).cell? ⟨b,i,none⟩=some v:=by
 unfold bH
 exact aZ (aZ (aZ (aZ (aZ (aZ h (by omega)) (by omega)) (by omega)) (by omega)) (by omega)) (by omega)
theorem KR.set{W:World}{g:Nat}{ks:List Tr}(h:KR W g ks){i:Nat}(hi:i < ks.length)(t:Tr):KR (bH W g (i * 6) t.f) g (ks.set i t):=by
 refine⟨?_,fun j u hj=>?_⟩
 ·unfold bH
  exact cM (cM (cM (cM (cM (cM h.blk _ _) _ _) _ _) _ _) _ _) _ _
 ·by_cases e:j=i
  ·subst e
   rw [List.getElem?_set_self hi] at hj
   cases hj
   exact fF (h.six j _ (List.getElem?_eq_getElem hi))
  ·rw [List.getElem?_set_ne (Ne.symm e)] at hj
   obtain⟨k0,k1,k2,k3,k4,k5⟩:=h.six j u hj
   exact⟨dV k0 (by omega),dV k1 (by omega),dV k2 (by omega),dV k3 (by omega),dV k4 (by omega),dV k5 (by omega)⟩
end Go.Proofs.YtpfdapnfkghgkaaGreatDoor
