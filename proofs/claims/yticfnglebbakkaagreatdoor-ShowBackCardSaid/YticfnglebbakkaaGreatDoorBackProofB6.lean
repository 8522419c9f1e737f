/-
  Parts of the proof.
-/
import Derived.Test.YticfnglebbakkaaGreatDoorBackProofB5
import Derived.Test.YticfnglebbakkaaGreatDoorBackProofB4
import Derived.Deep.RegionHeld
set_option maxRecDepth 100000
set_option maxHeartbeats 8000000
namespace Go.Proofs.YticfnglebbakkaaGreatDoor
open Go Go.RowKit
attribute [local go_sem] bC
structure ComI(A B A' B' C:List (Int × Int)):Prop where
 ca:Cls A'
 cb:Cls B'
 fa:Fit A'
 fb:Fit B'
 cls:Cls C
 fit:Fit C
 mem:∀ c,(In C c\/(In A' c/\In B' c)) ↔ (In A c/\In B c)
 lo:∀ x∈C,∀ a∈A',∀ b∈B',x.1<=max a.1 b.1
 len:C.length+A'.length+B'.length<=A.length+B.length
theorem ComI.start{A B:List (Int × Int)}(ha:Cls A)(hb:Cls B)(fa:Fit A)(fb:Fit B):ComI A B A B []:=
 ⟨ha,hb,fa,fb,nA,gT,fun c=>⟨fun q=>q.elim (fun q=>absurd q (dN c)) id,.inr⟩,fun _ h=>(by cases h),by simp⟩
def tH(a b:Int × Int):Int × Int:=(max a.1 b.1,min a.2 b.2)
theorem kK{w:World}{va vb:Value}{A B:List (Int × Int)}(h1:aM w va A)(h2:aM w vb B)(ca:Cls A)(cb:Cls B)(fa:Fit A)(fb:Fit B)(hl:A.length+B.length+1<=8796093022208) :
  Calls Tryz.prog 128 #[va,vb] w (qV w (fun c=>In A c/\In B c) (A.length+B.length)):=by
 have ST:Hid (ComI A B A B []):=ComI.start ca cb fa fb
 have AA:Hid (aM w va A/\aM w vb B):=⟨h1,h2⟩
 clear h1 h2 ca cb fa fb
 go_enter Tryz.func128,Tryz.ntmps128
 go_wp2
 go_loopw [0,1,5] (fun xa xb cv wr=>∃ A' B' C:List (Int × Int),aM w xa A'/\aM w xb B'/\RR w.heap.size wr cv C/\ComI A B A' B' C/\Below w.heap.size w wr) (fun xa xb _ _=>lD xa+lD xb)
 case atStart=>exact⟨A,B,[],AA.out.1,AA.out.2,RR.nil _ _,ST.out,Below.refl _ _⟩
 case round=>
  obtain⟨A',B',C,ha,hb,hc,hI,hbl⟩:=hrel
  have RC:Hid (RR w.heap.size wr u5 C):=hc
  have I:Hid (ComI A B A' B' C):=hI
  have BW:Hid (Below w.heap.size w wr):=hbl
  have hbs:w.heap.size<=wr.heap.size:=hbl.size
  clear hc hI hbl
  cases A' with
  | nil=>
   obtain⟨q,cap,e,-,-,-⟩:=ha.slice
   simp only [List.length_nil] at e
   subst e
   obtain⟨q2,cap2,e2,-,-,-⟩:=hb.slice
   subst e2
   have D:Hid (IsC C (fun c=>In A c/\In B c)):=I.out.done (.inl rfl)
   have LN:Hid (C.length<=A.length+B.length):=aA (by have:=I.out.len;simp at this;omega)
   have d0:decide ((0:Int) < 0)=false:=by decide
   go_wp2
   go_ret
   exact⟨_,_,rfl,RC.out,D.out,LN.out,BW.out⟩
  | cons a A'=>
   obtain⟨g1,o1,cap1,rfl,hg1,hn1,hm1,x1,x2⟩:=ha.cons
   cases B' with
   | nil=>
    obtain⟨q2,cap2,e2,-,-,-⟩:=hb.slice
    simp only [List.length_nil] at e2
    subst e2
    have D:Hid (IsC C (fun c=>In A c/\In B c)):=I.out.done (.inr rfl)
    have LN:Hid (C.length<=A.length+B.length):=aA (by have:=I.out.len;simp at this;omega)
    have d1:(0:Int) < (A'.length:Int)+1:=by omega
    go_wp2
    go_ret
    exact⟨_,_,rfl,RC.out,D.out,LN.out,BW.out⟩
   | cons b B'=>
    obtain⟨g2,o2,cap2,rfl,hg2,hn2,hm2,y1,y2⟩:=hb.cons
    have TA:Hid (aM w (.slice (some ⟨g1,o1,none⟩) (A'.length+1) cap1) (a :: A')):=ha
    have TB:Hid (aM w (.slice (some ⟨g2,o2,none⟩) (B'.length+1) cap2) (b :: B')):=hb
    have FR:Hid (Fit [tH a b]):=I.out.fitR
    have FC:Hid (Fit C):=I.out.fit
    have LC:Hid (C.length+1<=8796093022208):=aA (by have:=I.out.len;omega)
    have d1:(0:Int) < (A'.length:Int)+1:=by omega
    have d2:(0:Int) < (B'.length:Int)+1:=by omega
    have cl1:=(BW.out.cell (p:=⟨g1,o1,none⟩) hg1).trans x1
    have ch1:=(BW.out.cell (p:=⟨g1,o1+1,none⟩) hg1).trans x2
    have cl2:=(BW.out.cell (p:=⟨g2,o2,none⟩) hg2).trans y1
    have ch2:=(BW.out.cell (p:=⟨g2,o2+1,none⟩) hg2).trans y2
    unfold maxLen at hm1 hm2
    obtain⟨la,ra⟩:=a
    obtain⟨lb,rb⟩:=b
    dsimp only at cl1 ch1 cl2 ch2 x1 x2 y1 y2
    have hmx:∀ t ty w,(Builtin.max_ t ty #[.int .i64 la,.int .i64 lb]).run Tryz.prog w=.ok (.int .i64 (tH (la,ra) (lb,rb)).1) w:=fun t ty w=>mP _ _ _ _ _ _
    have hmn:∀ t ty w,(Builtin.min_ t ty #[.int .i64 ra,.int .i64 rb]).run Tryz.prog w=.ok (.int .i64 (tH (la,ra) (lb,rb)).2) w:=fun t ty w=>xZ _ _ _ _ _ _
    have LE:Hid (ra < rb->ComI A B A' ((lb,rb) :: B') (bS C (tH (la,ra) (lb,rb)))):=fun q=>I.out.left q
    have RI:Hid (¬ ra < rb->ComI A B ((la,ra) :: A') B' (bS C (tH (la,ra) (lb,rb)))):=fun q=>I.out.right q
    generalize tH (la,ra) (lb,rb)=cr at hmx hmn FR LE RI
    have kk:Hid (g1 < w.heap.size/\g2 < w.heap.size):=⟨hg1,hg2⟩
    have XX:Hid (w.cell? ⟨g1,o1+1,none⟩=some (.int .i64 ra)/\w.cell? ⟨g2,o2+1,none⟩=some (.int .i64 rb)/\w.cell? ⟨g1,o1,none⟩=some (.int .i64 la)/\w.cell? ⟨g2,o2,none⟩=some (.int .i64 lb)):=⟨x2,y2,x1,y1⟩
    clear x1 x2 y1 y2 ha hb hg1 hg2
    have RD:Hid (RR w.heap.size wr.drew u5 C):=World.ownsRow.drew RC.out
    go_wp2
    go_region_held (fun w'=>w'.cell? ⟨g1,o1,none⟩=some (.int .i64 la)/\w'.cell? ⟨g1,o1+1,none⟩=some (.int .i64 ra)/\w'.cell? ⟨g2,o2,none⟩=some (.int .i64 lb)/\w'.cell? ⟨g2,o2+1,none⟩=some (.int .i64 rb)) (go_keep) (first |(go_at_call 154;refine(zP RD.out FC.out FR.out hbs LC.out).mono ?_;rintro e w6 ⟨v6,rfl,h1,h2,h3⟩;have R6:Hid (RR w.heap.size w6 v6 (bS C cr)):=h1;have B6:Hid (Below w.heap.size w w6):=dW (BW.out.trans (Below.refl _ _).drew) h3 lz9 (fun k hk=>(aF RC.out hk).1);clear h1 h2 h3;have q1:=(B6.out.cell (p:=⟨g1,o1,none⟩) kk.out.1).trans XX.out.2.2.1;have q2:=(B6.out.cell (p:=⟨g1,o1+1,none⟩) kk.out.1).trans XX.out.1;have q3:=(B6.out.cell (p:=⟨g2,o2,none⟩) kk.out.2).trans XX.out.2.2.2;have q4:=(B6.out.cell (p:=⟨g2,o2+1,none⟩) kk.out.2).trans XX.out.2.1))
    all_goals have b1:g1 < w6.heap.size:=Nat.lt_of_lt_of_le kk.out.1 B6.out.size
    all_goals have b2:g2 < w6.heap.size:=Nat.lt_of_lt_of_le kk.out.2 B6.out.size
    all_goals by_cases hq:ra < rb
    ·have CI:Hid (ComI A B A' ((lb,rb) :: B') (bS C cr)):=LE.out hq
     have dq:decide (ra < rb)=true:=decide_eq_true hq
     have TT:=TA.out.tail
     by_cases hcap:cap1=1
     ·have T1:Hid (aM w (.slice (some ⟨g1,o1,none⟩) 0 0) A'):=TT.1 hcap
      have hA0:A'.length=0:=by omega
      subst hcap
      clear TT
      go_wp2
      refine wx9 ?_
      repeat (go_big_quiet_step (first | exact rfl))
      refine wpQuiet_nil ?_
      intro w7 hw7
      have B7:Hid (Below w6.heap.size w6 w7):=aW hw7
      clear hw7
      go_wp2
      go_roundw
      case rel=>exact⟨A',(lb,rb) :: B',_,T1.out,TB.out,R6.out.kept B7.out,CI.out,aE B6.out B7.out lz9⟩
      case measure=>simp only [lD];omega
     ·have T1:Hid (aM w (.slice (some ⟨g1,o1+2,none⟩) A'.length (cap1 - 1)) A'):=TT.2 hcap
      clear TT
      go_wp2
      refine wx9 ?_
      repeat (go_big_quiet_step (first | exact rfl))
      refine wpQuiet_nil ?_
      intro w7 hw7
      have B7:Hid (Below w6.heap.size w6 w7):=aW hw7
      clear hw7
      go_wp2
      go_roundw
      case rel=>exact⟨A',(lb,rb) :: B',_,T1.out,TB.out,R6.out.kept B7.out,CI.out,aE B6.out B7.out lz9⟩
      case measure=>simp only [lD];omega
    ·have CI:Hid (ComI A B ((la,ra) :: A') B' (bS C cr)):=RI.out (by omega)
     have dq:decide (ra < rb)=false:=decide_eq_false hq
     have TT:=TB.out.tail
     by_cases hcap:cap2=1
     ·have T1:Hid (aM w (.slice (some ⟨g2,o2,none⟩) 0 0) B'):=TT.1 hcap
      have hA0:B'.length=0:=by omega
      subst hcap
      clear TT
      go_wp2
      refine wx9 ?_
      repeat (go_big_quiet_step (first | exact rfl))
      refine wpQuiet_nil ?_
      intro w7 hw7
      have B7:Hid (Below w6.heap.size w6 w7):=aW hw7
      clear hw7
      go_wp2
      go_roundw
      case rel=>exact⟨(la,ra) :: A',B',_,TA.out,T1.out,R6.out.kept B7.out,CI.out,aE B6.out B7.out lz9⟩
      case measure=>simp only [lD];omega
     ·have T1:Hid (aM w (.slice (some ⟨g2,o2+2,none⟩) B'.length (cap2 - 1)) B'):=TT.2 hcap
      clear TT
      go_wp2
      refine wx9 ?_
      repeat (go_big_quiet_step (first | exact rfl))
      refine wpQuiet_nil ?_
      intro w7 hw7
      have B7:Hid (Below w6.heap.size w6 w7):=aW hw7
      clear hw7
      go_wp2
      go_roundw
      case rel=>exact⟨(la,ra) :: A',B',_,TA.out,T1.out,R6.out.kept B7.out,CI.out,aE B6.out B7.out lz9⟩
      case measure=>simp only [lD];omega
    ·have CI:Hid (ComI A B A' ((lb,rb) :: B') (bS C cr)):=LE.out hq
     have dq:decide (ra < rb)=true:=decide_eq_true hq
     have TT:=TA.out.tail
     by_cases hcap:cap1=1
     ·have T1:Hid (aM w (.slice (some ⟨g1,o1,none⟩) 0 0) A'):=TT.1 hcap
      have hA0:A'.length=0:=by omega
      subst hcap
      clear TT
      go_wp2
      refine wx9 ?_
      repeat (go_big_quiet_step (first | exact rfl))
      refine wpQuiet_nil ?_
      intro w7 hw7
      have B7:Hid (Below w6.heap.size w6 w7):=aW hw7
      clear hw7
      go_wp2
      go_roundw
      case rel=>exact⟨A',(lb,rb) :: B',_,T1.out,TB.out,R6.out.kept B7.out,CI.out,aE B6.out B7.out lz9⟩
      case measure=>simp only [lD];omega
     ·have T1:Hid (aM w (.slice (some ⟨g1,o1+2,none⟩) A'.length (cap1 - 1)) A'):=TT.2 hcap
      clear TT
      go_wp2
      refine wx9 ?_
      repeat (go_big_quiet_step (first | exact rfl))
      refine wpQuiet_nil ?_
      intro w7 hw7
      have B7:Hid (Below w6.heap.size w6 w7):=aW hw7
      clear hw7
      go_wp2
      go_roundw
      case rel=>exact⟨A',(lb,rb) :: B',_,T1.out,TB.out,R6.out.kept B7.out,CI.out,aE B6.out B7.out lz9⟩
      case measure=>simp only [lD];omega
    ·have CI:Hid (ComI A B ((la,ra) :: A') B' (bS C cr)):=RI.out (by omega)
     have dq:decide (ra < rb)=false:=decide_eq_false hq
     have TT:=TB.out.tail
     by_cases hcap:cap2=1
     ·have T1:Hid (aM w (.slice (some ⟨g2,o2,none⟩) 0 0) B'):=TT.1 hcap
      have hA0:B'.length=0:=by omega
      subst hcap
      clear TT
      go_wp2
      refine wx9 ?_
      repeat (go_big_quiet_step (first | exact rfl))
      refine wpQuiet_nil ?_
      intro w7 hw7
      have B7:Hid (Below w6.heap.size w6 w7):=aW hw7
      clear hw7
      go_wp2
      go_roundw
      case rel=>exact⟨(la,ra) :: A',B',_,TA.out,T1.out,R6.out.kept B7.out,CI.out,aE B6.out B7.out lz9⟩
      case measure=>simp only [lD];omega
     ·have T1:Hid (aM w (.slice (some ⟨g2,o2+2,none⟩) B'.length (cap2 - 1)) B'):=TT.2 hcap
      clear TT
      go_wp2
      refine wx9 ?_
      repeat (go_big_quiet_step (first | exact rfl))
      refine wpQuiet_nil ?_
      intro w7 hw7
      have B7:Hid (Below w6.heap.size w6 w7):=aW hw7
      clear hw7
      go_wp2
      go_roundw
      case rel=>exact⟨(la,ra) :: A',B',_,TA.out,T1.out,R6.out.kept B7.out,CI.out,aE B6.out B7.out lz9⟩
      case measure=>simp only [lD];omega
end Go.Proofs.YticfnglebbakkaaGreatDoor
