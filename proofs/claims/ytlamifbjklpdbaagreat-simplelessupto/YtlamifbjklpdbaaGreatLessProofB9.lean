/-
  Parts of the proof.
-/
import Derived.Test.YtlamifbjklpdbaaGreatLessProofA0
import Derived.Test.YtlamifbjklpdbaaGreatLessProofB8
import Derived.Test.YtlamifbjklpdbaaGreatLessProofB7
import Derived.Deep.RegionHeld
set_option linter.unusedSimpArgs false
set_option maxRecDepth 100000
set_option maxHeartbeats 8000000
namespace Go.Proofs.YtlamifbjklpdbaaGreat
open Go Go.RowKit
attribute [local go_sem] bU
structure ComI(A B A' B' C:List (Int×Int)):Prop where
 ca:Cls A'
 cb:Cls B'
 fa:Fit A'
 fb:Fit B'
 cls:Cls C
 fit:Fit C
 mem:∀ c,(In C c\/(In A' c/\In B' c))↔(In A c/\In B c)
 lo:∀ x∈C,∀ a∈A',∀ b∈B',x.1<=max a.1 b.1
 len:C.length+A'.length+B'.length<=A.length+B.length
theorem ComI.start{A B:List (Int×Int)}(ha:Cls A)(hb:Cls B)(fa:Fit A)(fb:Fit B):ComI A B A B []:=
 ⟨ha,hb,fa,fb,mJ,eE,fun c=>⟨fun q=>q.elim (fun q=>absurd q (eX c)) id,.inr⟩,fun _ h=>(by cases h),by simp⟩
def dR(a b:Int×Int):Int×Int:=(max a.1 b.1,min a.2 b.2)
theorem ComI.fitR{A B A' B' C:List (Int×Int)}{a b:Int×Int}(I:ComI A B (a :: A') (b :: B') C):Fit [dR a b]:=by
 have h1:=I.fa a (by simp)
 have h2:=I.fb b (by simp)
 exact fS (by omega)
theorem ComI.add{A B A' B' C:List (Int×Int)}{a b:Int×Int}(I:ComI A B (a :: A') (b :: B') C) :
  Cls (bC C (dR a b))/\Fit (bC C (dR a b))/\(∀ c,In (bC C (dR a b)) c↔In C c\/(max a.1 b.1<=c/\c<=min a.2 b.2))/\∀ m,max a.1 b.1<=m->∀ x∈bC C (dR a b),x.1<=m:=by
 obtain⟨h1,h2,h3⟩:=lV (r:=dR a b) I.cls (fun _ x hx=>I.lo x hx a (by simp) b (by simp))
 exact⟨h1,nM I.fit I.fitR,h2,fun m hm=>h3 m (fun _=>hm) (fun x hx=>Int.le_trans (I.lo x hx a (by simp) b (by simp)) hm)⟩
theorem ComI.left{A B A' B' C:List (Int×Int)}{a b:Int×Int}(I:ComI A B (a :: A') (b :: B') C)(h:a.2<b.2):ComI A B A' (b :: B') (bC C (dR a b)):=by
 obtain⟨h1,h2,h3,h4⟩:=I.add
 refine⟨iR I.ca,I.cb,fun x hx=>I.fa x (b6 _ hx),I.fb,h1,h2,fun c=>?_,fun x hx y hy z hz=>?_,?_⟩
 ·rw [h3,<- I.mem,xP I.cb h]
  constructor
  ·rintro ((p | p) | p)
   ·exact .inl p
   ·exact .inr (.inl p)
   ·exact .inr (.inr p)
  ·rintro (p | p | p)
   ·exact .inl (.inl p)
   ·exact .inl (.inr p)
   ·exact .inr p
 ·refine h4 _ ?_ x hx
  have q1:=iS I.ca hy
  have q2:=eH I.ca
  rcases n7.1 hz with rfl | q
  ·omega
  ·have:=iS I.cb q
   have:=eH I.cb
   omega
 ·have:=iU C (dR a b)
  have:=I.len
  simp only [i9] at *
  omega
theorem ComI.right{A B A' B' C:List (Int×Int)}{a b:Int×Int}(I:ComI A B (a :: A') (b :: B') C)(h:¬ a.2<b.2):ComI A B (a :: A') B' (bC C (dR a b)):=by
 obtain⟨h1,h2,h3,h4⟩:=I.add
 refine⟨I.ca,iR I.cb,I.fa,fun x hx=>I.fb x (b6 _ hx),h1,h2,fun c=>?_,fun x hx y hy z hz=>?_,?_⟩
 ·rw [h3,<- I.mem,tY I.ca (by omega)]
  constructor
  ·rintro ((p | p) | p)
   ·exact .inl p
   ·exact .inr (.inl p)
   ·exact .inr (.inr p)
  ·rintro (p | p | p)
   ·exact .inl (.inl p)
   ·exact .inl (.inr p)
   ·exact .inr p
 ·refine h4 _ ?_ x hx
  have q1:=iS I.cb hz
  have q2:=eH I.cb
  rcases n7.1 hy with rfl | q
  ·omega
  ·have:=iS I.ca q
   have:=eH I.ca
   omega
 ·have:=iU C (dR a b)
  have:=I.len
  simp only [i9] at *
  omega
theorem ComI.done{A B A' B' C:List (Int×Int)}(I:ComI A B A' B' C)(h:A'=[]\/B'=[]):IsC C (fun c=>In A c/\In B c):=by
 refine⟨I.cls,I.fit,fun c=>?_⟩
 rw [<- I.mem]
 constructor
 ·exact .inl
 ·rintro (q | ⟨p,q⟩)
  ·exact q
  ·rcases h with rfl | rfl
   ·exact absurd p (eX c)
   ·exact absurd q (eX c)
theorem ArgR.tail{W:World}{g off n cap:Nat}{r:Int×Int}{L:List (Int×Int)}(h:ArgR W (.slice (some ⟨g,off,none⟩) (n+1) cap) (r :: L)):(cap=1->ArgR W (.slice (some ⟨g,off,none⟩) 0 0) L)/\(cap≠1->ArgR W (.slice (some ⟨g,off+2,none⟩) n (cap-1)) L):=by
 rcases h with⟨p,c,e,q,-⟩ | ⟨g',off',cap',e,h2,h3,h4,h5⟩
 ·cases q
 ·cases e
  constructor
  ·intro hc
   subst hc
   simp only [i9] at h3
   have:L=[]:=n8 (by omega)
   exact .inl ⟨_,_,rfl,this,fun q=>(by cases q)⟩
  ·intro hc
   refine .inr ⟨g,off+2,cap-1,rfl,h2,?_,by omega,fun i x hx=>?_⟩
   ·simp only [i9] at h3;omega
   ·have:=h5 (i+1) x (by simpa using hx)
    rw [show off+2+2*i=off+2*(i+1) by omega]
    exact this
theorem ArgR.cons{W:World}{v:Value}{r:Int×Int}{L:List (Int×Int)}(h:ArgR W v (r :: L)):∃ g off cap,v=.slice (some ⟨g,off,none⟩) (L.length+1) cap/\g<W.heap.size/\L.length+1<=cap/\cap<=maxLen/\W.cell? ⟨g,off,none⟩=some (.int .i64 r.1)/\W.cell? ⟨g,off+1,none⟩=some (.int .i64 r.2):=by
 rcases h with⟨p,c,e,q,-⟩ | ⟨g,off,cap,e,h2,h3,h4,h5⟩
 ·cases q
 ·exact⟨g,off,cap,e,h2,h3,h4,h5 0 r rfl⟩
theorem rT{w:World}{va vb:Value}{A B:List (Int×Int)}(h1:ArgR w va A)(h2:ArgR w vb B)(ca:Cls A)(cb:Cls B)(fa:Fit A)(fb:Fit B)(hl:A.length+B.length+1<=8796093022208) :
  Calls Tryz.prog 112 #[va,vb] w (oD w (fun c=>In A c/\In B c) (A.length+B.length)):=by
 have ST:Hid (ComI A B A B []):=ComI.start ca cb fa fb
 have AA:Hid (ArgR w va A/\ArgR w vb B):=⟨h1,h2⟩
 clear h1 h2 ca cb fa fb
 go_enter Tryz.func112,Tryz.ntmps112
 go_wp2
 go_loopw [0,1,5] (fun xa xb cv wr=>∃ A' B' C:List (Int×Int),ArgR w xa A'/\ArgR w xb B'/\RR w.heap.size wr cv C/\ComI A B A' B' C/\Below w.heap.size w wr) (fun xa xb _ _=>lP xa+lP xb)
 case atStart=>exact⟨A,B,[],AA.out.1,AA.out.2,RR.nil _ _,ST.out,Below.refl _ _⟩
 case round=>
  obtain⟨A',B',C,ha,hb,hc,hI,hbl⟩:=hrel
  have RC:Hid (RR w.heap.size wr u5 C):=hc
  have I:Hid (ComI A B A' B' C):=hI
  have BW:Hid (Below w.heap.size w wr):=hbl
  have hbs:w.heap.size<=wr.heap.size:=hbl.size
  clear hc hI hbl
  cases A' with
  | nil=>
   obtain⟨q,cap,e,-,-,-⟩:=ha.slice
   simp only [List.length_nil] at e
   subst e
   obtain⟨q2,cap2,e2,-,-,-⟩:=hb.slice
   subst e2
   have D:Hid (IsC C (fun c=>In A c/\In B c)):=I.out.done (.inl rfl)
   have LN:Hid (C.length<=A.length+B.length):=aB (by have:=I.out.len;simp at this;omega)
   have d0:decide ((0:Int)<0)=false:=by decide
   go_wp2
   go_ret
   exact⟨_,_,rfl,RC.out,D.out,LN.out,BW.out⟩
  | cons a A'=>
   obtain⟨g1,o1,cap1,rfl,hg1,hn1,hm1,x1,x2⟩:=ha.cons
   cases B' with
   | nil=>
    obtain⟨q2,cap2,e2,-,-,-⟩:=hb.slice
    simp only [List.length_nil] at e2
    subst e2
    have D:Hid (IsC C (fun c=>In A c/\In B c)):=I.out.done (.inr rfl)
    have LN:Hid (C.length<=A.length+B.length):=aB (by have:=I.out.len;simp at this;omega)
    have d1:(0:Int)<(A'.length:Int)+1:=by omega
    go_wp2
    go_ret
    exact⟨_,_,rfl,RC.out,D.out,LN.out,BW.out⟩
   | cons b B'=>
    obtain⟨g2,o2,cap2,rfl,hg2,hn2,hm2,y1,y2⟩:=hb.cons
    have TA:Hid (ArgR w (.slice (some ⟨g1,o1,none⟩) (A'.length+1) cap1) (a :: A')):=ha
    have TB:Hid (ArgR w (.slice (some ⟨g2,o2,none⟩) (B'.length+1) cap2) (b :: B')):=hb
    have FR:Hid (Fit [dR a b]):=I.out.fitR
    have FC:Hid (Fit C):=I.out.fit
    have LC:Hid (C.length+1<=8796093022208):=aB (by have:=I.out.len;omega)
    have d1:(0:Int)<(A'.length:Int)+1:=by omega
    have d2:(0:Int)<(B'.length:Int)+1:=by omega
    have cl1:=(BW.out.cell (p:=⟨g1,o1,none⟩) hg1).trans x1
    have ch1:=(BW.out.cell (p:=⟨g1,o1+1,none⟩) hg1).trans x2
    have cl2:=(BW.out.cell (p:=⟨g2,o2,none⟩) hg2).trans y1
    have ch2:=(BW.out.cell (p:=⟨g2,o2+1,none⟩) hg2).trans y2
    unfold maxLen at hm1 hm2
    obtain⟨la,ra⟩:=a
    obtain⟨lb,rb⟩:=b
    dsimp only at cl1 ch1 cl2 ch2 x1 x2 y1 y2
    have hmx:∀ t ty w,(Builtin.max_ t ty #[.int .i64 la,.int .i64 lb]).run Tryz.prog w=.ok (.int .i64 (dR (la,ra) (lb,rb)).1) w:=fun t ty w=>kT _ _ _ _ _ _
    have hmn:∀ t ty w,(Builtin.min_ t ty #[.int .i64 ra,.int .i64 rb]).run Tryz.prog w=.ok (.int .i64 (dR (la,ra) (lb,rb)).2) w:=fun t ty w=>uV _ _ _ _ _ _
    have LE:Hid (ra<rb->ComI A B A' ((lb,rb) :: B') (bC C (dR (la,ra) (lb,rb)))):=fun q=>I.out.left q
    have RI:Hid (¬ ra<rb->ComI A B ((la,ra) :: A') B' (bC C (dR (la,ra) (lb,rb)))):=fun q=>I.out.right q
    generalize dR (la,ra) (lb,rb)=cr at hmx hmn FR LE RI
    have kk:Hid (g1<w.heap.size/\g2<w.heap.size):=⟨hg1,hg2⟩
    have XX:Hid (w.cell? ⟨g1,o1+1,none⟩=some (.int .i64 ra)/\w.cell? ⟨g2,o2+1,none⟩=some (.int .i64 rb)/\w.cell? ⟨g1,o1,none⟩=some (.int .i64 la)/\w.cell? ⟨g2,o2,none⟩=some (.int .i64 lb)):=⟨x2,y2,x1,y1⟩
    clear x1 x2 y1 y2 ha hb hg1 hg2
    have RD:Hid (RR w.heap.size wr.drew u5 C):=World.ownsRow.drew RC.out
    go_wp2
    go_region_held (fun w'=>w'.cell? ⟨g1,o1,none⟩=some (.int .i64 la)/\w'.cell? ⟨g1,o1+1,none⟩=some (.int .i64 ra)/\w'.cell? ⟨g2,o2,none⟩=some (.int .i64 lb)/\w'.cell? ⟨g2,o2+1,none⟩=some (.int .i64 rb)) (go_keep) (first |(go_at_call 101;refine(aN1 RD.out FC.out FR.out hbs LC.out).mono ?_;rintro e w6 ⟨v6,rfl,h1,h2,h3⟩;have R6:Hid (RR w.heap.size w6 v6 (bC C cr)):=h1;have B6:Hid (Below w.heap.size w w6):=aX (BW.out.trans (Below.refl _ _).drew) h3 lz9 (fun k hk=>(aG RC.out hk).1);clear h1 h2 h3;have q1:=(B6.out.cell (p:=⟨g1,o1,none⟩) kk.out.1).trans XX.out.2.2.1;have q2:=(B6.out.cell (p:=⟨g1,o1+1,none⟩) kk.out.1).trans XX.out.1;have q3:=(B6.out.cell (p:=⟨g2,o2,none⟩) kk.out.2).trans XX.out.2.2.2;have q4:=(B6.out.cell (p:=⟨g2,o2+1,none⟩) kk.out.2).trans XX.out.2.1))
    all_goals have b1:g1<w6.heap.size:=j2 kk.out.1 B6.out.size
    all_goals have b2:g2<w6.heap.size:=j2 kk.out.2 B6.out.size
    all_goals by_cases hq:ra<rb
    ·have CI:Hid (ComI A B A' ((lb,rb) :: B') (bC C cr)):=LE.out hq
     have dq:decide (ra<rb)=true:=r9 hq
     have TT:=TA.out.tail
     by_cases hcap:cap1=1
     ·have T1:Hid (ArgR w (.slice (some ⟨g1,o1,none⟩) 0 0) A'):=TT.1 hcap
      have hA0:A'.length=0:=by omega
      subst hcap
      clear TT
      go_wp2
      refine wx9 ?_
      repeat (go_big_quiet_step (first | exact rfl))
      refine wpQuiet_nil ?_
      intro w7 hw7
      have B7:Hid (Below w6.heap.size w6 w7):=aS hw7
      clear hw7
      go_wp2
      go_roundw
      case rel=>exact⟨A',(lb,rb) :: B',_,T1.out,TB.out,R6.out.kept B7.out,CI.out,aF B6.out B7.out lz9⟩
      case measure=>simp only [lP];omega
     ·have T1:Hid (ArgR w (.slice (some ⟨g1,o1+2,none⟩) A'.length (cap1-1)) A'):=TT.2 hcap
      clear TT
      go_wp2
      refine wx9 ?_
      repeat (go_big_quiet_step (first | exact rfl))
      refine wpQuiet_nil ?_
      intro w7 hw7
      have B7:Hid (Below w6.heap.size w6 w7):=aS hw7
      clear hw7
      go_wp2
      go_roundw
      case rel=>exact⟨A',(lb,rb) :: B',_,T1.out,TB.out,R6.out.kept B7.out,CI.out,aF B6.out B7.out lz9⟩
      case measure=>simp only [lP];omega
    ·have CI:Hid (ComI A B ((la,ra) :: A') B' (bC C cr)):=RI.out (by omega)
     have dq:decide (ra<rb)=false:=j8 hq
     have TT:=TB.out.tail
     by_cases hcap:cap2=1
     ·have T1:Hid (ArgR w (.slice (some ⟨g2,o2,none⟩) 0 0) B'):=TT.1 hcap
      have hA0:B'.length=0:=by omega
      subst hcap
      clear TT
      go_wp2
      refine wx9 ?_
      repeat (go_big_quiet_step (first | exact rfl))
      refine wpQuiet_nil ?_
      intro w7 hw7
      have B7:Hid (Below w6.heap.size w6 w7):=aS hw7
      clear hw7
      go_wp2
      go_roundw
      case rel=>exact⟨(la,ra) :: A',B',_,TA.out,T1.out,R6.out.kept B7.out,CI.out,aF B6.out B7.out lz9⟩
      case measure=>simp only [lP];omega
     ·have T1:Hid (ArgR w (.slice (some ⟨g2,o2+2,none⟩) B'.length (cap2-1)) B'):=TT.2 hcap
      clear TT
      go_wp2
      refine wx9 ?_
      repeat (go_big_quiet_step (first | exact rfl))
      refine wpQuiet_nil ?_
      intro w7 hw7
      have B7:Hid (Below w6.heap.size w6 w7):=aS hw7
      clear hw7
      go_wp2
      go_roundw
      case rel=>exact⟨(la,ra) :: A',B',_,TA.out,T1.out,R6.out.kept B7.out,CI.out,aF B6.out B7.out lz9⟩
      case measure=>simp only [lP];omega
    ·have CI:Hid (ComI A B A' ((lb,rb) :: B') (bC C cr)):=LE.out hq
     have dq:decide (ra<rb)=true:=r9 hq
     have TT:=TA.out.tail
     by_cases hcap:cap1=1
     ·have T1:Hid (ArgR w (.slice (some ⟨g1,o1,none⟩) 0 0) A'):=TT.1 hcap
      have hA0:A'.length=0:=by omega
      subst hcap
      clear TT
      go_wp2
      refine wx9 ?_
      repeat (go_big_quiet_step (first | exact rfl))
      refine wpQuiet_nil ?_
      intro w7 hw7
      have B7:Hid (Below w6.heap.size w6 w7):=aS hw7
      clear hw7
      go_wp2
      go_roundw
      case rel=>exact⟨A',(lb,rb) :: B',_,T1.out,TB.out,R6.out.kept B7.out,CI.out,aF B6.out B7.out lz9⟩
      case measure=>simp only [lP];omega
     ·have T1:Hid (ArgR w (.slice (some ⟨g1,o1+2,none⟩) A'.length (cap1-1)) A'):=TT.2 hcap
      clear TT
      go_wp2
      refine wx9 ?_
      repeat (go_big_quiet_step (first | exact rfl))
      refine wpQuiet_nil ?_
      intro w7 hw7
      have B7:Hid (Below w6.heap.size w6 w7):=aS hw7
      clear hw7
      go_wp2
      go_roundw
      case rel=>exact⟨A',(lb,rb) :: B',_,T1.out,TB.out,R6.out.kept B7.out,CI.out,aF B6.out B7.out lz9⟩
      case measure=>simp only [lP];omega
    ·have CI:Hid (ComI A B ((la,ra) :: A') B' (bC C cr)):=RI.out (by omega)
     have dq:decide (ra<rb)=false:=j8 hq
     have TT:=TB.out.tail
     by_cases hcap:cap2=1
     ·have T1:Hid (ArgR w (.slice (some ⟨g2,o2,none⟩) 0 0) B'):=TT.1 hcap
      have hA0:B'.length=0:=by omega
      subst hcap
      clear TT
      go_wp2
      refine wx9 ?_
      repeat (go_big_quiet_step (first | exact rfl))
      refine wpQuiet_nil ?_
      intro w7 hw7
      have B7:Hid (Below w6.heap.size w6 w7):=aS hw7
      clear hw7
      go_wp2
      go_roundw
      case rel=>exact⟨(la,ra) :: A',B',_,TA.out,T1.out,R6.out.kept B7.out,CI.out,aF B6.out B7.out lz9⟩
      case measure=>simp only [lP];omega
     ·have T1:Hid (ArgR w (.slice (some ⟨g2,o2+2,none⟩) B'.length (cap2-1)) B'):=TT.2 hcap
      clear TT
      go_wp2
      refine wx9 ?_
      repeat (go_big_quiet_step (first | exact rfl))
      refine wpQuiet_nil ?_
      intro w7 hw7
      have B7:Hid (Below w6.heap.size w6 w7):=aS hw7
      clear hw7
      go_wp2
      go_roundw
      case rel=>exact⟨(la,ra) :: A',B',_,TA.out,T1.out,R6.out.kept B7.out,CI.out,aF B6.out B7.out lz9⟩
      case measure=>simp only [lP];omega
end Go.Proofs.YtlamifbjklpdbaaGreat
