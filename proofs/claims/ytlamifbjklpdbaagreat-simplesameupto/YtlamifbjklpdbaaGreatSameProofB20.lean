/-
  Parts of the proof.
-/
import Derived.Test.YtlamifbjklpdbaaGreatSameProofA0
import Derived.Test.YtlamifbjklpdbaaGreatSameProofB19
import Derived.Test.YtlamifbjklpdbaaGreatSameProofB4
import Derived.Test.YtlamifbjklpdbaaGreatSameProofB8
import Derived.Laws.MakeOwn
set_option linter.unusedSimpArgs false
set_option maxRecDepth 100000
set_option maxHeartbeats 8000000
namespace Go.Proofs.YtlamifbjklpdbaaGreat
open Go Go.RowKit
section
attribute [local go_sem] aU
theorem lV{w:World}{v:Value}{L:List (Int×Int)}(h:ArgR w v L)(hF:Fit L)(hn:L.length<=1):Calls Tryz.prog 81 #[v] w (qK w L):=by
 obtain⟨t0,ti,hz0,hz1,hz2⟩:=aR cL
 cases L with
 | nil=>
  obtain⟨q,cap,e,-,-,-⟩:=h.slice
  subst e
  clear h
  go_enter Tryz.func81,Tryz.ntmps81
  go_wp2
  go_ret
  exact⟨_,[],rfl,RR.nil _ _,rW,eM,fun _=>Iff.rfl,t8 _,Below.refl _ _⟩
 | cons r L'=>
  obtain rfl:L'=[]:=aAD (by simpa using hn)
  obtain⟨g,off,cap,rfl,hg,hn1,hm1,x1,x2⟩:=h.cons
  have HF:Hid (Fit [r]):=hF
  clear h hF
  obtain⟨lo,hi⟩:=r
  dsimp only [List.length_nil] at x1 x2 hn1 ⊢
  have W1:Hid (w=w):=rfl
  by_cases hq:lo<=hi
  ·have dq:decide (lo<=hi)=true:=aAM hq
   have HQ:Hid (lo<=hi):=hq
   go_enter Tryz.func81,Tryz.ntmps81
   go_wp2
   refine wx9 ?_
   repeat (go_big_quiet_step (first | exact rfl))
   refine wpQuiet_nil ?_
   intro w7 hw7
   have B7:Hid (Below w.heap.size w w7):=aM hw7
   have c1:=(B7.out.cell (p:=⟨g,off,none⟩) hg).trans x1
   have c2:=(B7.out.cell (p:=⟨g,off+1,none⟩) hg).trans x2
   have hz7:=B7.out.size
   clear hw7 x1 x2
   go_wp2_with (at_builtin;refine wpList_append_own_at _ rfl _ _ 22 rfl w.heap.size 53 t0 (.agg #[.int .i64 0,.int .i64 0]) 2 16 aY ti hz0 hz1 hz2 rfl (by decide) (.slice none 0 0) 0 (aL []) rfl (RR.nil _ _) ⟨w7.heap.size,0,none⟩ 1 1 [.int .i64 lo,.int .i64 hi] rfl rfl (jA _ _ _ _) (by simp [Value.oneCell']) (by unfold maxLen;omega) (by omega) (by simp;omega) ?_;intro v' w6 hown' hgrow _ hblk;obtain⟨g6,cap6,rfl⟩:=aO hown' (aBK _);have A6:Hid (RR w.heap.size w6 (.slice (some ⟨g6,0,none⟩) 1 cap6) [(lo,hi)]):=hown';have B6:Hid (Below w.heap.size w w6):=bZ (t:=53) (size:=2) (n:=0) (xs:=[]) (B7.out.alloc hz7 _) (RR.nil _ _) hgrow;clear hown' hgrow hblk)
   go_ret
   exact⟨_,[(lo,hi)],rfl,A6.out,rV HQ.out,HF.out,fun _=>Iff.rfl,t8 _,B6.out⟩
  ·have dq:decide (lo<=hi)=false:=r9 hq
   have HQ:Hid (¬ lo<=hi):=hq
   go_enter Tryz.func81,Tryz.ntmps81
   go_wp2
   refine wx9 ?_
   repeat (go_big_quiet_step (first | exact rfl))
   refine wpQuiet_nil ?_
   intro w7 hw7
   have B7:Hid (Below w.heap.size w w7):=aM hw7
   clear hw7
   go_wp2
   go_ret
   exact⟨_,[],rfl,RR.nil _ _,rW,eM,fun c=>⟨fun q=>absurd q (fH c),fun q=>by rw [dZ] at q;have:=HQ.out;simp only at q;omega⟩,by simp,B7.out⟩
theorem tT{w:World}{v:Value}{L:List (Int×Int)}(ih:∀ (w:World) (v:Value) (L':List (Int×Int)),L'.length<L.length->ArgR w v L'->Fit L'->Calls Tryz.prog 81 #[v] w (qK w L'))(h:ArgR w v L)(hF:Fit L)(hn:1<L.length)(hl:L.length+1<=8796093022208):Calls Tryz.prog 81 #[v] w (qK w L):=by
 obtain⟨t0,ti,hz0,hz1,hz2⟩:=aR cL
 obtain⟨q,cap,e,-,hcap,hcells⟩:=h.slice
 subst e
 obtain⟨g,off,rfl,hg,-,-⟩:=hcells 0 _ (g9 (by omega))
 obtain⟨k,hk⟩:∃ k,L.length/2=k:=⟨_,rfl⟩
 have hk1:0<k:=by omega
 have hk2:k<L.length:=by omega
 have IH:Hid (∀ (w:World) (v:Value) (L':List (Int×Int)),L'.length<L.length->ArgR w v L'->Fit L'->Calls Tryz.prog 81 #[v] w (qK w L')):=ih
 have T1:Hid (ArgR w (.slice (some ⟨g,off,none⟩) k cap) (L.take k)/\Fit (L.take k)/\(L.take k).length<L.length):=⟨h.take (by omega),dQ hF fun x hx=>aAS hx,by simp;omega⟩
 have T2:Hid (ArgR w (.slice (some ⟨g,off+k*2,none⟩) (L.length-k) (cap-k)) (L.drop k)/\Fit (L.drop k)/\(L.drop k).length<L.length):=⟨h.drop hk2,dQ hF fun x hx=>List.mem_of_mem_drop hx,by simp;omega⟩
 have HL:Hid ((L.take k).length+(L.drop k).length=L.length):=aA (by simp;omega)
 have q1:((L.length:Int).tdiv 2)=(k:Int):=by rw [<- hk];simp [Int.tdiv_eq_ediv]
 have q2:IntKind.wrap .i64 ((L.length:Int).tdiv 2)=(k:Int):=by rw [q1,IntKind.wrap_i64];omega
 have n0:((L.length:Int)==0)=false:=beq_false_of_ne (by omega)
 have n1:((L.length:Int)==1)=false:=beq_false_of_ne (by omega)
 have k0:(0:Int)<=(k:Int):=by omega
 have k1:(k:Int)<=(cap:Int):=by omega
 have k2:(k:Int)<=(L.length:Int):=by omega
 have k3:¬ cap=k:=by omega
 clear h hF ih hcells hk
 go_enter Tryz.func81,Tryz.ntmps81
 go_wp2_with first
  |(go_at_call 81;have hx:=X5.out;clear hx;have hih:=IH.out w5 _ _ T2.out.2.2 (T2.out.1.kept X5.out.2.2.2.2.2) T2.out.2.1;(with_reducible refine hih.mono ?_);clear hih;rintro e w6 ⟨v6,B,rfl,h1,h2,h3,h4,h5,h6⟩;obtain⟨qb,cb,rfl⟩:=h1.shape;have X6:Hid (RR w5.heap.size w6 (.slice qb B.length cb) B/\Srt B/\Fit B/\(∀ c,In B c↔In (L.drop k) c)/\B.length<=(L.drop k).length/\Below w5.heap.size w5 w6):=⟨h1,h2,h3,h4,h5,h6⟩;clear h1 h2 h3 h4 h5 h6)
  |(go_at_call 81;have hih:=IH.out w _ _ T1.out.2.2 T1.out.1 T1.out.2.1;(with_reducible refine hih.mono ?_);clear hih;rintro e w5 ⟨v5,A,rfl,h1,h2,h3,h4,h5,h6⟩;obtain⟨qa,ca,rfl⟩:=h1.shape;have X5:Hid (RR w.heap.size w5 (.slice qa A.length ca) A/\Srt A/\Fit A/\(∀ c,In A c↔In (L.take k) c)/\A.length<=(L.take k).length/\Below w.heap.size w w5):=⟨h1,h2,h3,h4,h5,h6⟩;clear h1 h2 h3 h4 h5 h6)
 rename World=>W1
 have ST:Hid (MI A B A B []):=MI.start X5.out.2.1 X6.out.2.1 X5.out.2.2.1 X6.out.2.2.1
 have AA:Hid (ArgR W1 (.slice qa A.length ca) A/\ArgR W1 (.slice qb B.length cb) B):=⟨(X5.out.1.kept X6.out.2.2.2.2.2).arg,X6.out.1.arg⟩
 have hab:A.length+B.length+1<=8796093022208:=by have:=X5.out.2.2.2.2.1;have:=X6.out.2.2.2.2.1;have:=HL.out;omega
 have BW:Hid (Below w.heap.size w W1):=aG X5.out.2.2.2.2.2 X6.out.2.2.2.2.2 lz9
 have HA:Hid (∀ (i:Nat) (r:Int×Int),A[i]?=some r->∃ g off,qa=some ⟨g,off,none⟩/\g<W1.heap.size/\W1.cell? ⟨g,off+2*i,none⟩=some (.int .i64 r.1)/\W1.cell? ⟨g,off+2*i+1,none⟩=some (.int .i64 r.2)):=by
  obtain⟨q',cap',e,-,-,hc⟩:=AA.out.1.slice
  cases e
  exact hc
 have FIN:Hid (∀ O B',MI A B [] B' O->Srt (O++B')/\Fit (O++B')/\(∀ c,In (O++B') c↔In L c)/\(O++B').length<=L.length):=fun O B' I=>by
  obtain⟨m1,m2,m3,m4⟩:=I.done
  refine⟨m1,m3,fun c=>?_,?_⟩
  ·rw [m2,X5.out.2.2.2.1,X6.out.2.2.2.1,aF3]
  ·have:=X5.out.2.2.2.2.1;have:=X6.out.2.2.2.2.1;have:=HL.out;omega
 clear q1 q2 k0 k1 k2 k3 n0 n1
 go_loopw [3,5,6] (fun ov bv i wr=>∃ (j:Nat) (B' O:List (Int×Int)),j<=A.length/\i=.int .i64 j/\ArgR W1 bv B'/\RR W1.heap.size wr ov O/\MI A B (A.drop j) B' O/\Below W1.heap.size W1 wr) (fun _ _ i _=>A.length-(intOf i).toNat)
 case atStart=>exact⟨0,B,[],o9 _,rfl,AA.out.2,RR.nil _ _,ST.out,Below.refl _ _⟩
 case round=>
  obtain⟨j,B',O,hj,rfl,hbv,hov,hI,hb⟩:=hrel
  have RB:Hid (ArgR W1 u5 B'):=hbv
  have RO:Hid (RR W1.heap.size wr u3 O):=hov
  have I:Hid (MI A B (A.drop j) B' O):=hI
  have BB:Hid (Below W1.heap.size W1 wr):=hb
  clear hbv hov hI hb
  by_cases hlt:j<A.length
  ·obtain⟨a,ea⟩:∃ r,A[j]?=some r:=⟨_,g9 hlt⟩
   have DR:Hid (A.drop j=a :: A.drop (j+1)):=aA (by obtain⟨h1,h2⟩:=m8.1 ea;rw [aBO h1,h2])
   obtain⟨ga,oa,rfl,hga,xa1,xa2⟩:=HA.out j _ ea
   have I2:Hid (MI A B (a :: A.drop (j+1)) B' O):=aA (by rw [<- DR.out];exact I.out)
   rw [aBB] at xa1 xa2
   obtain⟨la,ra⟩:=a
   dsimp only at xa1 xa2
   have XA:Hid (W1.cell? ⟨ga,oa+j*2,none⟩=some (.int .i64 la)/\W1.cell? ⟨ga,oa+j*2+1,none⟩=some (.int .i64 ra)/\ga<W1.heap.size):=⟨xa1,xa2,hga⟩
   have i0:(0:Int)<=(j:Int):=by omega
   have i1:(j:Int)<(A.length:Int):=by omega
   clear xa1 xa2 hga ea
   rename World=>W2
   obtain⟨qq,cc,e5⟩:∃ q c,u5=.slice q B'.length c:=by obtain⟨q,c,e,-⟩:=RB.out.slice;exact⟨q,c,e⟩
   obtain⟨qq3,cc3,e3⟩:=RO.out.shape
   go_wp2
   go_loopw [3,5] (fun ov bv wr=>∃ (B' O:List (Int×Int)),ArgR W1 bv B'/\RR W1.heap.size wr ov O/\MI A B ((la,ra) :: A.drop (j+1)) B' O/\Below W1.heap.size W1 wr) (fun _ bv _=>nQ bv)
   case atStart=>exact⟨B',O,RB.out,RO.out,I2.out,BB.out⟩
   case round=>
    clear RB RO I I2 BB e5 e3
    obtain⟨B',O,hbv,hov,hI,hb⟩:=hrel
    obtain⟨qo,co,e3⟩:=hov.shape
    subst e3
    have RO:Hid (RR W1.heap.size wr (.slice qo O.length co) O):=hov
    have I:Hid (MI A B ((la,ra) :: A.drop (j+1)) B' O):=hI
    have BB:Hid (Below W1.heap.size W1 wr):=hb
    have hol:O.length+1<=8796093022208:=by have:=hI.len;simp at this;omega
    have hbs:=hb.size
    have ca1:=(BB.out.cell (p:=⟨ga,oa+j*2,none⟩) XA.out.2.2).trans XA.out.1
    have sa:ga<wr.heap.size:=o8 XA.out.2.2 hbs
    clear hov hI hb
    cases B' with
    | nil=>
     obtain⟨q2,cap2,e2,-,-,-⟩:=hbv.slice
     simp only [List.length_nil] at e2
     subst e2
     have RB:Hid (ArgR W1 (.slice q2 0 cap2) []):=hbv
     have I2:Hid (MI A B (A.drop (j+1)) [] (O++[(la,ra)])):=I.out.left (fun _ h=>by cases h)
     have d0:decide ((0:Int)<0)=false:=by decide
     clear hbv
     go_wp2
     refine wx9 ?_
     repeat (go_big_quiet_step (first | exact rfl))
     refine wpQuiet_nil ?_
     intro w7 hw7
     have B7:Hid (Below W1.heap.size W1 w7):=aG BB.out (aM hw7) lz9
     have R7:Hid (RR W1.heap.size w7 (.slice qo O.length co) O):=RO.out.kept (aM hw7)
     have e1:=(B7.out.cell (p:=⟨ga,oa+j*2,none⟩) XA.out.2.2).trans XA.out.1
     have e2:=(B7.out.cell (p:=⟨ga,oa+j*2+1,none⟩) XA.out.2.2).trans XA.out.2.1
     have hz7:=B7.out.size
     clear hw7 ca1
     go_wp2_with (at_builtin;refine wpList_append_own_at _ rfl _ _ 22 rfl W1.heap.size 53 t0 (.agg #[.int .i64 0,.int .i64 0]) 2 16 aY ti hz0 hz1 hz2 rfl (by decide) (.slice qo O.length co) O.length (aL O) rfl (aAB R7.out (.cells #[.int .i64 la,.int .i64 ra] 53)) ⟨w7.heap.size,0,none⟩ 1 1 [.int .i64 la,.int .i64 ra] rfl rfl (jA _ _ _ _) (by simp [Value.oneCell']) (by unfold maxLen;omega) (by omega) (by simp;omega) ?_;intro v' w6 hown' hgrow _ hblk;obtain⟨g6,cap6,rfl⟩:=aO hown' (aBK _);have A6:Hid (RR W1.heap.size w6 (.slice (some ⟨g6,0,none⟩) (O.length+1) cap6) (O++[(la,ra)])):=nM hown';have B6:Hid (Below W1.heap.size W1 w6):=bZ (B7.out.alloc B7.out.size _) (aAB R7.out _) hgrow;clear hown' hgrow hblk)
     go_roundw
     case rel=>exact⟨j+1,[],_,by omega,by go_num,RB.out,A6.out,I2.out,B6.out⟩
     case measure=>simp [intOf];omega
    | cons b B'=>
     obtain⟨g2,o2,cap2,e2,hg2,hn2,hm2,y1,y2⟩:=hbv.cons
     subst e2
     have RB:Hid (ArgR W1 (.slice (some ⟨g2,o2,none⟩) (B'.length+1) cap2) (b :: B')):=hbv
     obtain⟨lb,rb⟩:=b
     dsimp only at y1 y2
     have YB:Hid (W1.cell? ⟨g2,o2,none⟩=some (.int .i64 lb)/\W1.cell? ⟨g2,o2+1,none⟩=some (.int .i64 rb)/\g2<W1.heap.size):=⟨y1,y2,hg2⟩
     have cb1:=(BB.out.cell (p:=⟨g2,o2,none⟩) YB.out.2.2).trans YB.out.1
     have sb:g2<wr.heap.size:=o8 hg2 hbs
     have d1:(0:Int)<(B'.length:Int)+1:=by omega
     have dd:decide ((0:Int)<(B'.length:Int)+1)=true:=aAM d1
     unfold maxLen at hm2
     clear hbv y1 y2 hg2
     by_cases hq:lb<la
     ·have I2:Hid (MI A B ((la,ra) :: A.drop (j+1)) B' (O++[(lb,rb)])):=I.out.right hq
      have dq:decide (lb<la)=true:=aAM hq
      have TT:=RB.out.tail
      by_cases hcap:cap2=1
      ·have T1':Hid (ArgR W1 (.slice (some ⟨g2,o2,none⟩) 0 0) B'):=TT.1 hcap
       have hA0:B'.length=0:=by omega
       subst hcap
       clear TT
       go_wp2
       refine wx9 ?_
       repeat (go_big_quiet_step (first | exact rfl))
       refine wpQuiet_nil ?_
       intro w7 hw7
       have B7:Hid (Below W1.heap.size W1 w7):=aG BB.out (aM hw7) lz9
       have R7:Hid (RR W1.heap.size w7 (.slice qo O.length co) O):=RO.out.kept (aM hw7)
       have e1:=(B7.out.cell (p:=⟨g2,o2,none⟩) YB.out.2.2).trans YB.out.1
       have e2:=(B7.out.cell (p:=⟨g2,o2+1,none⟩) YB.out.2.2).trans YB.out.2.1
       have hz7:=B7.out.size
       clear hw7 ca1 cb1
       go_wp2_with (at_builtin;refine wpList_append_own_at _ rfl _ _ 22 rfl W1.heap.size 53 t0 (.agg #[.int .i64 0,.int .i64 0]) 2 16 aY ti hz0 hz1 hz2 rfl (by decide) (.slice qo O.length co) O.length (aL O) rfl (aAB R7.out (.cells #[.int .i64 lb,.int .i64 rb] 53)) ⟨w7.heap.size,0,none⟩ 1 1 [.int .i64 lb,.int .i64 rb] rfl rfl (jA _ _ _ _) (by simp [Value.oneCell']) (by unfold maxLen;omega) (by omega) (by simp;omega) ?_;intro v' w6 hown' hgrow _ hblk;obtain⟨g6,cap6,rfl⟩:=aO hown' (aBK _);have A6:Hid (RR W1.heap.size w6 (.slice (some ⟨g6,0,none⟩) (O.length+1) cap6) (O++[(lb,rb)])):=nM hown';have B6:Hid (Below W1.heap.size W1 w6):=bZ (B7.out.alloc B7.out.size _) (aAB R7.out _) hgrow;clear hown' hgrow hblk)
       go_roundw
       case rel=>exact⟨B',_,T1'.out,A6.out,I2.out,B6.out⟩
       case measure=>simp only [nQ];omega
      ·have T1':Hid (ArgR W1 (.slice (some ⟨g2,o2+2,none⟩) B'.length (cap2-1)) B'):=TT.2 hcap
       clear TT
       go_wp2
       refine wx9 ?_
       repeat (go_big_quiet_step (first | exact rfl))
       refine wpQuiet_nil ?_
       intro w7 hw7
       have B7:Hid (Below W1.heap.size W1 w7):=aG BB.out (aM hw7) lz9
       have R7:Hid (RR W1.heap.size w7 (.slice qo O.length co) O):=RO.out.kept (aM hw7)
       have e1:=(B7.out.cell (p:=⟨g2,o2,none⟩) YB.out.2.2).trans YB.out.1
       have e2:=(B7.out.cell (p:=⟨g2,o2+1,none⟩) YB.out.2.2).trans YB.out.2.1
       have hz7:=B7.out.size
       clear hw7 ca1 cb1
       go_wp2_with (at_builtin;refine wpList_append_own_at _ rfl _ _ 22 rfl W1.heap.size 53 t0 (.agg #[.int .i64 0,.int .i64 0]) 2 16 aY ti hz0 hz1 hz2 rfl (by decide) (.slice qo O.length co) O.length (aL O) rfl (aAB R7.out (.cells #[.int .i64 lb,.int .i64 rb] 53)) ⟨w7.heap.size,0,none⟩ 1 1 [.int .i64 lb,.int .i64 rb] rfl rfl (jA _ _ _ _) (by simp [Value.oneCell']) (by unfold maxLen;omega) (by omega) (by simp;omega) ?_;intro v' w6 hown' hgrow _ hblk;obtain⟨g6,cap6,rfl⟩:=aO hown' (aBK _);have A6:Hid (RR W1.heap.size w6 (.slice (some ⟨g6,0,none⟩) (O.length+1) cap6) (O++[(lb,rb)])):=nM hown';have B6:Hid (Below W1.heap.size W1 w6):=bZ (B7.out.alloc B7.out.size _) (aAB R7.out _) hgrow;clear hown' hgrow hblk)
       go_roundw
       case rel=>exact⟨B',_,T1'.out,A6.out,I2.out,B6.out⟩
       case measure=>simp only [nQ];omega
     ·have I2:Hid (MI A B (A.drop (j+1)) ((lb,rb) :: B') (O++[(la,ra)])):=I.out.left (fun y hy=>by
       rcases u0.1 hy with rfl | hy
       ·simp only;omega
       ·have:=(aAT.1 I.out.b.rise).1 y hy;simp only at this ⊢;omega)
      have dq:decide (lb<la)=false:=r9 hq
      go_wp2
      refine wx9 ?_
      repeat (go_big_quiet_step (first | exact rfl))
      refine wpQuiet_nil ?_
      intro w7 hw7
      have B7:Hid (Below W1.heap.size W1 w7):=aG BB.out (aM hw7) lz9
      have R7:Hid (RR W1.heap.size w7 (.slice qo O.length co) O):=RO.out.kept (aM hw7)
      have e1:=(B7.out.cell (p:=⟨ga,oa+j*2,none⟩) XA.out.2.2).trans XA.out.1
      have e2:=(B7.out.cell (p:=⟨ga,oa+j*2+1,none⟩) XA.out.2.2).trans XA.out.2.1
      have hz7:=B7.out.size
      clear hw7 ca1 cb1
      go_wp2_with (at_builtin;refine wpList_append_own_at _ rfl _ _ 22 rfl W1.heap.size 53 t0 (.agg #[.int .i64 0,.int .i64 0]) 2 16 aY ti hz0 hz1 hz2 rfl (by decide) (.slice qo O.length co) O.length (aL O) rfl (aAB R7.out (.cells #[.int .i64 la,.int .i64 ra] 53)) ⟨w7.heap.size,0,none⟩ 1 1 [.int .i64 la,.int .i64 ra] rfl rfl (jA _ _ _ _) (by simp [Value.oneCell']) (by unfold maxLen;omega) (by omega) (by simp;omega) ?_;intro v' w6 hown' hgrow _ hblk;obtain⟨g6,cap6,rfl⟩:=aO hown' (aBK _);have A6:Hid (RR W1.heap.size w6 (.slice (some ⟨g6,0,none⟩) (O.length+1) cap6) (O++[(la,ra)])):=nM hown';have B6:Hid (Below W1.heap.size W1 w6):=bZ (B7.out.alloc B7.out.size _) (aAB R7.out _) hgrow;clear hown' hgrow hblk)
      go_roundw
      case rel=>exact⟨j+1,(lb,rb) :: B',_,by omega,by go_num,RB.out,A6.out,I2.out,B6.out⟩
      case measure=>simp [intOf];omega
  ·have i1:¬ (j:Int)<(A.length:Int):=by omega
   have D0:Hid (A.drop j=[]):=aA (List.drop_of_length_le (by omega))
   have I2:Hid (MI A B [] B' O):=aA (by rw [<- D0.out];exact I.out)
   obtain⟨q2,cap2,e5,-,-,-⟩:=RB.out.slice
   subst e5
   obtain⟨qo,co,e3⟩:=RO.out.shape
   subst e3
   have F:=FIN.out O B' I2.out
   have FF:Hid _:=F
   have hlen:=F.2.2.2
   rw [o5] at hlen
   have hbs:=BB.out.size
   clear F
   cases q2 with
   | none=>
    have e0:Value.slice none B'.length cap2=.slice none 0 0/\B'=[]:=by
     rcases RB.out with⟨p,cap',e,e2,e3⟩ | ⟨g',off',cap',e,_⟩
     ·subst e2
      cases e
      have:=e3 rfl
      subst this
      exact⟨rfl,rfl⟩
     ·cases e
    obtain⟨e1,e2⟩:=e0
    subst e2
    cases e1
    go_wp2_with (at_builtin;refine wpList_append_own_none rfl _ _ 22 rfl W1.heap.size 53 t0 2 aY ti (.slice qo O.length co) O.length (aL O) rfl RO.out rfl ?_)
    go_ret
    refine⟨_,O++[],rfl,?_,FF.out.1,FF.out.2.1,FF.out.2.2.1,FF.out.2.2.2,aG BW.out BB.out lz9⟩
    rw [t9]
    exact RO.out.mono BW.out.size
   | some ad=>
    have NW:Hid (∀ j u,(aL B')[j]?=some u->wr.cell? (ad.add j)=some u):=(RB.out.kept BB.out).news
    go_wp2_with (at_builtin;refine wpList_append_own_at _ rfl _ _ 22 rfl W1.heap.size 53 t0 (.agg #[.int .i64 0,.int .i64 0]) 2 16 aY ti hz0 hz1 hz2 rfl (by decide) (.slice qo O.length co) O.length (aL O) rfl RO.out ad B'.length cap2 (aL B') rfl (cI B') NW.out (fY B') (by unfold maxLen;omega) (by omega) hbs ?_;intro v' w6 hown' hgrow _ hblk;have A6:Hid (RR W1.heap.size w6 v' (O++B')):=mC hown';have B6:Hid (Below W1.heap.size W1 w6):=bZ BB.out RO.out hgrow;clear hown' hgrow hblk)
    go_ret
    exact⟨_,O++B',rfl,A6.out.mono BW.out.size,FF.out.1,FF.out.2.1,FF.out.2.2.1,FF.out.2.2.2,aG BW.out B6.out lz9⟩
theorem aK4(n:Nat):∀ (w:World) (v:Value) (L:List (Int×Int)),L.length<=n->n+1<=8796093022208->ArgR w v L->Fit L->Calls Tryz.prog 81 #[v] w (qK w L):=by
 induction n with
 | zero=>exact fun w v L hn _ h hF=>lV h hF (by omega)
 | succ n ih=>
  intro w v L hn hl h hF
  by_cases h1:L.length<=1
  ·exact lV h hF h1
  ·exact tT (fun w v L' hL' h' hF'=>ih w v L' (by omega) (by omega) h' hF') h hF (by omega) (by omega)
end
section
attribute [local go_sem] aU
theorem kC{base:Nat}{w:World}{v:Value}{A B:List (Int×Int)}(e:A=B)(h:RR base w v A):RR base w v B:=e ▸ h
theorem jI{w:World}{v:Value}{L:List (Int×Int)}(h:ArgR w v L)(hF:Fit L)(hl:L.length+1<=8796093022208) :
  Calls Tryz.prog 58 #[v] w (qW w (In L) L.length):=by
 obtain⟨t0,ti,hz0,hz1,hz2⟩:=aR cL
 have H:Hid (ArgR w v L/\Fit L):=⟨h,hF⟩
 clear h hF
 go_enter Tryz.func58,Tryz.ntmps58
 go_wp2_with (go_at_call 81;refine(aK4 L.length w v L lz9 hl H.out.1 H.out.2).mono ?_;rintro e w5 ⟨v5,S,rfl,h1,h2,h3,h4,h5,h6⟩;obtain⟨qs,cs,rfl⟩:=h1.shape;have X5:Hid (RR w.heap.size w5 (.slice qs S.length cs) S/\Srt S/\Fit S/\(∀ c,In S c↔In L c)/\S.length<=L.length/\Below w.heap.size w w5):=⟨h1,h2,h3,h4,h5,h6⟩;clear h1 h2 h3 h4 h5 h6)
 rename World=>W1
 have hsl:=X5.out.2.2.2.2.1
 have HC:Hid (∀ (i:Nat) (r:Int×Int),S[i]?=some r->∃ g off,qs=some ⟨g,off,none⟩/\g<W1.heap.size/\W1.cell? ⟨g,off+2*i,none⟩=some (.int .i64 r.1)/\W1.cell? ⟨g,off+2*i+1,none⟩=some (.int .i64 r.2)):=by
  obtain⟨q',cap',e,-,-,hc⟩:=X5.out.1.arg.slice
  cases e
  exact hc
 have SP:Hid (∀ k,k<=S.length->Cls ((S.take k).foldl bM [])/\Fit ((S.take k).foldl bM [])/\((S.take k).foldl bM []).length<=k/\∀ c,In ((S.take k).foldl bM []) c↔In (S.take k) c):=fun k hk=>by
  have:=kI X5.out.2.1.rise X5.out.2.2.1 k hk
  exact⟨this.1,this.2.1,this.2.2.1,this.2.2.2.1⟩
 go_loopw [3,5] (fun ov i wr=>∃ k:Nat,k<=S.length/\i=.int .i64 k/\RR W1.heap.size wr ov ((S.take k).foldl bM [])/\Below W1.heap.size W1 wr) (fun _ i _=>S.length-(intOf i).toNat)
 case atStart=>exact⟨0,o9 _,rfl,RR.nil _ _,Below.refl _ _⟩
 case round=>
  obtain⟨k,hk,rfl,hrr,hb⟩:=hrel
  have RC:Hid (RR W1.heap.size wr u3 ((S.take k).foldl bM [])):=hrr
  have BB:Hid (Below W1.heap.size W1 wr):=hb
  have hbs:=hb.size
  clear hb hrr
  by_cases hlt:k<S.length
  ·obtain⟨r,hr⟩:∃ r,S[k]?=some r:=⟨_,g9 hlt⟩
   obtain⟨g,off,rfl,hg,x1,x2⟩:=HC.out k _ hr
   rw [aBB] at x1 x2
   have NX:Hid ((S.take (k+1)).foldl bM []=bM ((S.take k).foldl bM []) r):=aA (by
    obtain⟨h1,h2⟩:=m8.1 hr
    rw [dK _ _ h1,List.foldl_append,h2];rfl)
   have hne:¬ r.2<r.1:=by have:=X5.out.2.1.some r (n8 hr);omega
   have hfr:=X5.out.2.2.1 r (n8 hr)
   have SPk:=SP.out k hk
   have FC:Hid (Fit ((S.take k).foldl bM [])):=SPk.2.1
   have hcl:=SPk.2.2.1
   obtain⟨lo,hi⟩:=r
   dsimp only at x1 x2 hne hfr
   have XS:Hid (W1.cell? ⟨g,off+k*2,none⟩=some (.int .i64 lo)/\W1.cell? ⟨g,off+k*2+1,none⟩=some (.int .i64 hi)/\g<W1.heap.size):=⟨x1,x2,hg⟩
   have cs1:=(BB.out.cell (p:=⟨g,off+k*2,none⟩) hg).trans x1
   have sg:g<wr.heap.size:=o8 hg hbs
   have i0:(0:Int)<=(k:Int):=by omega
   have i1:(k:Int)<(S.length:Int):=by omega
   clear x1 x2 hr SPk hg
   generalize (S.take k).foldl bM []=C at *
   rcases fV C with e | ⟨D,x,e⟩
   ·subst e
    obtain⟨qo,co,e3⟩:=RC.out.shape
    subst e3
    have LD:Hid ((0:Nat)=0):=rfl
    have NX2:Hid ((S.take (k+1)).foldl bM []=[(lo,hi)]):=aA (by rw [NX.out,jW hne])
    simp only [List.length_nil] at RC ⊢
    have wn:IntKind.wrap .i64 ((0:Int)-1)=-1:=by decide
    have d0:decide ((0:Int)<=-1)=false:=by decide
    ··
      go_wp2
      refine wx9 ?_
      repeat (go_big_quiet_step (first | exact rfl))
      refine wpQuiet_nil ?_
      intro w7 hw7
      have B7:Hid (Below W1.heap.size W1 w7):=aG BB.out (aM hw7) lz9
      have e1:=(B7.out.cell (p:=⟨g,off+k*2,none⟩) XS.out.2.2).trans XS.out.1
      have e2:=(B7.out.cell (p:=⟨g,off+k*2+1,none⟩) XS.out.2.2).trans XS.out.2.1
      have hz7:=B7.out.size
      have R7:Hid (RR W1.heap.size w7 (.slice qo 0 co) []):=RC.out.kept (aM hw7)
      clear hw7 cs1
      go_wp2_with (at_builtin;refine wpList_append_own_at _ rfl _ _ 22 rfl W1.heap.size 53 t0 (.agg #[.int .i64 0,.int .i64 0]) 2 16 aY ti hz0 hz1 hz2 rfl (by decide) (.slice qo 0 co) 0 (aL []) rfl (aAB R7.out (.cells #[.int .i64 lo,.int .i64 hi] 53)) ⟨w7.heap.size,0,none⟩ 1 1 [.int .i64 lo,.int .i64 hi] rfl rfl (jA _ _ _ _) (by simp [Value.oneCell']) (by unfold maxLen;omega) (by omega) (by simp;omega) ?_;intro v' w6 hown' hgrow _ hblk;obtain⟨g6,cap6,rfl⟩:=aO hown' (aBK _);have A6:Hid (RR W1.heap.size w6 (.slice (some ⟨g6,0,none⟩) (0+1) cap6) ([(lo,hi)])):=mC (F:=[]) (L:=[(lo,hi)]) hown';have B6:Hid (Below W1.heap.size W1 w6):=bZ (B7.out.alloc hz7 _) (aAB R7.out _) hgrow;clear hown' hgrow hblk)
      go_roundw
      case rel=>exact⟨k+1,by omega,by go_num,kC NX2.out.symm A6.out,B6.out⟩
      case measure=>simp [intOf];omega
   ·subst e
    have fx:=FC.out x (by simp)
    obtain⟨nd,hnd⟩:∃ nd,D.length=nd:=⟨_,rfl⟩
    have LD:Hid (D.length=nd):=hnd
    have OW0:Hid (wr.ownsRow W1.heap.size 53 2 u3 (nd+1) (aL (D++[x]))):=aA (by have:=RC.out;unfold RR at this;rwa [o5,aBP,hnd] at this)
    obtain⟨go,co,e3⟩:=aO OW0.out (by omega)
    subst e3
    have OW:Hid (wr.ownsRow W1.heap.size 53 2 (.slice (some ⟨go,0,none⟩) (nd+1) co) (nd+1) (aL (D++[x]))):=OW0.out
    have hgo:go<wr.heap.size:=(aF OW.out rfl).2.1
    have hgb:W1.heap.size<=go:=(aF OW.out rfl).1
    have hcell:=(nR OW.out hnd).2
    rw [o5,aBP,hnd] at hcl
    clear RC OW0 hnd
    obtain⟨y,hy⟩:∃ y,x.2=y:=⟨_,rfl⟩
    rw [hy] at hcell fx
    have HY:Hid (x.2=y):=hy
    clear hy
    have wn:IntKind.wrap .i64 ((nd:Int)+1-1)=(nd:Int):=by rw [IntKind.wrap_i64];omega
    have j0:(0:Int)<=(nd:Int):=by omega
    have j1:(nd:Int)<(nd:Int)+1:=by omega
    have d0:decide ((0:Int)<=(nd:Int))=true:=aAM j0
    by_cases hf:y+1<lo
    ·have d1:decide (lo<=y)=false:=r9 (by omega)
     have wl:IntKind.wrap .i64 (lo-1)=lo-1:=by rw [IntKind.wrap_i64];omega
     have d2:(lo-1==y)=false:=beq_false_of_ne (by omega)
     have NX2:Hid ((S.take (k+1)).foldl bM []=D++[x]++[(lo,hi)]):=aA (by rw [NX.out,jY hne (by rw [HY.out];exact hf)])
     ·
      go_wp2
      refine wx9 ?_
      repeat (go_big_quiet_step (first | exact rfl))
      refine wpQuiet_nil ?_
      intro w7 hw7
      have B7:Hid (Below W1.heap.size W1 w7):=aG BB.out (aM hw7) lz9
      have e1:=(B7.out.cell (p:=⟨g,off+k*2,none⟩) XS.out.2.2).trans XS.out.1
      have e2:=(B7.out.cell (p:=⟨g,off+k*2+1,none⟩) XS.out.2.2).trans XS.out.2.1
      have hz7:=B7.out.size
      have R7:Hid (w7.ownsRow W1.heap.size 53 2 (.slice (some ⟨go,0,none⟩) (nd+1) co) (nd+1) (aL (D++[x]))):=aH (S:=fun _=>False) OW.out (Fr.of_below (aM hw7)) (fun _ _ q=>q)
      clear hw7 cs1 hcell
      go_wp2_with (at_builtin;refine wpList_append_own_at _ rfl _ _ 22 rfl W1.heap.size 53 t0 (.agg #[.int .i64 0,.int .i64 0]) 2 16 aY ti hz0 hz1 hz2 rfl (by decide) (.slice (some ⟨go,0,none⟩) (nd+1) co) (nd+1) (aL (D++[x])) rfl (aAB R7.out (.cells #[.int .i64 lo,.int .i64 hi] 53)) ⟨w7.heap.size,0,none⟩ 1 1 [.int .i64 lo,.int .i64 hi] rfl rfl (jA _ _ _ _) (by simp [Value.oneCell']) (by unfold maxLen;omega) (by omega) (by simp;omega) ?_;intro v' w6 hown' hgrow _ hblk;obtain⟨g6,cap6,rfl⟩:=aO hown' (aBK _);have A6:Hid (RR W1.heap.size w6 (.slice (some ⟨g6,0,none⟩) ((nd+1)+1) cap6) (D++[x]++[(lo,hi)])):=mC (F:=(D++[x])) (L:=[(lo,hi)]) hown';have B6:Hid (Below W1.heap.size W1 w6):=bZ (B7.out.alloc hz7 _) (aAB R7.out _) hgrow;clear hown' hgrow hblk)
      go_roundw
      case rel=>exact⟨k+1,by omega,by go_num,kC NX2.out.symm A6.out,B6.out⟩
      case measure=>simp [intOf];omega
    ·obtain⟨M,hM⟩:∃ M,max x.2 hi=M:=⟨_,rfl⟩
     have HM:Hid (max x.2 hi=M):=hM
     have hmx:∀ t ty w,(Builtin.max_ t ty #[.int .i64 y,.int .i64 hi]).run Tryz.prog w=.ok (.int .i64 M) w:=fun t ty w=>by rw [mL,<- HY.out,HM.out]
     have NR:Hid (¬ hi<lo->bM (D++[x]) (lo,hi)=D++[(x.1,max x.2 hi)]):=fun q=>iI q (by rw [HY.out];exact hf)
     clear hM
     by_cases hq:lo<=y
     ·have d1:decide (lo<=y)=true:=aAM hq
      have d2:True:=trivial
      go_wp2
      refine wx9 ?_
      repeat (go_big_quiet_step (first | exact rfl))
      refine wpQuiet_nil ?_
      intro w7 hw7
      have B7:Hid (Below W1.heap.size W1 w7):=aG BB.out (aM hw7) lz9
      have e1:=(B7.out.cell (p:=⟨g,off+k*2,none⟩) XS.out.2.2).trans XS.out.1
      have e2:=(B7.out.cell (p:=⟨g,off+k*2+1,none⟩) XS.out.2.2).trans XS.out.2.1
      have hz7:=B7.out.size
      have O7:Hid (w7.drew.ownsRow W1.heap.size 53 2 (.slice (some ⟨go,0,none⟩) (nd+1) co) (nd+1) (aL (D++[x]))):=(aH (S:=fun _=>False) OW.out (Fr.of_below (aM hw7)) (fun _ _ q=>q)).drew
      have c7:=((aM hw7).cell (p:=⟨go,nd*2+1,none⟩) hgo).trans hcell
      have f7:w7.frozen? ⟨go,nd*2+1,none⟩=false:=O7.out.frozenAt (nd*2+1)
      clear hw7 hcell d1 d2
      go_wp2
      go_region_with fail
      all_goals (
       go_wp2
       go_roundw
       case rel=>exact⟨k+1,by omega,by go_num,kC (NX.out.trans (NR.out hne)).symm (by rw [HM.out];exact aL9 (lZ O7.out LD.out M) (by have:=LD.out;simp;omega)),B7.out.drew.setCell (p:=⟨go,nd*2+1,none⟩) hgb _⟩
       case measure=>simp [intOf];omega)
     ·have d1:decide (lo<=y)=false:=r9 hq
      have wl:IntKind.wrap .i64 (lo-1)=lo-1:=by rw [IntKind.wrap_i64];omega
      have d2:(lo-1==y)=true:=by rw [beq_iff_eq];omega
      go_wp2
      refine wx9 ?_
      repeat (go_big_quiet_step (first | exact rfl))
      refine wpQuiet_nil ?_
      intro w7 hw7
      have B7:Hid (Below W1.heap.size W1 w7):=aG BB.out (aM hw7) lz9
      have e1:=(B7.out.cell (p:=⟨g,off+k*2,none⟩) XS.out.2.2).trans XS.out.1
      have e2:=(B7.out.cell (p:=⟨g,off+k*2+1,none⟩) XS.out.2.2).trans XS.out.2.1
      have hz7:=B7.out.size
      have O7:Hid (w7.drew.ownsRow W1.heap.size 53 2 (.slice (some ⟨go,0,none⟩) (nd+1) co) (nd+1) (aL (D++[x]))):=(aH (S:=fun _=>False) OW.out (Fr.of_below (aM hw7)) (fun _ _ q=>q)).drew
      have c7:=((aM hw7).cell (p:=⟨go,nd*2+1,none⟩) hgo).trans hcell
      have f7:w7.frozen? ⟨go,nd*2+1,none⟩=false:=O7.out.frozenAt (nd*2+1)
      clear hw7 hcell d1 d2
      go_wp2
      go_region_with fail
      all_goals (
       go_wp2
       go_roundw
       case rel=>exact⟨k+1,by omega,by go_num,kC (NX.out.trans (NR.out hne)).symm (by rw [HM.out];exact aL9 (lZ O7.out LD.out M) (by have:=LD.out;simp;omega)),B7.out.drew.setCell (p:=⟨go,nd*2+1,none⟩) hgb _⟩
       case measure=>simp [intOf];omega)
  ·have i1:¬ (k:Int)<(S.length:Int):=by omega
   have E:Hid (S.take k=S):=aA (o4 (by omega))
   have SPn:=SP.out k hk
   rw [E.out] at RC SPn
   have SS:Hid _:=SPn
   have hcl:=SPn.2.2.1
   clear SPn
   go_wp2
   go_ret
   exact⟨_,_,rfl,RC.out.mono X5.out.2.2.2.2.2.size,⟨SS.out.1,SS.out.2.1,fun c=>(SS.out.2.2.2 c).trans (X5.out.2.2.2.1 c)⟩,by omega,aG X5.out.2.2.2.2.2 BB.out lz9⟩
end
section
attribute [local go_sem] aU
theorem tL{w:World}{va vb:Value}{A B:List (Int×Int)}(ha:ArgR w va A)(hb:ArgR w vb B) :
  Calls Tryz.prog 31 #[va,vb] w fun e w'=>e=.returned (.bool (decide (A=B)))/\Below w.heap.size w w':=by
 obtain⟨q1,cap1,rfl,hl1,-,hc1⟩:=ha.slice
 obtain⟨q2,cap2,rfl,hl2,-,hc2⟩:=hb.slice
 have HC1:Hid (∀ (i:Nat) (r:Int×Int),A[i]?=some r->∃ g off,q1=some ⟨g,off,none⟩/\g<w.heap.size/\w.cell? ⟨g,off+2*i,none⟩=some (.int .i64 r.1)/\w.cell? ⟨g,off+2*i+1,none⟩=some (.int .i64 r.2)):=hc1
 have HC2:Hid (∀ (i:Nat) (r:Int×Int),B[i]?=some r->∃ g off,q2=some ⟨g,off,none⟩/\g<w.heap.size/\w.cell? ⟨g,off+2*i,none⟩=some (.int .i64 r.1)/\w.cell? ⟨g,off+2*i+1,none⟩=some (.int .i64 r.2)):=hc2
 clear hc1 hc2 ha hb
 unfold maxLen at hl1 hl2
 by_cases hne:A.length=B.length
 ·have HNE:Hid (A.length=B.length):=hne
  rw [<- hne]
  have b1:(((A.length:Nat):Int) != ((A.length:Nat):Int))=false:=by simp
  clear hne hl2
  go_enter Tryz.func31,Tryz.ntmps31
  go_wp2
  go_loopw [5] (fun i wr=>∃ k:Nat,k<=A.length/\i=.int .i64 k/\A.take k=B.take k/\Below w.heap.size w wr) (fun i _=>A.length-(intOf i).toNat)
  case atStart=>exact⟨0,o9 _,rfl,by simp,Below.refl _ _⟩
  case round=>
   obtain⟨k,hk,rfl,ht,hbl⟩:=hrel
   have HT:Hid (A.take k=B.take k):=ht
   have BW:Hid (Below w.heap.size w wr):=hbl
   clear ht hbl
   by_cases hlt:k<A.length
   ·obtain⟨a,ea⟩:∃ r,A[k]?=some r:=⟨_,g9 hlt⟩
    obtain⟨b,eb⟩:∃ r,B[k]?=some r:=⟨_,g9 (by have:=HNE.out;omega)⟩
    obtain⟨g1,o1,rfl,hg1,x1,x2⟩:=HC1.out k _ ea
    obtain⟨g2,o2,rfl,hg2,y1,y2⟩:=HC2.out k _ eb
    have d1:=(BW.out.cell (p:=⟨g1,o1+2*k,none⟩) hg1).trans x1
    have d2:=(BW.out.cell (p:=⟨g1,o1+2*k+1,none⟩) hg1).trans x2
    have d3:=(BW.out.cell (p:=⟨g2,o2+2*k,none⟩) hg2).trans y1
    have d4:=(BW.out.cell (p:=⟨g2,o2+2*k+1,none⟩) hg2).trans y2
    rw [aBB] at d1 d2 d3 d4
    have s1:g1<wr.heap.size:=o8 hg1 BW.out.size
    have s2:g2<wr.heap.size:=o8 hg2 BW.out.size
    have NX:Hid (A.take (k+1)=B.take (k+1)↔a=b):=lT ea eb HT.out
    have NE:Hid (a≠b->¬ A=B):=fun q e=>by subst e;rw [ea] at eb;exact q (aAE eb)
    have i0:(0:Int)<=(k:Int):=by omega
    have i1:(k:Int)<(A.length:Int):=by omega
    obtain⟨a1,a2⟩:=a
    obtain⟨b1',b2⟩:=b
    dsimp only at d1 d2 d3 d4
    clear x1 x2 y1 y2 ea eb
    by_cases e1:a1=b1'
    ·by_cases e2:a2=b2
     ·subst e1 e2
      have f1:(a1==a1)=true:=by simp
      have f2:(a2==a2)=true:=by simp
      have NX2:Hid (A.take (k+1)=B.take (k+1)):=NX.out.2 rfl
      clear NX NE
      go_wp2
      refine wx9 ?_
      repeat (go_big_quiet_step (first | exact rfl))
      refine wpQuiet_nil ?_
      intro w7 hw7
      have B7:Hid (Below wr.heap.size wr w7):=aM hw7
      clear hw7
      go_wp2
      go_roundw
      case rel=>exact⟨k+1,by omega,by go_num,NX2.out,aG BW.out B7.out lz9⟩
      case measure=>simp [intOf];omega
     ·subst e1
      have f1:(a1==a1)=true:=by simp
      have f2:(a2==b2)=false:=by simp [e2]
      have N2:Hid (decide (A=B)=false):=r9 (NE.out (fun q=>e2 (Prod.mk.inj q).2))
      clear NX NE
      go_wp2
      refine wx9 ?_
      repeat (go_big_quiet_step (first | exact rfl))
      refine wpQuiet_nil ?_
      intro w7 hw7
      have B7:Hid (Below wr.heap.size wr w7):=aM hw7
      clear hw7
      go_wp2
      go_ret
      exact⟨by rw [N2.out];rfl,aG BW.out B7.out lz9⟩
    ·have f1:(a1==b1')=false:=by simp [e1]
     have N2:Hid (decide (A=B)=false):=r9 (NE.out (fun q=>e1 (Prod.mk.inj q).1))
     clear NX NE
     go_wp2
     refine wx9 ?_
     repeat (go_big_quiet_step (first | exact rfl))
     refine wpQuiet_nil ?_
     intro w7 hw7
     have B7:Hid (Below wr.heap.size wr w7):=aM hw7
     clear hw7
     go_wp2
     go_ret
     exact⟨by rw [N2.out];rfl,aG BW.out B7.out lz9⟩
   ·have i1:¬ (k:Int)<(A.length:Int):=by omega
    have EE:Hid (decide (A=B)=true):=aAM (by
     have e:=HT.out
     rw [o4 (by omega),o4 (by have:=HNE.out;omega)] at e
     exact e)
    go_wp2
    go_ret
    exact⟨by rw [EE.out];rfl,BW.out⟩
 ·have EE:Hid (decide (A=B)=false):=r9 (fun e=>hne (by rw [e]))
  have b1:(((A.length:Nat):Int) != ((B.length:Nat):Int))=true:=by simp;omega
  go_enter Tryz.func31,Tryz.ntmps31
  go_wp2
  go_ret
  exact⟨by rw [EE.out];rfl,Below.refl _ _⟩
end
section
attribute [local go_sem] aU
def eE(A B:List (Int×Int)):List (Int×Int):=A.flatMap fun a=>B.map (eC a)
theorem xO{A B:List (Int×Int)}{i:Nat}{a:Int×Int}(h:A[i]?=some a):eE (A.take (i+1)) B=eE (A.take i) B++B.map (eC a):=by
 obtain⟨hk,rfl⟩:=m8.1 h
 rw [dK A i hk]
 unfold eE
 rw [aBM]
 simp only [aAN,List.flatMap_nil,t9]
theorem aP1{B:List (Int×Int)}{j:Nat}{b a:Int×Int}(h:B[j]?=some b):(B.take (j+1)).map (eC a)=(B.take j).map (eC a)++[eC a b]:=by
 obtain⟨hk,rfl⟩:=m8.1 h
 rw [dK B j hk,aAK]
 rfl
theorem aQ6(A B:List (Int×Int))(c:Int):In (eE A B) c↔In A c/\In B c:=by
 unfold eE In eC
 constructor
 ·rintro ⟨r,hr,h1,h2⟩
  obtain⟨a,ha,hr⟩:=aBJ.1 hr
  obtain⟨b,hb,rfl⟩:=s4.1 hr
  simp only at h1 h2
  exact⟨⟨a,ha,by omega,by omega⟩,b,hb,by omega,by omega⟩
 ·rintro ⟨⟨a,ha,h1,h2⟩,b,hb,h3,h4⟩
  exact⟨_,aBJ.2 ⟨a,ha,s4.2 ⟨b,hb,rfl⟩⟩,by simp only;omega,by simp only;omega⟩
theorem aF7{A B:List (Int×Int)}(fa:Fit A)(fb:Fit B):Fit (eE A B):=fun r hr=>by
 obtain⟨a,ha,hr⟩:=aBJ.1 hr
 obtain⟨b,hb,rfl⟩:=s4.1 hr
 have h1:=fa a ha
 have h2:=fb b hb
 simp only [eC]
 omega
theorem mJ(A B:List (Int×Int)):(eE A B).length=A.length*B.length:=by
 induction A with
 | nil=>simp [eE]
 | cons a A ih=>simp only [eE,aAN,o5,aAC,o7,Nat.succ_mul] at *;omega
theorem xC{w:World}{va vb:Value}{A0 B0:List (Int×Int)}(ha:ArgR w va A0)(hb:ArgR w vb B0)(fa:Fit A0)(fb:Fit B0)(hl1:A0.length+1<=8796093022208)(hl2:B0.length+1<=8796093022208)(hl:A0.length*B0.length+1<=8796093022208) :
  Calls Tryz.prog 59 #[va,vb] w (qW w (fun c=>In A0 c/\In B0 c) (A0.length*B0.length)):=by
 obtain⟨t0,ti,hz0,hz1,hz2⟩:=aR cL
 have H:Hid ((ArgR w va A0/\Fit A0)/\ArgR w vb B0/\Fit B0):=⟨⟨ha,fa⟩,hb,fb⟩
 clear ha hb fa fb
 go_enter Tryz.func59,Tryz.ntmps59
 go_upto_region 5 with first
  |(go_at_call 58;have hx:=X5.out;clear hx;have hih:=jI (H.out.2.1.kept X5.out.2.2.2) H.out.2.2 hl2;(with_reducible refine hih.mono ?_);clear hih;rintro e w6 ⟨v6,B,rfl,h1,h2,h3,h4⟩;obtain⟨qb,cb,rfl⟩:=h1.shape;have X6:Hid (RR w5.heap.size w6 (.slice qb B.length cb) B/\IsC B (In B0)/\B.length<=B0.length/\Below w5.heap.size w5 w6):=⟨h1,h2,h3,h4⟩;clear h1 h2 h3 h4)
  |(go_at_call 58;have hih:=jI H.out.1.1 H.out.1.2 hl1;(with_reducible refine hih.mono ?_);clear hih;rintro e w5 ⟨v5,A,rfl,h1,h2,h3,h4⟩;obtain⟨qa,ca,rfl⟩:=h1.shape;have X5:Hid (RR w.heap.size w5 (.slice qa A.length ca) A/\IsC A (In A0)/\A.length<=A0.length/\Below w.heap.size w w5):=⟨h1,h2,h3,h4⟩;clear h1 h2 h3 h4)
 rename World=>W1
 have hla:=X5.out.2.2.1
 have hlb:=X6.out.2.2.1
 have HA:Hid (∀ (i:Nat) (r:Int×Int),A[i]?=some r->∃ g off,qa=some ⟨g,off,none⟩/\g<W1.heap.size/\W1.cell? ⟨g,off+2*i,none⟩=some (.int .i64 r.1)/\W1.cell? ⟨g,off+2*i+1,none⟩=some (.int .i64 r.2)):=by
  obtain⟨q',cap',e,-,-,hc⟩:=(X5.out.1.kept X6.out.2.2.2).arg.slice
  cases e
  exact hc
 have HB:Hid (∀ (i:Nat) (r:Int×Int),B[i]?=some r->∃ g off,qb=some ⟨g,off,none⟩/\g<W1.heap.size/\W1.cell? ⟨g,off+2*i,none⟩=some (.int .i64 r.1)/\W1.cell? ⟨g,off+2*i+1,none⟩=some (.int .i64 r.2)):=by
  obtain⟨q',cap',e,-,-,hc⟩:=X6.out.1.arg.slice
  cases e
  exact hc
 have LP:Hid (∀ i,(eE (A.take i) B).length+B.length*(A.length-i)<=A0.length*B0.length\/A.length<i):=fun i=>by
  rcases Nat.lt_or_ge A.length i with h | h
  ·exact .inr h
  ·left
   rw [mJ,aAG,Nat.min_eq_left h,aBB B.length,<- Nat.add_mul,Nat.add_sub_cancel' h]
   exact Nat.mul_le_mul hla hlb
 have BW:Hid (Below w.heap.size w W1):=aG X5.out.2.2.2 X6.out.2.2.2 lz9
 go_loopw [7,8] (fun ov i wr=>∃ k:Nat,k<=A.length/\i=.int .i64 k/\RR W1.heap.size wr ov (eE (A.take k) B)/\Below W1.heap.size W1 wr) (fun _ i _=>A.length-(intOf i).toNat)
 case atStart=>exact⟨0,o9 _,rfl,RR.nil _ _,Below.refl _ _⟩
 case round=>
  obtain⟨k,hk,rfl,hrr,hb⟩:=hrel
  have RO:Hid (RR W1.heap.size wr u7 (eE (A.take k) B)):=hrr
  have BB:Hid (Below W1.heap.size W1 wr):=hb
  clear hrr hb
  by_cases hlt:k<A.length
  ·obtain⟨a,ea⟩:∃ r,A[k]?=some r:=⟨_,g9 hlt⟩
   obtain⟨ga,oa,rfl,hga,xa1,xa2⟩:=HA.out k _ ea
   have PN:Hid (eE (A.take (k+1)) B=eE (A.take k) B++B.map (eC a)):=xO ea
   rw [aBB] at xa1 xa2
   have XA:Hid (W1.cell? ⟨ga,oa+k*2,none⟩=some (.int .i64 a.1)/\W1.cell? ⟨ga,oa+k*2+1,none⟩=some (.int .i64 a.2)/\ga<W1.heap.size):=⟨xa1,xa2,hga⟩
   have LK:Hid ((eE (A.take k) B).length+B.length+1<=8796093022208):=aA (by
    rcases LP.out (k+1) with h | h
    ·have:=PN.out;rw [this,o5,aAC] at h;omega
    ·omega)
   have i0:(0:Int)<=(k:Int):=by omega
   have i1:(k:Int)<(A.length:Int):=by omega
   clear xa1 xa2 hga ea
   rename World=>W2
   generalize eE (A.take k) B=P at *
   go_wp2
   go_loopw [7,9] (fun ov i wr=>∃ j:Nat,j<=B.length/\i=.int .i64 j/\RR W1.heap.size wr ov (P++(B.take j).map (eC a))/\Below W1.heap.size W1 wr) (fun _ i _=>B.length-(intOf i).toNat)
   case atStart=>exact⟨0,o9 _,rfl,by simpa using RO.out,BB.out⟩
   case round=>
    clear RO BB
    obtain⟨j,hj,rfl,hrr,hb⟩:=hrel
    obtain⟨qo,co,e3⟩:=hrr.shape
    subst e3
    obtain⟨O,hO⟩:∃ O,P++(B.take j).map (eC a)=O:=⟨_,rfl⟩
    have EO:Hid (P++(B.take j).map (eC a)=O):=hO
    rw [hO] at hrr ⊢
    have RO:Hid (RR W1.heap.size wr (.slice qo O.length co) O):=hrr
    have BB:Hid (Below W1.heap.size W1 wr):=hb
    have hbs:=hb.size
    have hol:O.length+1<=8796093022208:=by have:=LK.out;rw [<- hO,o5,aAC,aAG];omega
    clear hrr hb hO
    by_cases hjlt:j<B.length
    ·obtain⟨b,eb⟩:∃ r,B[j]?=some r:=⟨_,g9 hjlt⟩
     obtain⟨gb,ob,rfl,hgb,xb1,xb2⟩:=HB.out j _ eb
     have MN:Hid (P++(B.take (j+1)).map (eC a)=O++[eC a b]):=aA (by rw [aP1 eb,<- r8,EO.out])
     rw [aBB] at xb1 xb2
     have c1:=(BB.out.cell (p:=⟨ga,oa+k*2,none⟩) XA.out.2.2).trans XA.out.1
     have c2:=(BB.out.cell (p:=⟨ga,oa+k*2+1,none⟩) XA.out.2.2).trans XA.out.2.1
     have c3:=(BB.out.cell (p:=⟨gb,ob+j*2,none⟩) hgb).trans xb1
     have c4:=(BB.out.cell (p:=⟨gb,ob+j*2+1,none⟩) hgb).trans xb2
     have s1:ga<wr.heap.size:=o8 XA.out.2.2 hbs
     have s2:gb<wr.heap.size:=o8 hgb hbs
     obtain⟨a1,ha1⟩:∃ x,a.1=x:=⟨_,rfl⟩
     obtain⟨a2,ha2⟩:∃ x,a.2=x:=⟨_,rfl⟩
     obtain⟨b1,hb1⟩:∃ x,b.1=x:=⟨_,rfl⟩
     obtain⟨b2,hb2⟩:∃ x,b.2=x:=⟨_,rfl⟩
     rw [ha1] at c1
     rw [ha2] at c2
     rw [hb1] at c3
     rw [hb2] at c4
     obtain⟨cr,hcr⟩:∃ cr,eC a b=cr:=⟨_,rfl⟩
     have hmx:∀ t ty w,(Builtin.max_ t ty #[.int .i64 a1,.int .i64 b1]).run Tryz.prog w=.ok (.int .i64 cr.1) w:=fun t ty w=>by rw [mL,<- hcr,<- ha1,<- hb1];rfl
     have hmn:∀ t ty w,(Builtin.min_ t ty #[.int .i64 a2,.int .i64 b2]).run Tryz.prog w=.ok (.int .i64 cr.2) w:=fun t ty w=>by rw [zM,<- hcr,<- ha2,<- hb2];rfl
     have MN2:Hid (P++(B.take (j+1)).map (eC a)=O++[(cr.1,cr.2)]):=aA (by rw [MN.out,hcr])
     have j0:(0:Int)<=(j:Int):=by omega
     have j1:(j:Int)<(B.length:Int):=by omega
     have RD:Hid (RR W1.heap.size wr.drew (.slice qo O.length co) O):=World.ownsRow.drew RO.out
     have BD:Hid (Below W1.heap.size W1 wr.drew):=BB.out.drew
     have ne1:=World.new_ne wr _ c1
     have ne3:=World.new_ne wr _ c3
     have XK:Hid (W1.cell? ⟨ga,oa+k*2,none⟩=some (.int .i64 a1)/\W1.cell? ⟨ga,oa+k*2+1,none⟩=some (.int .i64 a2)/\W1.cell? ⟨gb,ob+j*2,none⟩=some (.int .i64 b1)/\W1.cell? ⟨gb,ob+j*2+1,none⟩=some (.int .i64 b2)/\gb<W1.heap.size):=⟨by rw [<- ha1];exact XA.out.1,by rw [<- ha2];exact XA.out.2.1,by rw [<- hb1];exact xb1,by rw [<- hb2];exact xb2,hgb⟩
     clear xb1 xb2 eb hgb MN ha1 ha2 hb1 hb2 hcr
     have QC:Hid (∀ w',Below W1.heap.size W1 w'->w'.cell? ⟨ga,oa+k*2,none⟩=some (.int .i64 a1)/\w'.cell? ⟨ga,oa+k*2+1,none⟩=some (.int .i64 a2)/\w'.cell? ⟨gb,ob+j*2,none⟩=some (.int .i64 b1)/\w'.cell? ⟨gb,ob+j*2+1,none⟩=some (.int .i64 b2)):=fun w' hb=>⟨(hb.cell (p:=⟨ga,oa+k*2,none⟩) XA.out.2.2).trans XK.out.1,(hb.cell (p:=⟨ga,oa+k*2+1,none⟩) XA.out.2.2).trans XK.out.2.1,(hb.cell (p:=⟨gb,ob+j*2,none⟩) XK.out.2.2.2.2).trans XK.out.2.2.1,(hb.cell (p:=⟨gb,ob+j*2+1,none⟩) XK.out.2.2.2.2).trans XK.out.2.2.2.1⟩
     clear c1 c2 c3 c4
     go_wp2
     refine wp_region_held_drew (S:=fun w'=>Below W1.heap.size W1 w') (by kernel_rfl) BD.out (fun hHeld=>?_)
     refine wpAnyH_take (i:=0) (oi:=_) (v:=?_) rfl (by kernel_rfl) (by kernel_rfl) (by kernel_rfl) (fun _ _ _ h=>h) (Or.inl ⟨by rfl,?_⟩) (by assumption) ?_
     rotate_left
     ·intro wz hSw;obtain⟨q1,q2,q3,q4⟩:=QC.out wz hSw;clear hSw;go_simp;try with_reducible rfl
     dsimp only [Act.put,i7,g7,g8]
     simp only [f8,i8,i9]
     refine wpAnyH_take (i:=1) (oi:=_) (v:=?_) rfl (by kernel_rfl) (by kernel_rfl) (by kernel_rfl) (fun _ _ _ h=>h) (Or.inl ⟨by rfl,?_⟩) (by assumption) ?_
     rotate_left
     ·intro wz hSw;obtain⟨q1,q2,q3,q4⟩:=QC.out wz hSw;clear hSw;go_simp;try with_reducible rfl
     dsimp only [Act.put,i7,g7,g8]
     simp only [f8,i8,i9]
     refine wpAnyH_take (i:=2) (oi:=_) (v:=?_) rfl (by kernel_rfl) (by kernel_rfl) (by kernel_rfl) (fun _ _ _ h=>h) (Or.inl ⟨by rfl,?_⟩) (by assumption) ?_
     rotate_left
     ·intro wz hSw;obtain⟨q1,q2,q3,q4⟩:=QC.out wz hSw;clear hSw;go_simp;try with_reducible rfl
     dsimp only [Act.put,i7,g7,g8]
     simp only [f8,i8,i9]
     refine wpAnyH_take (i:=3) (oi:=_) (v:=?_) rfl (by kernel_rfl) (by kernel_rfl) (by kernel_rfl) (fun _ _ _ h=>h) (Or.inl ⟨by rfl,?_⟩) (by assumption) ?_
     rotate_left
     ·intro wz hSw;obtain⟨q1,q2,q3,q4⟩:=QC.out wz hSw;clear hSw;go_simp;try with_reducible rfl
     dsimp only [Act.put,i7,g7,g8]
     simp only [f8,i8,i9]
     refine wpAnyH_take (i:=4) (oi:=_) (v:=?_) rfl (by kernel_rfl) (by kernel_rfl) (by kernel_rfl) (fun _ _ _ h=>h) (Or.inl ⟨by rfl,?_⟩) (by assumption) ?_
     rotate_left
     ·intro wz hSw;obtain⟨q1,q2,q3,q4⟩:=QC.out wz hSw;clear hSw;go_simp;try with_reducible rfl
     dsimp only [Act.put,i7,g7,g8]
     simp only [f8,i8,i9]
     refine wpAnyH_take (i:=5) (oi:=_) (v:=?_) rfl (by kernel_rfl) (by kernel_rfl) (by kernel_rfl) (fun _ _ _ h=>h) (Or.inl ⟨by rfl,?_⟩) (by assumption) ?_
     rotate_left
     ·intro wz hSw;obtain⟨q1,q2,q3,q4⟩:=QC.out wz hSw;clear hSw;go_simp;try with_reducible rfl
     dsimp only [Act.put,i7,g7,g8]
     simp only [f8,i8,i9]
     refine wpAnyH_take (i:=6) (oi:=_) (v:=?_) rfl (by kernel_rfl) (by kernel_rfl) (by kernel_rfl) (fun _ _ _ h=>h) (Or.inl ⟨by rfl,?_⟩) (by assumption) ?_
     rotate_left
     ·intro wz hSw;obtain⟨q1,q2,q3,q4⟩:=QC.out wz hSw;clear hSw;go_simp;try with_reducible rfl
     dsimp only [Act.put,i7,g7,g8]
     simp only [f8,i8,i9]
     refine wpAnyH_take (i:=7) (oi:=_) (v:=?_) rfl (by kernel_rfl) (by kernel_rfl) (by kernel_rfl) (fun _ _ _ h=>h) (Or.inl ⟨by rfl,?_⟩) (by assumption) ?_
     rotate_left
     ·intro wz hSw;obtain⟨q1,q2,q3,q4⟩:=QC.out wz hSw;clear hSw;go_simp;try with_reducible rfl
     dsimp only [Act.put,i7,g7,g8]
     simp only [f8,i8,i9]
     refine wpAnyH_take (i:=8) (oi:=_) (v:=?_) rfl (by kernel_rfl) (by kernel_rfl) (by kernel_rfl) (fun _ _ _ h=>h) (Or.inl ⟨by rfl,?_⟩) (by assumption) ?_
     rotate_left
     ·intro wz hSw;obtain⟨q1,q2,q3,q4⟩:=QC.out wz hSw;clear hSw;go_simp;try with_reducible rfl
     dsimp only [Act.put,i7,g7,g8]
     simp only [f8,i8,i9]
     refine wpAnyH_take (i:=9) (oi:=_) (v:=?_) rfl (by kernel_rfl) (by kernel_rfl) (by kernel_rfl) (fun _ _ _ h=>h) (Or.inl ⟨by rfl,?_⟩) (by assumption) ?_
     rotate_left
     ·intro wz hSw;obtain⟨q1,q2,q3,q4⟩:=QC.out wz hSw;clear hSw;go_simp;try with_reducible rfl
     dsimp only [Act.put,i7,g7,g8]
     simp only [f8,i8,i9]
     refine wpAnyH_take (i:=10) (oi:=_) (v:=?_) rfl (by kernel_rfl) (by kernel_rfl) (by kernel_rfl) (fun _ _ _ h=>h) (Or.inl ⟨by rfl,?_⟩) (by assumption) ?_
     rotate_left
     ·intro wz hSw;obtain⟨q1,q2,q3,q4⟩:=QC.out wz hSw;clear hSw;go_simp;try with_reducible rfl
     dsimp only [Act.put,i7,g7,g8]
     simp only [f8,i8,i9]
     refine wpAnyH_take (i:=11) (oi:=_) (v:=?_) rfl (by kernel_rfl) (by kernel_rfl) (by kernel_rfl) (fun _ _ _ h=>h) (Or.inl ⟨by rfl,?_⟩) (by assumption) ?_
     rotate_left
     ·intro wz hSw;obtain⟨q1,q2,q3,q4⟩:=QC.out wz hSw;clear hSw;go_simp;try with_reducible rfl
     dsimp only [Act.put,i7,g7,g8]
     simp only [f8,i8,i9]
     refine wpAnyH_take (i:=12) (oi:=_) (v:=?_) rfl (by kernel_rfl) (by kernel_rfl) (by kernel_rfl) (fun _ _ _ h=>h) (Or.inl ⟨by rfl,?_⟩) (by assumption) ?_
     rotate_left
     ·intro wz hSw;obtain⟨q1,q2,q3,q4⟩:=QC.out wz hSw;clear hSw;go_simp;try with_reducible rfl
     dsimp only [Act.put,i7,g7,g8]
     simp only [f8,i8,i9]
     refine wpAnyH_take (i:=13) (oi:=_) (v:=?_) rfl (by kernel_rfl) (by kernel_rfl) (by kernel_rfl) (fun _ _ _ h=>h) (Or.inl ⟨by rfl,?_⟩) (by assumption) ?_
     rotate_left
     ·intro wz hSw;obtain⟨q1,q2,q3,q4⟩:=QC.out wz hSw;clear hSw;go_simp;try with_reducible rfl
     dsimp only [Act.put,i7,g7,g8]
     simp only [f8,i8,i9]
     refine wpAnyH_take (i:=14) (oi:=_) (v:=?_) rfl (by kernel_rfl) (by kernel_rfl) (by kernel_rfl) (fun _ _ _ h=>h) (Or.inl ⟨by rfl,?_⟩) (by assumption) ?_
     rotate_left
     ·intro wz hSw;obtain⟨q1,q2,q3,q4⟩:=QC.out wz hSw;clear hSw;go_simp;try with_reducible rfl
     dsimp only [Act.put,i7,g7,g8]
     simp only [f8,i8,i9]
     refine wpAnyH_take (i:=15) (oi:=_) (v:=?_) rfl (by kernel_rfl) (by kernel_rfl) (by kernel_rfl) (fun _ _ _ h=>h) (Or.inl ⟨by rfl,?_⟩) (by assumption) ?_
     rotate_left
     ·intro wz hSw;obtain⟨q1,q2,q3,q4⟩:=QC.out wz hSw;clear hSw;go_simp;try with_reducible rfl
     dsimp only [Act.put,i7,g7,g8]
     simp only [f8,i8,i9]
     refine wpAnyH_take (i:=16) (oi:=_) (v:=?_) rfl (by kernel_rfl) (by kernel_rfl) (by kernel_rfl) (fun _ _ _ h=>h) (Or.inl ⟨by rfl,?_⟩) (by assumption) ?_
     rotate_left
     ·intro wz hSw;obtain⟨q1,q2,q3,q4⟩:=QC.out wz hSw;clear hSw;go_simp;try with_reducible rfl
     dsimp only [Act.put,i7,g7,g8]
     simp only [f8,i8,i9]
     refine wpAnyH_take (i:=17) (oi:=_) (v:=?_) rfl (by kernel_rfl) (by kernel_rfl) (by kernel_rfl) (fun _ _ _ h=>h) (Or.inl ⟨by rfl,?_⟩) (by assumption) ?_
     rotate_left
     ·intro wz hSw;obtain⟨q1,q2,q3,q4⟩:=QC.out wz hSw;clear hSw;go_simp;try with_reducible rfl
     dsimp only [Act.put,i7,g7,g8]
     simp only [f8,i8,i9]
     refine wpAnyH_take (i:=18) (oi:=_) (v:=?_) rfl (by kernel_rfl) (by kernel_rfl) (by kernel_rfl) (fun _ _ _ h=>h) (Or.inl ⟨by rfl,?_⟩) (by assumption) ?_
     rotate_left
     ·intro wz hSw;obtain⟨q1,q2,q3,q4⟩:=QC.out wz hSw;clear hSw;go_simp;try with_reducible rfl
     dsimp only [Act.put,i7,g7,g8]
     simp only [f8,i8,i9]
     refine wpAnyH_take (i:=19) (oi:=_) (v:=?_) rfl (by kernel_rfl) (by kernel_rfl) (by kernel_rfl) (fun _ _ _ h=>h) (Or.inl ⟨by rfl,?_⟩) (by assumption) ?_
     rotate_left
     ·intro wz hSw;obtain⟨q1,q2,q3,q4⟩:=QC.out wz hSw;clear hSw;go_simp;try with_reducible rfl
     dsimp only [Act.put,i7,g7,g8]
     simp only [f8,i8,i9]
     refine wpAnyH_take (i:=20) (oi:=_) (v:=?_) rfl (by kernel_rfl) (by kernel_rfl) (by kernel_rfl) (fun _ _ _ h=>h) (Or.inl ⟨by rfl,?_⟩) (by assumption) ?_
     rotate_left
     ·intro wz hSw;obtain⟨q1,q2,q3,q4⟩:=QC.out wz hSw;clear hSw;go_simp;try with_reducible rfl
     dsimp only [Act.put,i7,g7,g8]
     simp only [f8,i8,i9]
     refine wpAnyH_take (i:=21) (oi:=_) (v:=?_) rfl (by kernel_rfl) (by kernel_rfl) (by kernel_rfl) (fun _ _ _ h=>h) (Or.inl ⟨by rfl,?_⟩) (by assumption) ?_
     rotate_left
     ·intro wz hSw;obtain⟨q1,q2,q3,q4⟩:=QC.out wz hSw;clear hSw;go_simp;try with_reducible rfl
     dsimp only [Act.put,i7,g7,g8]
     simp only [f8,i8,i9]
     refine wpAnyH_take (i:=22) (oi:=_) (v:=?_) rfl (by kernel_rfl) (by kernel_rfl) (by kernel_rfl) (fun _ _ _ h=>h) (Or.inl ⟨by rfl,?_⟩) (by assumption) ?_
     rotate_left
     ·intro wz hSw;obtain⟨q1,q2,q3,q4⟩:=QC.out wz hSw;clear hSw;go_simp;try with_reducible rfl
     dsimp only [Act.put,i7,g7,g8]
     simp only [f8,i8,i9]
     refine wpAnyH_take (i:=23) (oi:=_) (v:=?_) rfl (by kernel_rfl) (by kernel_rfl) (by kernel_rfl) (fun _ _ _ h=>h) (Or.inl ⟨by rfl,?_⟩) (by assumption) ?_
     rotate_left
     ·intro wz hSw;obtain⟨q1,q2,q3,q4⟩:=QC.out wz hSw;clear hSw;go_simp;try with_reducible rfl
     dsimp only [Act.put,i7,g7,g8]
     simp only [f8,i8,i9]
     refine wpAnyH_ready (rs:=[24]) (by kernel_rfl) (by simp) ?_
     refine AllReadyH.cons rfl (fun K hK=>?_) AllReadyH.nil
     go_simp
     refine hK.out _ _ (BD.out.alloc (by simp;omega) _) (fun hHeld2=>?_)
     clear hK K
     refine wpAnyH_ready (rs:=[25]) (by kernel_rfl) (by simp) ?_
     refine AllReadyH.cons rfl (fun K hK=>?_) AllReadyH.nil
     refine fS rfl _ _ 22 rfl W1.heap.size 53 t0 (.agg #[.int .i64 0,.int .i64 0]) 2 16 aY ti hz0 hz1 hz2 rfl (by decide) (.slice qo O.length co) O.length (aL O) (by simp [Act.eval]) (aAB RD.out (.cells #[.int .i64 cr.1,.int .i64 cr.2] 53)) ⟨wr.heap.size,0,none⟩ 1 1 [.int .i64 cr.1,.int .i64 cr.2] (by simp [Act.eval]) rfl (jA _ _ _ _) (by simp [Value.oneCell']) (by unfold maxLen;omega) (by omega) (by simp;omega) ?_
     intro v' w6 hown' hgrow hblk
     obtain⟨g6,cap6,rfl⟩:=aO hown' (aBK _)
     have A6:Hid (RR W1.heap.size w6 (.slice (some ⟨g6,0,none⟩) (O.length+1) cap6) (O++[(cr.1,cr.2)])):=nM hown'
     have B6:Hid (Below W1.heap.size W1 w6):=bZ (BD.out.alloc (by simp;omega) _) (aAB RD.out _) hgrow
     clear hown' hgrow hblk
     refine hK.out _ _ B6.out (fun hHeld3=>?_)
     clear hK K
     refine wpAnyH_ready (rs:=[26]) (by kernel_rfl) (by simp) ?_
     refine AllReadyH.cons rfl (fun K hK=>?_) AllReadyH.nil
     go_simp
     refine hK.out _ _ B6.out (fun hHeld4=>?_)
     clear hK K
     refine wpAnyH_done (by kernel_rfl) ?_ _
     all_goals (
      go_wp2
      go_roundw
      case rel=>exact⟨j+1,by omega,by go_num,kC MN2.out.symm A6.out,B6.out⟩
      case measure=>simp [intOf];omega)
    ·have j1:¬ (j:Int)<(B.length:Int):=by omega
     have EE:Hid (eE (A.take (k+1)) B=O):=aA (by rw [PN.out,<- EO.out,o4 (by omega)])
     go_wp2
     go_roundw
     case rel=>exact⟨k+1,by omega,by go_num,kC EE.out.symm RO.out,BB.out⟩
     case measure=>simp [intOf];omega
  ·have i1:¬ (k:Int)<(A.length:Int):=by omega
   have E:Hid (A.take k=A):=aA (o4 (by omega))
   rw [E.out] at RO
   have LN:Hid ((eE A B).length<=A0.length*B0.length):=aA (by rw [mJ];exact Nat.mul_le_mul hla hlb)
   go_wp2_with (go_at_call 58;refine(jI RO.out.arg (aF7 X5.out.2.1.fit X6.out.2.1.fit) (by have:=LN.out;omega)).mono ?_;rintro e w7 ⟨v7,C,rfl,h1,h2,h3,h4⟩;have X7:Hid (RR wr.heap.size w7 v7 C/\IsC C (In (eE A B))/\C.length<=(eE A B).length/\Below wr.heap.size wr w7):=⟨h1,h2,h3,h4⟩;clear h1 h2 h3 h4)
   go_ret
   have BZ:=aG BW.out BB.out lz9
   refine⟨_,_,rfl,X7.out.1.mono BZ.size,X7.out.2.1.to fun c=>?_,o0 X7.out.2.2.1 LN.out,aG BZ X7.out.2.2.2 lz9⟩
   rw [aQ6,X5.out.2.1.mem,X6.out.2.1.mem]
end
section
attribute [local go_sem] aU
structure LW(W1 wr:World)(rb:Nat)(l hi:Int)(ov:Value)(L:List (Int×Int)):Prop where
 own:RR W1.heap.size wr ov L
 box:wr.heap[rb]?=some (.cells #[.int .i64 l,.int .i64 hi] 53 (0,0))
 ne:ov.ownBlock≠some rb
 bel:Below W1.heap.size W1 wr
 new:W1.heap.size<=rb
end
theorem nB(W:World)(o:Obj):Below W.heap.size W (W.alloc o):=bz9
theorem bJ4(m:Bool)(w:World):Calls Tryz.prog 80 #[.bool m] w fun e w'=>∃ v,e=.returned v/\RR w.heap.size w' v (cV m)/\Below w.heap.size w w':=by
 cases m with
 | true=>
  go_enter Tryz.func80,Tryz.ntmps80
  go_wp2
  go_ret
  exact⟨_,rfl,World.ownsRow_lit w #[.int .i64 0,.int .i64 55295,.int .i64 57344,.int .i64 1114111] 2 lz9 (by unfold maxLen;omega) rfl,bz9⟩
 | false=>
  go_enter Tryz.func80,Tryz.ntmps80
  go_wp2
  go_ret
  exact⟨_,rfl,World.ownsRow_lit w #[.int .i64 0,.int .i64 255] 1 lz9 (by unfold maxLen;omega) rfl,bz9⟩
theorem aY2{w:World}{v:Value}{L:List (Int×Int)}{m:Bool}(h:ArgR w v L)(hF:Fit L)(hl:L.length<=1048580) :
  Calls Tryz.prog 57 #[v,.bool m] w (qW w (fun c=>In L c/\eB m c) (L.length*(cV m).length)):=by
 have H:Hid (ArgR w v L/\Fit L):=⟨h,hF⟩
 have hc:=gN m
 have HM:Hid (L.length*(cV m).length+1<=8796093022208):=aA (by have:=Nat.mul_le_mul hl hc;omega)
 clear h hF
 go_enter Tryz.func57,Tryz.ntmps57
 go_wp2_with first
  |(go_at_call 80;refine(bJ4 m _).mono ?_;rintro e w5 ⟨v5,rfl,h1,h2⟩;have X5:Hid (RR w.heap.size w5 v5 (cV m)/\Below w.heap.size w w5):=⟨h1,h2⟩;clear h1 h2)
  |(go_at_call 59;refine(xC (H.out.1.kept X5.out.2) X5.out.1.arg H.out.2 (iF m).fit (by omega) (by omega) HM.out).mono ?_;rintro e w6 ⟨v6,C6,rfl,h1,h2,h3,h4⟩;have X6:Hid (RR w5.heap.size w6 v6 C6/\IsC C6 (fun c=>In L c/\In (cV m) c)/\C6.length<=L.length*(cV m).length/\Below w5.heap.size w5 w6):=⟨h1,h2,h3,h4⟩;clear h1 h2 h3 h4)
 go_ret
 exact⟨_,_,rfl,X6.out.1.mono X5.out.2.size,X6.out.2.1.to fun c=>by rw [(iF m).mem],X6.out.2.2.1,aG X5.out.2 X6.out.2.2.2 lz9⟩
theorem aL8{w:World}{v:Value}{L:List (Int×Int)}{m:Bool}(h:ArgR w v L)(hF:Fit L)(hl:L.length<=1048580) :
  Calls Tryz.prog 35 #[v,.bool m] w fun e w'=>∃ b:Bool,e=.returned (.bool b)/\(b=true↔IsC L (fun c=>In L c/\eB m c))/\Below w.heap.size w w':=by
 have H:Hid (ArgR w v L/\Fit L):=⟨h,hF⟩
 clear h hF
 go_enter Tryz.func35,Tryz.ntmps35
 go_wp2_with first
  |(go_at_call 57;refine(aY2 H.out.1 H.out.2 hl).mono ?_;rintro e w5 ⟨v5,C5,rfl,h1,h2,h3,h4⟩;have X5:Hid (RR w.heap.size w5 v5 C5/\IsC C5 (fun c=>In L c/\eB m c)/\Below w.heap.size w w5):=⟨h1,h2,h4⟩;clear h1 h2 h3 h4)
  |(go_at_call 31;refine(tL (H.out.1.kept X5.out.2.2) X5.out.1.arg).mono ?_;obtain⟨bb,hbb⟩:∃ bb,decide (L=C5)=bb:=⟨_,rfl⟩;rw [hbb];have EB:Hid (decide (L=C5)=bb):=hbb;clear hbb;rintro e w7 ⟨rfl,h1⟩;have X7:Hid (Below w5.heap.size w5 w7):=h1;clear h1)
 go_ret
 refine⟨bb,rfl,?_,aG X5.out.2.2 X7.out lz9⟩
 rw [<- EB.out,decide_eq_true_iff]
 constructor
 ·intro e
  have h2:=X5.out.2.1
  rw [<- e] at h2
  exact h2
 ·intro e
  exact e.one X5.out.2.1 fun _=>Iff.rfl
def shL(G:List (Int×Int))(j:Nat)(d:Int):List (Int×Int):=(G.take j).map fun r=>(r.1+d,r.2+d)
theorem tU{G:List (Int×Int)}{j:Nat}{r:Int×Int}(h:G[j]?=some r)(d:Int):shL G (j+1) d=shL G j d++[(r.1+d,r.2+d)]:=by
 obtain⟨hk,rfl⟩:=m8.1 h
 unfold shL
 rw [dK G j hk,aAK]
 rfl
theorem zN(W:World)(a b:Int):ArgR (W.alloc (.cells #[.int .i64 a,.int .i64 b] 53)) (.slice (some ⟨W.heap.size,0,none⟩) 1 1) [(a,b)]:=
 RR.arg (base:=W.heap.size) (World.ownsRow_lit W #[.int .i64 a,.int .i64 b] 1 lz9 (by unfold maxLen;omega) rfl)
theorem bF2{C L:List (Int×Int)}{a b:Int}(h:IsC C (fun c=>In L c/\In [(a,b)] c)):∀ (i:Nat) (r:Int×Int),C[i]?=some r->(a<=r.1/\r.1<=b)/\(a<=r.2/\r.2<=b):=fun i r hr=>by
 have hm:=n8 hr
 have hs:=h.cls.some r hm
 have p:=((h.mem r.1).1 ⟨r,hm,aAW _,hs⟩).2
 have q:=((h.mem r.2).1 ⟨r,hm,hs,aAW _⟩).2
 rw [dZ] at p q
 exact⟨p,q⟩
def aE2(w w4:World)(k:Nat):Prop:=w.heap.size<=k/\k<w4.heap.size
theorem kL{w w':World}{k:Nat}(h:w'.heap[k]?=w.heap[k]?)(o:Nat):w'.cell? ⟨k,o,none⟩=w.cell? ⟨k,o,none⟩:=by unfold World.cell?;simp only [h]
structure FW(w w4 W1 wr:World)(ov:Value)(O:List (Int×Int)):Prop where
 own:RR w.heap.size wr ov O
 fr:Fr (aE2 w w4) W1 wr
 at':∀ g,ov.ownBlock=some g->aE2 w w4 g\/W1.heap.size<=g
theorem FW.drew{w w4 W1 wr:World}{ov:Value}{O:List (Int×Int)}(h:FW w w4 W1 wr ov O):FW w w4 W1 wr.drew ov O:=⟨World.ownsRow.drew h.own,h.fr.drew,h.at'⟩
theorem FW.app{w w4 W1 wr w6:World}{q:Option Addr}{co:Nat}{L:List (Int×Int)}{o:Obj}{g6 cap6:Nat}{a b:Int}(h:FW w w4 W1 wr (.slice q L.length co) L)(hg:(wr.alloc o).grownBy w6 (Value.slice q L.length co).ownBlock)
  (ho:w6.ownsRow w.heap.size 53 2 (.slice (some ⟨g6,0,none⟩) (L.length+1) cap6) (L.length+1) (aL L++[.int .i64 a,.int .i64 b]))
  (hb:(Value.slice (some ⟨g6,0,none⟩) (L.length+1) cap6).ownBlock=(Value.slice q L.length co).ownBlock\/(Value.slice (some ⟨g6,0,none⟩) (L.length+1) cap6).ownBlock=some (wr.alloc o).heap.size):FW w w4 W1 w6 (.slice (some ⟨g6,0,none⟩) (L.length+1) cap6) (L++[(a,b)]):=by
 refine⟨nM ho,?_,fun g e=>?_⟩
 ·refine⟨hg.os.trans h.fr.os,hg.tape.trans h.fr.tape,hg.output.trans h.fr.output,o0 h.fr.size (o0 (by simp) hg.size),fun k hk hs=>?_⟩
  have hkr:k<wr.heap.size:=o8 hk h.fr.size
  refine(hg.block k (by simp;omega) (fun e=>?_)).trans ((Below.heap_alloc _ _ _ hkr).trans (h.fr.block k hk hs))
  rcases h.at' k e.symm with q | q
  ·exact hs q
  ·omega
 ·rcases hb with hb | hb
  ·rw [hb] at e;exact h.at' g e
  ·rw [hb] at e
   cases e
   exact .inr (o0 h.fr.size (by simp))
theorem rP{W:World}{q:Option Addr}{n k:Nat}{L:List (Int×Int)}(h:ArgR W (.slice q n k) L){lo:Nat}(hlo:∀ g,(Value.slice q n k).ownBlock=some g->lo<=g):∀ (i:Nat) (r:Int×Int),L[i]?=some r->∃ g off,q=some ⟨g,off,none⟩/\lo<=g/\g<W.heap.size/\W.cell? ⟨g,off+i*2,none⟩=some (.int .i64 r.1)/\W.cell? ⟨g,off+i*2+1,none⟩=some (.int .i64 r.2):=fun i r hi=>by
 obtain⟨q',c',e,-,-,hc⟩:=h.slice
 cases e
 obtain⟨g,off,rfl,h1,h2,h3⟩:=hc i r hi
 rw [aBB] at h2 h3
 exact⟨g,off,rfl,hlo g rfl,h1,h2,h3⟩
theorem aY5{w:World}{v:Value}{L:List (Int×Int)}(h:ArgR w v L)(hF:Fit L)(hl:L.length<=1048580) :
  Calls Tryz.prog 36 #[v] w (qW w (kX L) (3*L.length)):=by
 obtain⟨t0,ti,hz0,hz1,hz2⟩:=aR cL
 have H:Hid (ArgR w v L/\Fit L):=⟨h,hF⟩
 clear h hF
 go_enter Tryz.func36,Tryz.ntmps36
 go_upto_region 5 with first
  |(go_at_call 58;refine(jI H.out.1 H.out.2 (by omega)).mono ?_;rintro e w4 ⟨v4,C,rfl,h1,h2,h3,h4⟩;obtain⟨qc,cc,rfl⟩:=h1.shape;have X4:Hid (RR w.heap.size w4 (.slice qc C.length cc) C/\IsC C (In L)/\C.length<=L.length/\Below w.heap.size w w4):=⟨h1,h2,h3,h4⟩;clear h1 h2 h3 h4)
  |(go_at_call 59;have hx:=X5.out;clear hx;have hih:=xC (((H.out.1.kept X4.out.2.2.2).kept X5.out.2.2.2).kept (nB w5 (.cells #[.int .i64 97,.int .i64 122] 53))) (zN w5 97 122) H.out.2 (gJ (by omega)) (by omega) (by simp) (by simp;omega);(with_reducible refine hih.mono ?_);clear hih;rintro e w6 ⟨v6,S,rfl,h1,h2,h3,h4⟩;obtain⟨qs,cs,rfl⟩:=h1.shape;have X6:Hid (RR w5.heap.size w6 (.slice qs S.length cs) S/\IsC S (fun c=>In L c/\In [(97,122)] c)/\S.length<=L.length/\Below w5.heap.size w5 w6):=⟨h1.mono (by simp),h2,(by simpa using h3),(nB w5 _).trans (h4.mono (by simp))⟩;clear h1 h2 h3 h4)
  |(go_at_call 59;have hih:=xC ((H.out.1.kept X4.out.2.2.2).kept (nB w4 (.cells #[.int .i64 65,.int .i64 90] 53))) (zN w4 65 90) H.out.2 (gJ (by omega)) (by omega) (by simp) (by simp;omega);(with_reducible refine hih.mono ?_);clear hih;rintro e w5 ⟨v5,G,rfl,h1,h2,h3,h4⟩;obtain⟨qg,cg,rfl⟩:=h1.shape;have X5:Hid (RR w4.heap.size w5 (.slice qg G.length cg) G/\IsC G (fun c=>In L c/\In [(65,90)] c)/\G.length<=L.length/\Below w4.heap.size w4 w5):=⟨h1.mono (by simp),h2,(by simpa using h3),(nB w4 _).trans (h4.mono (by simp))⟩;clear h1 h2 h3 h4)
 rename World=>W1
 have BTW:Hid (Below w.heap.size w W1):=aG (aG X4.out.2.2.2 X5.out.2.2.2 lz9) X6.out.2.2.2 lz9
 have B4W:Hid (Below w4.heap.size w4 W1):=aG X5.out.2.2.2 X6.out.2.2.2 lz9
 have HGG:Hid _:=rP (X5.out.1.kept X6.out.2.2.2).arg (lo:=w4.heap.size) (fun g e=>(aF X5.out.1 e).1)
 have HGS:Hid _:=rP X6.out.1.arg (lo:=w4.heap.size) (fun g e=>o0 X5.out.2.2.2.size (aF X6.out.1 e).1)
 have BDG:Hid _:=bF2 X5.out.2.1
 have BDS:Hid _:=bF2 X6.out.2.1
 have hcl:=X4.out.2.2.1
 have hgl:=X5.out.2.2.1
 have hsl:=X6.out.2.2.1
 have ST:Hid (FW w w4 W1 W1 (.slice qc C.length cc) C):=⟨X4.out.1.kept B4W.out,Fr.refl _ _,fun g e=>.inl ⟨(aF X4.out.1 e).1,(aF X4.out.1 e).2.1⟩⟩
 go_wp2
 go_loopw [3,6] (fun ov i wr=>∃ j:Nat,j<=G.length/\i=.int .i64 j/\FW w w4 W1 wr ov (C++shL G j 32)) (fun _ i _=>G.length-(intOf i).toNat)
 case atStart=>exact⟨0,o9 _,rfl,by simpa [shL] using ST.out⟩
 case round=>
  obtain⟨j,hj,rfl,hW⟩:=hrel
  obtain⟨qo,co,e3⟩:=hW.own.shape
  subst e3
  by_cases hlt:j<G.length
  ·obtain⟨O,hO⟩:∃ O,C++shL G j 32=O:=⟨_,rfl⟩
   have EO:Hid (C++shL G j 32=O):=hO
   rw [hO] at hW ⊢
   have M0:Hid (FW w w4 W1 wr (.slice qo O.length co) O):=hW
   have hol:O.length+1<=8796093022208:=by rw [<- hO];simp [shL];omega
   clear hW hO
   obtain⟨r,er⟩:∃ r,G[j]?=some r:=⟨_,g9 hlt⟩
   obtain⟨gg,og,rfl,hg4,hgg,z1,z2⟩:=HGG.out j _ er
   have hbd:=BDG.out j r er
   have NXT:Hid (shL G (j+1) (32)=shL G j (32)++[(r.1+(32),r.2+(32))]):=tU er (32)
   obtain⟨lo,hi⟩:=r
   dsimp only at z1 z2 hbd NXT
   have wa:IntKind.wrap .i64 (lo+32)=lo+32:=by rw [IntKind.wrap_i64];omega
   have wb:IntKind.wrap .i64 (hi+32)=hi+32:=by rw [IntKind.wrap_i64];omega
   have j0:(0:Int)<=(j:Int):=by omega
   have j1:(j:Int)<(G.length:Int):=by omega
   have QC:Hid (∀ w',Fr (aE2 w w4) W1 w'->w'.cell? ⟨gg,og+j*2,none⟩=some (.int .i64 lo)/\w'.cell? ⟨gg,og+j*2+1,none⟩=some (.int .i64 hi)):=fun w' hf=>by
    have hbk:=hf.block gg hgg (fun q=>by have:=q.2;omega)
    exact⟨(kL hbk _).trans z1,(kL hbk _).trans z2⟩
   have MD:Hid (FW w w4 W1 wr.drew (.slice qo O.length co) O):=M0.out.drew
   have hw1:w.heap.size<=wr.heap.size:=o0 BTW.out.size M0.out.fr.size
   clear z1 z2 er
   go_wp2
   refine wp_region_held_drew (S:=fun w'=>Fr (aE2 w w4) W1 w') (by kernel_rfl) MD.out.fr (fun hHeld=>?_)
   refine wpAnyH_take (i:=0) (oi:=_) (v:=?_) rfl (by kernel_rfl) (by kernel_rfl) (by kernel_rfl) (fun _ _ _ h=>h) (Or.inl ⟨by rfl,?_⟩) (by assumption) ?_
   rotate_left
   ·intro wz hSw;obtain⟨q1,q2⟩:=QC.out wz hSw;clear hSw;go_simp;try with_reducible rfl
   dsimp only [Act.put,i7,g7,g8]
   simp only [f8,i8,i9]
   refine wpAnyH_take (i:=1) (oi:=_) (v:=?_) rfl (by kernel_rfl) (by kernel_rfl) (by kernel_rfl) (fun _ _ _ h=>h) (Or.inl ⟨by rfl,?_⟩) (by assumption) ?_
   rotate_left
   ·intro wz hSw;obtain⟨q1,q2⟩:=QC.out wz hSw;clear hSw;go_simp;try with_reducible rfl
   dsimp only [Act.put,i7,g7,g8]
   simp only [f8,i8,i9]
   refine wpAnyH_take (i:=2) (oi:=_) (v:=?_) rfl (by kernel_rfl) (by kernel_rfl) (by kernel_rfl) (fun _ _ _ h=>h) (Or.inl ⟨by rfl,?_⟩) (by assumption) ?_
   rotate_left
   ·intro wz hSw;obtain⟨q1,q2⟩:=QC.out wz hSw;clear hSw;go_simp;try with_reducible rfl
   dsimp only [Act.put,i7,g7,g8]
   simp only [f8,i8,i9]
   refine wpAnyH_take (i:=3) (oi:=_) (v:=?_) rfl (by kernel_rfl) (by kernel_rfl) (by kernel_rfl) (fun _ _ _ h=>h) (Or.inl ⟨by rfl,?_⟩) (by assumption) ?_
   rotate_left
   ·intro wz hSw;obtain⟨q1,q2⟩:=QC.out wz hSw;clear hSw;go_simp;try with_reducible rfl
   dsimp only [Act.put,i7,g7,g8]
   simp only [f8,i8,i9]
   refine wpAnyH_take (i:=4) (oi:=_) (v:=?_) rfl (by kernel_rfl) (by kernel_rfl) (by kernel_rfl) (fun _ _ _ h=>h) (Or.inl ⟨by rfl,?_⟩) (by assumption) ?_
   rotate_left
   ·intro wz hSw;obtain⟨q1,q2⟩:=QC.out wz hSw;clear hSw;go_simp;try with_reducible rfl
   dsimp only [Act.put,i7,g7,g8]
   simp only [f8,i8,i9]
   refine wpAnyH_take (i:=5) (oi:=_) (v:=?_) rfl (by kernel_rfl) (by kernel_rfl) (by kernel_rfl) (fun _ _ _ h=>h) (Or.inl ⟨by rfl,?_⟩) (by assumption) ?_
   rotate_left
   ·intro wz hSw;obtain⟨q1,q2⟩:=QC.out wz hSw;clear hSw;go_simp;try with_reducible rfl
   dsimp only [Act.put,i7,g7,g8]
   simp only [f8,i8,i9]
   refine wpAnyH_take (i:=6) (oi:=_) (v:=?_) rfl (by kernel_rfl) (by kernel_rfl) (by kernel_rfl) (fun _ _ _ h=>h) (Or.inl ⟨by rfl,?_⟩) (by assumption) ?_
   rotate_left
   ·intro wz hSw;obtain⟨q1,q2⟩:=QC.out wz hSw;clear hSw;go_simp;try with_reducible rfl
   dsimp only [Act.put,i7,g7,g8]
   simp only [f8,i8,i9]
   refine wpAnyH_take (i:=7) (oi:=_) (v:=?_) rfl (by kernel_rfl) (by kernel_rfl) (by kernel_rfl) (fun _ _ _ h=>h) (Or.inl ⟨by rfl,?_⟩) (by assumption) ?_
   rotate_left
   ·intro wz hSw;obtain⟨q1,q2⟩:=QC.out wz hSw;clear hSw;go_simp;try with_reducible rfl
   dsimp only [Act.put,i7,g7,g8]
   simp only [f8,i8,i9]
   refine wpAnyH_take (i:=8) (oi:=_) (v:=?_) rfl (by kernel_rfl) (by kernel_rfl) (by kernel_rfl) (fun _ _ _ h=>h) (Or.inl ⟨by rfl,?_⟩) (by assumption) ?_
   rotate_left
   ·intro wz hSw;obtain⟨q1,q2⟩:=QC.out wz hSw;clear hSw;go_simp;try with_reducible rfl
   dsimp only [Act.put,i7,g7,g8]
   simp only [f8,i8,i9]
   refine wpAnyH_take (i:=9) (oi:=_) (v:=?_) rfl (by kernel_rfl) (by kernel_rfl) (by kernel_rfl) (fun _ _ _ h=>h) (Or.inl ⟨by rfl,?_⟩) (by assumption) ?_
   rotate_left
   ·intro wz hSw;obtain⟨q1,q2⟩:=QC.out wz hSw;clear hSw;go_simp;try with_reducible rfl
   dsimp only [Act.put,i7,g7,g8]
   simp only [f8,i8,i9]
   refine wpAnyH_take (i:=10) (oi:=_) (v:=?_) rfl (by kernel_rfl) (by kernel_rfl) (by kernel_rfl) (fun _ _ _ h=>h) (Or.inl ⟨by rfl,?_⟩) (by assumption) ?_
   rotate_left
   ·intro wz hSw;obtain⟨q1,q2⟩:=QC.out wz hSw;clear hSw;go_simp;try with_reducible rfl
   dsimp only [Act.put,i7,g7,g8]
   simp only [f8,i8,i9]
   refine wpAnyH_take (i:=11) (oi:=_) (v:=?_) rfl (by kernel_rfl) (by kernel_rfl) (by kernel_rfl) (fun _ _ _ h=>h) (Or.inl ⟨by rfl,?_⟩) (by assumption) ?_
   rotate_left
   ·intro wz hSw;obtain⟨q1,q2⟩:=QC.out wz hSw;clear hSw;go_simp;try with_reducible rfl
   dsimp only [Act.put,i7,g7,g8]
   simp only [f8,i8,i9]
   refine wpAnyH_take (i:=12) (oi:=_) (v:=?_) rfl (by kernel_rfl) (by kernel_rfl) (by kernel_rfl) (fun _ _ _ h=>h) (Or.inl ⟨by rfl,?_⟩) (by assumption) ?_
   rotate_left
   ·intro wz hSw;obtain⟨q1,q2⟩:=QC.out wz hSw;clear hSw;go_simp;try with_reducible rfl
   dsimp only [Act.put,i7,g7,g8]
   simp only [f8,i8,i9]
   refine wpAnyH_take (i:=13) (oi:=_) (v:=?_) rfl (by kernel_rfl) (by kernel_rfl) (by kernel_rfl) (fun _ _ _ h=>h) (Or.inl ⟨by rfl,?_⟩) (by assumption) ?_
   rotate_left
   ·intro wz hSw;obtain⟨q1,q2⟩:=QC.out wz hSw;clear hSw;go_simp;try with_reducible rfl
   dsimp only [Act.put,i7,g7,g8]
   simp only [f8,i8,i9]
   refine wpAnyH_ready (rs:=[14]) (by kernel_rfl) (by simp) ?_
   refine AllReadyH.cons rfl (fun K hK=>?_) AllReadyH.nil
   go_simp
   refine hK.out _ _ (MD.out.fr.alloc _) (fun hHeld2=>?_)
   clear hK K
   refine wpAnyH_ready (rs:=[15]) (by kernel_rfl) (by simp) ?_
   refine AllReadyH.cons rfl (fun K hK=>?_) AllReadyH.nil
   refine fS rfl _ _ 22 rfl w.heap.size 53 t0 (.agg #[.int .i64 0,.int .i64 0]) 2 16 aY ti hz0 hz1 hz2 rfl (by decide) (.slice qo O.length co) O.length (aL O) (by simp [Act.eval]) (aAB MD.out.own (.cells #[.int .i64 (lo+32),.int .i64 (hi+32)] 53)) ⟨wr.heap.size,0,none⟩ 1 1 [.int .i64 (lo+32),.int .i64 (hi+32)] (by simp [Act.eval]) rfl (jA _ _ _ _) (by simp [Value.oneCell']) (by unfold maxLen;omega) (by omega) (by simp;omega) ?_
   intro v' w6' hown' hgrow hblk
   obtain⟨g6,cap6,rfl⟩:=aO hown' (aBK _)
   have M6:Hid (FW w w4 W1 w6' (.slice (some ⟨g6,0,none⟩) (O.length+1) cap6) (O++[(lo+32,hi+32)])):=MD.out.app hgrow hown' hblk
   clear hown' hgrow hblk
   refine hK.out _ _ M6.out.fr (fun hHeld3=>?_)
   clear hK K
   refine wpAnyH_ready (rs:=[16]) (by kernel_rfl) (by simp) ?_
   refine AllReadyH.cons rfl (fun K hK=>?_) AllReadyH.nil
   go_simp
   refine hK.out _ _ M6.out.fr (fun hHeld4=>?_)
   clear hK K
   refine wpAnyH_done (by kernel_rfl) ?_ _
   go_wp2
   go_roundw
   case rel=>exact⟨j+1,by omega,by go_num,by rw [NXT.out,<- r8,EO.out];exact M6.out⟩
   case measure=>simp [intOf];omega
  ·have j1:¬ (j:Int)<(G.length:Int):=by omega
   have EJ:Hid (shL G j 32=shL G G.length 32):=aA (by unfold shL;rw [o4 (by omega),aBQ])
   rw [EJ.out] at hW ⊢
   obtain⟨C2,hC2⟩:∃ C2,C++shL G G.length 32=C2:=⟨_,rfl⟩
   have EC:Hid (C++shL G G.length 32=C2):=hC2
   have hc2:C2.length<=2*L.length:=by rw [<- hC2];simp [shL];omega
   rw [hC2] at hW ⊢
   have ST2:Hid (FW w w4 W1 wr (.slice qo C2.length co) C2):=hW
   clear hW hC2
   rename World=>W5
   go_wp2
   go_loopw [3,7] (fun ov i wr=>∃ j:Nat,j<=S.length/\i=.int .i64 j/\FW w w4 W1 wr ov (C2++shL S j (-32))) (fun _ i _=>S.length-(intOf i).toNat)
   case atStart=>exact⟨0,o9 _,rfl,by simpa [shL] using ST2.out⟩
   case round=>
    clear ST2
    obtain⟨j,hj,rfl,hW⟩:=hrel
    obtain⟨qo,co,e3⟩:=hW.own.shape
    subst e3
    by_cases hlt:j<S.length
    ·obtain⟨O,hO⟩:∃ O,C2++shL S j (-32)=O:=⟨_,rfl⟩
     have EO:Hid (C2++shL S j (-32)=O):=hO
     rw [hO] at hW ⊢
     have M0:Hid (FW w w4 W1 wr (.slice qo O.length co) O):=hW
     have hol:O.length+1<=8796093022208:=by rw [<- hO];simp [shL];omega
     clear hW hO
     obtain⟨r,er⟩:∃ r,S[j]?=some r:=⟨_,g9 hlt⟩
     obtain⟨gg,og,rfl,hg4,hgg,z1,z2⟩:=HGS.out j _ er
     have hbd:=BDS.out j r er
     have NXT:Hid (shL S (j+1) (-32)=shL S j (-32)++[(r.1+(-32),r.2+(-32))]):=tU er (-32)
     obtain⟨lo,hi⟩:=r
     dsimp only at z1 z2 hbd NXT
     have wa:IntKind.wrap .i64 (lo-32)=lo-32:=by rw [IntKind.wrap_i64];omega
     have wb:IntKind.wrap .i64 (hi-32)=hi-32:=by rw [IntKind.wrap_i64];omega
     have j0:(0:Int)<=(j:Int):=by omega
     have j1:(j:Int)<(S.length:Int):=by omega
     have QC:Hid (∀ w',Fr (aE2 w w4) W1 w'->w'.cell? ⟨gg,og+j*2,none⟩=some (.int .i64 lo)/\w'.cell? ⟨gg,og+j*2+1,none⟩=some (.int .i64 hi)):=fun w' hf=>by
      have hbk:=hf.block gg hgg (fun q=>by have:=q.2;omega)
      exact⟨(kL hbk _).trans z1,(kL hbk _).trans z2⟩
     have MD:Hid (FW w w4 W1 wr.drew (.slice qo O.length co) O):=M0.out.drew
     have hw1:w.heap.size<=wr.heap.size:=o0 BTW.out.size M0.out.fr.size
     clear z1 z2 er
     go_wp2
     refine wp_region_held_drew (S:=fun w'=>Fr (aE2 w w4) W1 w') (by kernel_rfl) MD.out.fr (fun hHeld=>?_)
     refine wpAnyH_take (i:=0) (oi:=_) (v:=?_) rfl (by kernel_rfl) (by kernel_rfl) (by kernel_rfl) (fun _ _ _ h=>h) (Or.inl ⟨by rfl,?_⟩) (by assumption) ?_
     rotate_left
     ·intro wz hSw;obtain⟨q1,q2⟩:=QC.out wz hSw;clear hSw;go_simp;try with_reducible rfl
     dsimp only [Act.put,i7,g7,g8]
     simp only [f8,i8,i9]
     refine wpAnyH_take (i:=1) (oi:=_) (v:=?_) rfl (by kernel_rfl) (by kernel_rfl) (by kernel_rfl) (fun _ _ _ h=>h) (Or.inl ⟨by rfl,?_⟩) (by assumption) ?_
     rotate_left
     ·intro wz hSw;obtain⟨q1,q2⟩:=QC.out wz hSw;clear hSw;go_simp;try with_reducible rfl
     dsimp only [Act.put,i7,g7,g8]
     simp only [f8,i8,i9]
     refine wpAnyH_take (i:=2) (oi:=_) (v:=?_) rfl (by kernel_rfl) (by kernel_rfl) (by kernel_rfl) (fun _ _ _ h=>h) (Or.inl ⟨by rfl,?_⟩) (by assumption) ?_
     rotate_left
     ·intro wz hSw;obtain⟨q1,q2⟩:=QC.out wz hSw;clear hSw;go_simp;try with_reducible rfl
     dsimp only [Act.put,i7,g7,g8]
     simp only [f8,i8,i9]
     refine wpAnyH_take (i:=3) (oi:=_) (v:=?_) rfl (by kernel_rfl) (by kernel_rfl) (by kernel_rfl) (fun _ _ _ h=>h) (Or.inl ⟨by rfl,?_⟩) (by assumption) ?_
     rotate_left
     ·intro wz hSw;obtain⟨q1,q2⟩:=QC.out wz hSw;clear hSw;go_simp;try with_reducible rfl
     dsimp only [Act.put,i7,g7,g8]
     simp only [f8,i8,i9]
     refine wpAnyH_take (i:=4) (oi:=_) (v:=?_) rfl (by kernel_rfl) (by kernel_rfl) (by kernel_rfl) (fun _ _ _ h=>h) (Or.inl ⟨by rfl,?_⟩) (by assumption) ?_
     rotate_left
     ·intro wz hSw;obtain⟨q1,q2⟩:=QC.out wz hSw;clear hSw;go_simp;try with_reducible rfl
     dsimp only [Act.put,i7,g7,g8]
     simp only [f8,i8,i9]
     refine wpAnyH_take (i:=5) (oi:=_) (v:=?_) rfl (by kernel_rfl) (by kernel_rfl) (by kernel_rfl) (fun _ _ _ h=>h) (Or.inl ⟨by rfl,?_⟩) (by assumption) ?_
     rotate_left
     ·intro wz hSw;obtain⟨q1,q2⟩:=QC.out wz hSw;clear hSw;go_simp;try with_reducible rfl
     dsimp only [Act.put,i7,g7,g8]
     simp only [f8,i8,i9]
     refine wpAnyH_take (i:=6) (oi:=_) (v:=?_) rfl (by kernel_rfl) (by kernel_rfl) (by kernel_rfl) (fun _ _ _ h=>h) (Or.inl ⟨by rfl,?_⟩) (by assumption) ?_
     rotate_left
     ·intro wz hSw;obtain⟨q1,q2⟩:=QC.out wz hSw;clear hSw;go_simp;try with_reducible rfl
     dsimp only [Act.put,i7,g7,g8]
     simp only [f8,i8,i9]
     refine wpAnyH_take (i:=7) (oi:=_) (v:=?_) rfl (by kernel_rfl) (by kernel_rfl) (by kernel_rfl) (fun _ _ _ h=>h) (Or.inl ⟨by rfl,?_⟩) (by assumption) ?_
     rotate_left
     ·intro wz hSw;obtain⟨q1,q2⟩:=QC.out wz hSw;clear hSw;go_simp;try with_reducible rfl
     dsimp only [Act.put,i7,g7,g8]
     simp only [f8,i8,i9]
     refine wpAnyH_take (i:=8) (oi:=_) (v:=?_) rfl (by kernel_rfl) (by kernel_rfl) (by kernel_rfl) (fun _ _ _ h=>h) (Or.inl ⟨by rfl,?_⟩) (by assumption) ?_
     rotate_left
     ·intro wz hSw;obtain⟨q1,q2⟩:=QC.out wz hSw;clear hSw;go_simp;try with_reducible rfl
     dsimp only [Act.put,i7,g7,g8]
     simp only [f8,i8,i9]
     refine wpAnyH_take (i:=9) (oi:=_) (v:=?_) rfl (by kernel_rfl) (by kernel_rfl) (by kernel_rfl) (fun _ _ _ h=>h) (Or.inl ⟨by rfl,?_⟩) (by assumption) ?_
     rotate_left
     ·intro wz hSw;obtain⟨q1,q2⟩:=QC.out wz hSw;clear hSw;go_simp;try with_reducible rfl
     dsimp only [Act.put,i7,g7,g8]
     simp only [f8,i8,i9]
     refine wpAnyH_take (i:=10) (oi:=_) (v:=?_) rfl (by kernel_rfl) (by kernel_rfl) (by kernel_rfl) (fun _ _ _ h=>h) (Or.inl ⟨by rfl,?_⟩) (by assumption) ?_
     rotate_left
     ·intro wz hSw;obtain⟨q1,q2⟩:=QC.out wz hSw;clear hSw;go_simp;try with_reducible rfl
     dsimp only [Act.put,i7,g7,g8]
     simp only [f8,i8,i9]
     refine wpAnyH_take (i:=11) (oi:=_) (v:=?_) rfl (by kernel_rfl) (by kernel_rfl) (by kernel_rfl) (fun _ _ _ h=>h) (Or.inl ⟨by rfl,?_⟩) (by assumption) ?_
     rotate_left
     ·intro wz hSw;obtain⟨q1,q2⟩:=QC.out wz hSw;clear hSw;go_simp;try with_reducible rfl
     dsimp only [Act.put,i7,g7,g8]
     simp only [f8,i8,i9]
     refine wpAnyH_take (i:=12) (oi:=_) (v:=?_) rfl (by kernel_rfl) (by kernel_rfl) (by kernel_rfl) (fun _ _ _ h=>h) (Or.inl ⟨by rfl,?_⟩) (by assumption) ?_
     rotate_left
     ·intro wz hSw;obtain⟨q1,q2⟩:=QC.out wz hSw;clear hSw;go_simp;try with_reducible rfl
     dsimp only [Act.put,i7,g7,g8]
     simp only [f8,i8,i9]
     refine wpAnyH_take (i:=13) (oi:=_) (v:=?_) rfl (by kernel_rfl) (by kernel_rfl) (by kernel_rfl) (fun _ _ _ h=>h) (Or.inl ⟨by rfl,?_⟩) (by assumption) ?_
     rotate_left
     ·intro wz hSw;obtain⟨q1,q2⟩:=QC.out wz hSw;clear hSw;go_simp;try with_reducible rfl
     dsimp only [Act.put,i7,g7,g8]
     simp only [f8,i8,i9]
     refine wpAnyH_ready (rs:=[14]) (by kernel_rfl) (by simp) ?_
     refine AllReadyH.cons rfl (fun K hK=>?_) AllReadyH.nil
     go_simp
     refine hK.out _ _ (MD.out.fr.alloc _) (fun hHeld2=>?_)
     clear hK K
     refine wpAnyH_ready (rs:=[15]) (by kernel_rfl) (by simp) ?_
     refine AllReadyH.cons rfl (fun K hK=>?_) AllReadyH.nil
     refine fS rfl _ _ 22 rfl w.heap.size 53 t0 (.agg #[.int .i64 0,.int .i64 0]) 2 16 aY ti hz0 hz1 hz2 rfl (by decide) (.slice qo O.length co) O.length (aL O) (by simp [Act.eval]) (aAB MD.out.own (.cells #[.int .i64 (lo-32),.int .i64 (hi-32)] 53)) ⟨wr.heap.size,0,none⟩ 1 1 [.int .i64 (lo-32),.int .i64 (hi-32)] (by simp [Act.eval]) rfl (jA _ _ _ _) (by simp [Value.oneCell']) (by unfold maxLen;omega) (by omega) (by simp;omega) ?_
     intro v' w6' hown' hgrow hblk
     obtain⟨g6,cap6,rfl⟩:=aO hown' (aBK _)
     have M6:Hid (FW w w4 W1 w6' (.slice (some ⟨g6,0,none⟩) (O.length+1) cap6) (O++[(lo-32,hi-32)])):=MD.out.app hgrow hown' hblk
     clear hown' hgrow hblk
     refine hK.out _ _ M6.out.fr (fun hHeld3=>?_)
     clear hK K
     refine wpAnyH_ready (rs:=[16]) (by kernel_rfl) (by simp) ?_
     refine AllReadyH.cons rfl (fun K hK=>?_) AllReadyH.nil
     go_simp
     refine hK.out _ _ M6.out.fr (fun hHeld4=>?_)
     clear hK K
     refine wpAnyH_done (by kernel_rfl) ?_ _
     go_wp2
     go_roundw
     case rel=>exact⟨j+1,by omega,by go_num,by rw [NXT.out,<- r8,EO.out];exact M6.out⟩
     case measure=>simp [intOf];omega
    ·have j1:¬ (j:Int)<(S.length:Int):=by omega
     have EJ:Hid (shL S j (-32)=S.map fun r:Int×Int=>(r.1+-32,r.2+-32)):=aA (by unfold shL;rw [o4 (by omega)])
     have EG:Hid (C2=C++G.map fun r:Int×Int=>(r.1+32,r.2+32)):=aA (by rw [<- EC.out];unfold shL;rw [aBQ])
     rw [EJ.out] at hW ⊢
     have MZ:Hid _:=hW
     have FZ:Hid (Fit (C2++S.map fun r:Int×Int=>(r.1+-32,r.2+-32))):=aA (by
      rw [EG.out]
      refine cU (cU X4.out.2.1.fit fun r hr=>?_) fun r hr=>?_
      ·obtain⟨x,hx,e⟩:=s4.1 hr
       subst e
       obtain⟨i,hi⟩:=List.getElem?_of_mem hx
       have:=BDG.out i x hi
       simp only
       omega
      ·obtain⟨x,hx,e⟩:=s4.1 hr
       subst e
       obtain⟨i,hi⟩:=List.getElem?_of_mem hx
       have:=BDS.out i x hi
       simp only
       omega)
     have LZ:Hid ((C2++S.map fun r:Int×Int=>(r.1+-32,r.2+-32)).length<=3*L.length):=aA (by simp;omega)
     have IZ:Hid (∀ c,In (C2++S.map fun r:Int×Int=>(r.1+-32,r.2+-32)) c↔kX L c):=fun c=>by
      rw [EG.out,cA,cA,iQ,iQ,X4.out.2.1.mem,X5.out.2.1.mem,X6.out.2.1.mem,dZ,dZ]
      unfold kX
      rw [show c - -32=c+32 by omega,or_assoc]
     clear hW
     generalize (C2++S.map fun r:Int×Int=>(r.1+-32,r.2+-32))=Z at *
     go_wp2_with (go_at_call 58;refine(jI MZ.out.own.arg FZ.out (by have:=LZ.out;omega)).mono ?_;rintro e w7 ⟨v7,D,rfl,h1,h2,h3,h4⟩;have X7:Hid (RR wr.heap.size w7 v7 D/\IsC D (In Z)/\D.length<=Z.length/\Below wr.heap.size wr w7):=⟨h1,h2,h3,h4⟩;clear h1 h2 h3 h4)
     go_ret
     have BZ:Below w.heap.size w wr:=bB BTW.out MZ.out.fr lz9 (fun k hk=>hk.1)
     exact⟨_,_,rfl,X7.out.1.mono BZ.size,X7.out.2.1.to IZ.out,o0 X7.out.2.2.1 LZ.out,aG BZ X7.out.2.2.2 lz9⟩
end Go.Proofs.YtlamifbjklpdbaaGreat
