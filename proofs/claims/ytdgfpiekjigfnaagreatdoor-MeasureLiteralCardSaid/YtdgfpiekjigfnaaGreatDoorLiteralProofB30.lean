/-
  Parts of the proof.
-/
import Derived.Test.YtdgfpiekjigfnaaGreatDoorLiteralProofA0
import Derived.Test.YtdgfpiekjigfnaaGreatDoorLiteralProofA1
import Derived.Test.YtdgfpiekjigfnaaGreatDoorLiteralProofB29
import Derived.Test.YtdgfpiekjigfnaaGreatDoorLiteralProofB11
import Derived.Test.YtdgfpiekjigfnaaGreatDoorLiteralProofB15
import Derived.Laws.MakeOwn
set_option maxRecDepth 100000
set_option maxHeartbeats 8000000
namespace Go.Proofs.YtdgfpiekjigfnaaGreatDoor
open Go Go.RowKit
section
attribute [local go_sem] aT
theorem nX{w:World}{v:Value}{L:lIi}(h:ArgR w v L)(hF:Fit L)(hn:L.length<=1):Calls Tryz.prog 111 #[v] w (tF w L):=by
 obtain⟨t0,ti,hz0,hz1,hz2⟩:=aW cZ
 cases L with
 | nil=>
  obtain⟨q,cap,e,-,-,-⟩:=h.slice;subst e;clear h;go_enter Tryz.func111,Tryz.ntmps111;go_wp2;go_ret;exact⟨_,[],rfl,RR.nil _ _,vY,kJ,fun _=>Iff.rfl,aAB _,Below.refl _ _⟩
 | cons r L'=>
  obtain rfl:L'=[]:=aAL (by simpa using hn);obtain⟨g,off,cap,rfl,hg,hn1,hm1,x1,x2⟩:=h.cons;have HF:Hid (Fit [r]):=hF;clear h hF;obtain⟨lo,hi⟩:=r;dsimp only [List.length_nil] at x1 x2 hn1 ⊢;have W1:Hid (w=w):=rfl;by_cases hq:lo<=hi
  ·have dq:decide (lo<=hi)=true:=aAQ hq;have HQ:Hid (lo<=hi):=hq;go_enter Tryz.func111,Tryz.ntmps111;go_wp2;refine wx9 ?_
   repeat (go_big_quiet_step (first | exact rfl))
   refine wpQuiet_nil ?_;intro w7 hw7;have B7:Hid (wBl w w7):=aP hw7;have c1:=(B7.out.cell (p:=(aDr g off)) hg).trans x1;have c2:=(B7.out.cell (p:=⟨g,off+1,none⟩) hg).trans x2;have hz7:=B7.out.size;clear hw7 x1 x2;go_wp2_with (at_builtin;refine wpList_append_own_at _ rfl _ _ 22 rfl w.heap.size 92 t0 (.agg #[.I 0,.I 0]) 2 16 bG ti hz0 hz1 hz2 rfl (by decide) (.slice none 0 0) 0 (aS []) rfl (RR.nil _ _) (aDr w7.heap.size 0) 1 1 [.I lo,.I hi] rfl rfl (kT _ _ _ _) (by simp [Value.oneCell']) (by unfold maxLen;omega) (by omega) (by simp;omega) ?_;intro v' w6 hown' hgrow _ hblk;obtain⟨g6,cap6,rfl⟩:=aL hown' (aAM _);have A6:Hid (RR w.heap.size w6 (.slice (some (aDr g6 0)) 1 cap6) [(lo,hi)]):=hown';have B6:Hid (wBl w w6):=cU (t:=92) (size:=2) (n:=0) (xs:=[]) (B7.out.alloc hz7 _) (RR.nil _ _) hgrow;clear hown' hgrow hblk)
   go_ret;exact⟨_,[(lo,hi)],rfl,A6.out,vX HQ.out,HF.out,fun _=>Iff.rfl,aAB _,B6.out⟩
  ·have dq:decide (lo<=hi)=false:=t6 hq;have HQ:Hid (¬ lo<=hi):=hq;go_enter Tryz.func111,Tryz.ntmps111;go_wp2;refine wx9 ?_
   repeat (go_big_quiet_step (first | exact rfl))
   refine wpQuiet_nil ?_;intro w7 hw7;have B7:Hid (wBl w w7):=aP hw7;clear hw7;go_wp2;go_ret;exact⟨_,[],rfl,RR.nil _ _,vY,kJ,fun c=>⟨fun q=>absurd q (gV c),fun q=>by rw [eE] at q;have:=HQ.out;simp only at q;omega⟩,by simp,B7.out⟩
theorem xX{w:World}{v:Value}{L:lIi}(ih:∀ (w:World) (v:Value) (L':lIi),L'.length<L.length->ArgR w v L'->Fit L'->Calls Tryz.prog 111 #[v] w (tF w L'))(h:ArgR w v L)(hF:Fit L)(hn:1<L.length)(hl:L.length+1<=8796093022208):Calls Tryz.prog 111 #[v] w (tF w L):=by
 obtain⟨t0,ti,hz0,hz1,hz2⟩:=aW cZ;obtain⟨q,cap,e,-,hcap,hcells⟩:=h.slice;subst e;obtain⟨g,off,rfl,hg,-,-⟩:=hcells 0 _ (m7 (by omega));obtain⟨k,hk⟩:∃ k,L.length/2=k:=⟨_,rfl⟩;have hk1:0<k:=by omega
 have hk2:k<L.length:=by omega
 have IH:Hid (∀ (w:World) (v:Value) (L':lIi),L'.length<L.length->ArgR w v L'->Fit L'->Calls Tryz.prog 111 #[v] w (tF w L')):=ih;have T1:Hid (ArgR w (.slice (some (aDr g off)) k cap) (L.take k)/\Fit (L.take k)/\(L.take k).length<L.length):=⟨h.take (by omega),fR hF fun x hx=>aAJ hx,by simp;omega⟩;have T2:Hid (ArgR w (.slice (some ⟨g,off+k*2,none⟩) (L.length-k) (cap-k)) (L.drop k)/\Fit (L.drop k)/\(L.drop k).length<L.length):=⟨h.drop hk2,fR hF fun x hx=>List.mem_of_mem_drop hx,by simp;omega⟩;have HL:Hid ((L.take k).length+(L.drop k).length=L.length):=aC (by simp;omega);have q1:((L.length:Int).tdiv 2)=(k:Int):=by rw [<- hk];simp [Int.tdiv_eq_ediv]
 have q2:IntKind.wrap .i64 ((L.length:Int).tdiv 2)=(k:Int):=by rw [q1,IntKind.wrap_i64];omega
 have n0:((L.length:Int)==0)=false:=beq_false_of_ne (by omega);have n1:((L.length:Int)==1)=false:=beq_false_of_ne (by omega);have k0:(0:Int)<=(k:Int):=by omega
 have k1:(k:Int)<=(cap:Int):=by omega
 have k2:(k:Int)<=(L.length:Int):=by omega
 have k3:¬ cap=k:=by omega
 clear h hF ih hcells hk;go_enter Tryz.func111,Tryz.ntmps111;go_wp2_with first
  |(go_at_call 111;have hx:=X5.out;clear hx;have hih:=IH.out w5 _ _ T2.out.2.2 (T2.out.1.kept X5.out.2.2.2.2.2) T2.out.2.1;(with_reducible refine hih.mono ?_);clear hih;rintro e w6 ⟨v6,B,rfl,h1,h2,h3,h4,h5,h6⟩;obtain⟨qb,cb,rfl⟩:=h1.shape;have X6:Hid (RR w5.heap.size w6 (.slice qb B.length cb) B/\Srt B/\Fit B/\(∀ c,In B c↔In (L.drop k) c)/\B.length<=(L.drop k).length/\wBl w5 w6):=⟨h1,h2,h3,h4,h5,h6⟩;clear h1 h2 h3 h4 h5 h6)
  |(go_at_call 111;have hih:=IH.out w _ _ T1.out.2.2 T1.out.1 T1.out.2.1;(with_reducible refine hih.mono ?_);clear hih;rintro e w5 ⟨v5,A,rfl,h1,h2,h3,h4,h5,h6⟩;obtain⟨qa,ca,rfl⟩:=h1.shape;have X5:Hid (RR w.heap.size w5 (.slice qa A.length ca) A/\Srt A/\Fit A/\(∀ c,In A c↔In (L.take k) c)/\A.length<=(L.take k).length/\wBl w w5):=⟨h1,h2,h3,h4,h5,h6⟩;clear h1 h2 h3 h4 h5 h6)
 rename World=>W1;have ST:Hid (MI A B A B []):=MI.start X5.out.2.1 X6.out.2.1 X5.out.2.2.1 X6.out.2.2.1;have AA:Hid (ArgR W1 (.slice qa A.length ca) A/\ArgR W1 (.slice qb B.length cb) B):=⟨(X5.out.1.kept X6.out.2.2.2.2.2).arg,X6.out.1.arg⟩;have hab:A.length+B.length+1<=8796093022208:=by have:=X5.out.2.2.2.2.1;have:=X6.out.2.2.2.2.1;have:=HL.out;omega
 have BW:Hid (wBl w W1):=aJ X5.out.2.2.2.2.2 X6.out.2.2.2.2.2 lz9;have HA:Hid (∀ (i:Nat) (r:Int×Int),A[i]?=some r->∃ g off,qa=some (aDr g off)/\g<W1.heap.size/\W1.cell? ⟨g,off+2*i,none⟩=some (.I r.1)/\W1.cell? ⟨g,off+2*i+1,none⟩=some (.I r.2)):=by
  obtain⟨q',cap',e,-,-,hc⟩:=AA.out.1.slice;cases e;exact hc
 have FIN:Hid (∀ O B',MI A B [] B' O->Srt (O++B')/\Fit (O++B')/\(∀ c,In (O++B') c↔In L c)/\(O++B').length<=L.length):=fun O B' I=>by
  obtain⟨m1,m2,m3,m4⟩:=I.done;refine⟨m1,m3,fun c=>?_,?_⟩
  ·rw [m2,X5.out.2.2.2.1,X6.out.2.2.2.1,aQ8]
  ·have:=X5.out.2.2.2.2.1;have:=X6.out.2.2.2.2.1;have:=HL.out;omega
 clear q1 q2 k0 k1 k2 k3 n0 n1;go_loopw [3,5,6] (fun ov bv i wr=>∃ (j:Nat) (B' O:lIi),j<=A.length/\i=.I j/\ArgR W1 bv B'/\RR W1.heap.size wr ov O/\MI A B (A.drop j) B' O/\wBl W1 wr) (fun _ _ i _=>A.length-(intOf i).toNat)
 case atStart=>exact⟨0,B,[],r9 _,rfl,AA.out.2,RR.nil _ _,ST.out,Below.refl _ _⟩
 case round=>
  obtain⟨j,B',O,hj,rfl,hbv,hov,hI,hb⟩:=hrel;have RB:Hid (ArgR W1 u5 B'):=hbv;have RO:Hid (RR W1.heap.size wr u3 O):=hov;have I:Hid (MI A B (A.drop j) B' O):=hI;have BB:Hid (wBl W1 wr):=hb;clear hbv hov hI hb;by_cases hlt:j<A.length
  ·obtain⟨a,ea⟩:∃ r,A[j]?=some r:=⟨_,m7 hlt⟩;have DR:Hid (A.drop j=a :: A.drop (j+1)):=aC (by obtain⟨h1,h2⟩:=m8.1 ea;rw [aBF h1,h2]);obtain⟨ga,oa,rfl,hga,xa1,xa2⟩:=HA.out j _ ea;have I2:Hid (MI A B (a :: A.drop (j+1)) B' O):=aC (by rw [<- DR.out];exact I.out);rw [aAV] at xa1 xa2;obtain⟨la,ra⟩:=a;dsimp only at xa1 xa2;have XA:Hid (W1.cell? ⟨ga,oa+j*2,none⟩=some (.I la)/\W1.cell? ⟨ga,oa+j*2+1,none⟩=some (.I ra)/\ga<W1.heap.size):=⟨xa1,xa2,hga⟩;have i0:(0:Int)<=(j:Int):=(by omega);have i1:(j:Int)<(A.length:Int):=(by omega);clear xa1 xa2 hga ea;rename World=>W2;obtain⟨qq,cc,e5⟩:∃ q c,u5=.slice q B'.length c:=by obtain⟨q,c,e,-⟩:=RB.out.slice;exact⟨q,c,e⟩
   obtain⟨qq3,cc3,e3⟩:=RO.out.shape;go_wp2;go_loopw [3,5] (fun ov bv wr=>∃ (B' O:lIi),ArgR W1 bv B'/\RR W1.heap.size wr ov O/\MI A B ((la,ra) :: A.drop (j+1)) B' O/\wBl W1 wr) (fun _ bv _=>pU bv)
   case atStart=>exact⟨B',O,RB.out,RO.out,I2.out,BB.out⟩
   case round=>
    clear RB RO I I2 BB e5 e3;obtain⟨B',O,hbv,hov,hI,hb⟩:=hrel;obtain⟨qo,co,e3⟩:=hov.shape;subst e3;have RO:Hid (RR W1.heap.size wr (.slice qo O.length co) O):=hov;have I:Hid (MI A B ((la,ra) :: A.drop (j+1)) B' O):=hI;have BB:Hid (wBl W1 wr):=hb;have hol:O.length+1<=8796093022208:=(by have:=hI.len;simp at this;omega);have hbs:=hb.size;have ca1:=(BB.out.cell (p:=⟨ga,oa+j*2,none⟩) XA.out.2.2).trans XA.out.1;have sa:ga<wr.heap.size:=o4 XA.out.2.2 hbs;clear hov hI hb
    cases B' with
    | nil=>
     obtain⟨q2,cap2,e2,-,-,-⟩:=hbv.slice;simp only [List.length_nil] at e2;subst e2;have RB:Hid (ArgR W1 (.slice q2 0 cap2) []):=hbv;have I2:Hid (MI A B (A.drop (j+1)) [] (O++[(la,ra)])):=I.out.left (fun _ h=>by cases h);have d0:decide ((0:Int)<0)=false:=(by decide);clear hbv;go_wp2;refine wx9 ?_
     repeat (go_big_quiet_step (first | exact rfl))
     refine wpQuiet_nil ?_;intro w7 hw7;have B7:Hid (wBl W1 w7):=aJ BB.out (aP hw7) lz9;have R7:Hid (RR W1.heap.size w7 (.slice qo O.length co) O):=RO.out.kept (aP hw7);have e1:=(B7.out.cell (p:=⟨ga,oa+j*2,none⟩) XA.out.2.2).trans XA.out.1;have e2:=(B7.out.cell (p:=⟨ga,oa+j*2+1,none⟩) XA.out.2.2).trans XA.out.2.1;have hz7:=B7.out.size;clear hw7 ca1;go_wp2_with (at_builtin;refine wpList_append_own_at _ rfl _ _ 22 rfl W1.heap.size 92 t0 (.agg #[.I 0,.I 0]) 2 16 bG ti hz0 hz1 hz2 rfl (by decide) (.slice qo O.length co) O.length (aS O) rfl (o9 R7.out (.cells #[.I la,.I ra] 92)) (aDr w7.heap.size 0) 1 1 [.I la,.I ra] rfl rfl (kT _ _ _ _) (by simp [Value.oneCell']) (by unfold maxLen;omega) (by omega) (by simp;omega) ?_;intro v' w6 hown' hgrow _ hblk;obtain⟨g6,cap6,rfl⟩:=aL hown' (aAM _);have A6:Hid (RR W1.heap.size w6 (.slice (some (aDr g6 0)) (O.length+1) cap6) (O++[(la,ra)])):=pR hown';have B6:Hid (wBl W1 w6):=cU (B7.out.alloc B7.out.size _) (o9 R7.out _) hgrow;clear hown' hgrow hblk)
     go_roundw
     case rel=>exact⟨j+1,[],_,by omega,by go_num,RB.out,A6.out,I2.out,B6.out⟩
     case measure=>simp [intOf];omega
    | cons b B'=>
     obtain⟨g2,o2,cap2,e2,hg2,hn2,hm2,y1,y2⟩:=hbv.cons;subst e2;have RB:Hid (ArgR W1 (.slice (some (aDr g2 o2)) (B'.length+1) cap2) (b :: B')):=hbv;obtain⟨lb,rb⟩:=b;dsimp only at y1 y2;have YB:Hid (W1.cell? (aDr g2 o2)=some (.I lb)/\W1.cell? ⟨g2,o2+1,none⟩=some (.I rb)/\g2<W1.heap.size):=⟨y1,y2,hg2⟩;have cb1:=(BB.out.cell (p:=(aDr g2 o2)) YB.out.2.2).trans YB.out.1;have sb:g2<wr.heap.size:=o4 hg2 hbs;have d1:(0:Int)<(B'.length:Int)+1:=(by omega);have dd:decide ((0:Int)<(B'.length:Int)+1)=true:=aAQ d1;unfold maxLen at hm2;clear hbv y1 y2 hg2;by_cases hq:lb<la
     ·have I2:Hid (MI A B ((la,ra) :: A.drop (j+1)) B' (O++[(lb,rb)])):=I.out.right hq;have dq:decide (lb<la)=true:=aAQ hq;have TT:=RB.out.tail;by_cases hcap:cap2=1
      ·have T1':Hid (ArgR W1 (.slice (some (aDr g2 o2)) 0 0) B'):=TT.1 hcap;have hA0:B'.length=0:=(by omega);subst hcap;clear TT;go_wp2;refine wx9 ?_
       repeat (go_big_quiet_step (first | exact rfl))
       refine wpQuiet_nil ?_;intro w7 hw7;have B7:Hid (wBl W1 w7):=aJ BB.out (aP hw7) lz9;have R7:Hid (RR W1.heap.size w7 (.slice qo O.length co) O):=RO.out.kept (aP hw7);have e1:=(B7.out.cell (p:=(aDr g2 o2)) YB.out.2.2).trans YB.out.1;have e2:=(B7.out.cell (p:=⟨g2,o2+1,none⟩) YB.out.2.2).trans YB.out.2.1;have hz7:=B7.out.size;clear hw7 ca1 cb1;go_wp2_with (at_builtin;refine wpList_append_own_at _ rfl _ _ 22 rfl W1.heap.size 92 t0 (.agg #[.I 0,.I 0]) 2 16 bG ti hz0 hz1 hz2 rfl (by decide) (.slice qo O.length co) O.length (aS O) rfl (o9 R7.out (.cells #[.I lb,.I rb] 92)) (aDr w7.heap.size 0) 1 1 [.I lb,.I rb] rfl rfl (kT _ _ _ _) (by simp [Value.oneCell']) (by unfold maxLen;omega) (by omega) (by simp;omega) ?_;intro v' w6 hown' hgrow _ hblk;obtain⟨g6,cap6,rfl⟩:=aL hown' (aAM _);have A6:Hid (RR W1.heap.size w6 (.slice (some (aDr g6 0)) (O.length+1) cap6) (O++[(lb,rb)])):=pR hown';have B6:Hid (wBl W1 w6):=cU (B7.out.alloc B7.out.size _) (o9 R7.out _) hgrow;clear hown' hgrow hblk)
       go_roundw
       case rel=>exact⟨B',_,T1'.out,A6.out,I2.out,B6.out⟩
       case measure=>simp only [pU];omega
      ·have T1':Hid (ArgR W1 (.slice (some ⟨g2,o2+2,none⟩) B'.length (cap2-1)) B'):=TT.2 hcap;clear TT;go_wp2;refine wx9 ?_
       repeat (go_big_quiet_step (first | exact rfl))
       refine wpQuiet_nil ?_;intro w7 hw7;have B7:Hid (wBl W1 w7):=aJ BB.out (aP hw7) lz9;have R7:Hid (RR W1.heap.size w7 (.slice qo O.length co) O):=RO.out.kept (aP hw7);have e1:=(B7.out.cell (p:=(aDr g2 o2)) YB.out.2.2).trans YB.out.1;have e2:=(B7.out.cell (p:=⟨g2,o2+1,none⟩) YB.out.2.2).trans YB.out.2.1;have hz7:=B7.out.size;clear hw7 ca1 cb1;go_wp2_with (at_builtin;refine wpList_append_own_at _ rfl _ _ 22 rfl W1.heap.size 92 t0 (.agg #[.I 0,.I 0]) 2 16 bG ti hz0 hz1 hz2 rfl (by decide) (.slice qo O.length co) O.length (aS O) rfl (o9 R7.out (.cells #[.I lb,.I rb] 92)) (aDr w7.heap.size 0) 1 1 [.I lb,.I rb] rfl rfl (kT _ _ _ _) (by simp [Value.oneCell']) (by unfold maxLen;omega) (by omega) (by simp;omega) ?_;intro v' w6 hown' hgrow _ hblk;obtain⟨g6,cap6,rfl⟩:=aL hown' (aAM _);have A6:Hid (RR W1.heap.size w6 (.slice (some (aDr g6 0)) (O.length+1) cap6) (O++[(lb,rb)])):=pR hown';have B6:Hid (wBl W1 w6):=cU (B7.out.alloc B7.out.size _) (o9 R7.out _) hgrow;clear hown' hgrow hblk)
       go_roundw
       case rel=>exact⟨B',_,T1'.out,A6.out,I2.out,B6.out⟩
       case measure=>simp only [pU];omega
     ·have I2:Hid (MI A B (A.drop (j+1)) ((lb,rb) :: B') (O++[(la,ra)])):=I.out.left (fun y hy=>by
       rcases aBK.1 hy with rfl | hy
       ·simp only;omega
       ·have:=(aBD.1 I.out.b.rise).1 y hy;simp only at this ⊢;omega)
      have dq:decide (lb<la)=false:=t6 hq;go_wp2;refine wx9 ?_
      repeat (go_big_quiet_step (first | exact rfl))
      refine wpQuiet_nil ?_;intro w7 hw7;have B7:Hid (wBl W1 w7):=aJ BB.out (aP hw7) lz9;have R7:Hid (RR W1.heap.size w7 (.slice qo O.length co) O):=RO.out.kept (aP hw7);have e1:=(B7.out.cell (p:=⟨ga,oa+j*2,none⟩) XA.out.2.2).trans XA.out.1;have e2:=(B7.out.cell (p:=⟨ga,oa+j*2+1,none⟩) XA.out.2.2).trans XA.out.2.1;have hz7:=B7.out.size;clear hw7 ca1 cb1;go_wp2_with (at_builtin;refine wpList_append_own_at _ rfl _ _ 22 rfl W1.heap.size 92 t0 (.agg #[.I 0,.I 0]) 2 16 bG ti hz0 hz1 hz2 rfl (by decide) (.slice qo O.length co) O.length (aS O) rfl (o9 R7.out (.cells #[.I la,.I ra] 92)) (aDr w7.heap.size 0) 1 1 [.I la,.I ra] rfl rfl (kT _ _ _ _) (by simp [Value.oneCell']) (by unfold maxLen;omega) (by omega) (by simp;omega) ?_;intro v' w6 hown' hgrow _ hblk;obtain⟨g6,cap6,rfl⟩:=aL hown' (aAM _);have A6:Hid (RR W1.heap.size w6 (.slice (some (aDr g6 0)) (O.length+1) cap6) (O++[(la,ra)])):=pR hown';have B6:Hid (wBl W1 w6):=cU (B7.out.alloc B7.out.size _) (o9 R7.out _) hgrow;clear hown' hgrow hblk)
      go_roundw
      case rel=>exact⟨j+1,(lb,rb) :: B',_,by omega,by go_num,RB.out,A6.out,I2.out,B6.out⟩
      case measure=>simp [intOf];omega
  ·have i1:¬ (j:Int)<(A.length:Int):=by omega
   have D0:Hid (A.drop j=[]):=aC (List.drop_of_length_le (by omega));have I2:Hid (MI A B [] B' O):=aC (by rw [<- D0.out];exact I.out);obtain⟨q2,cap2,e5,-,-,-⟩:=RB.out.slice;subst e5;obtain⟨qo,co,e3⟩:=RO.out.shape;subst e3;have F:=FIN.out O B' I2.out;have FF:Hid _:=F;have hlen:=F.2.2.2;rw [o8] at hlen;have hbs:=BB.out.size;clear F
   cases q2 with
   | none=>
    have e0:Value.slice none B'.length cap2=.slice none 0 0/\B'=[]:=by
     rcases RB.out with⟨p,cap',e,e2,e3⟩ | ⟨g',off',cap',e,_⟩
     ·subst e2;cases e;have:=e3 rfl;subst this;exact⟨rfl,rfl⟩
     ·cases e
    obtain⟨e1,e2⟩:=e0;subst e2;cases e1;go_wp2_with (at_builtin;refine wpList_append_own_none rfl _ _ 22 rfl W1.heap.size 92 t0 2 bG ti (.slice qo O.length co) O.length (aS O) rfl RO.out rfl ?_)
    go_ret;refine⟨_,O++[],rfl,?_,FF.out.1,FF.out.2.1,FF.out.2.2.1,FF.out.2.2.2,aJ BW.out BB.out lz9⟩;rw [aBT];exact RO.out.mono BW.out.size
   | some ad=>
    have NW:Hid (∀ j u,(aS B')[j]?=some u->wr.cell? (ad.add j)=some u):=(RB.out.kept BB.out).news;go_wp2_with (at_builtin;refine wpList_append_own_at _ rfl _ _ 22 rfl W1.heap.size 92 t0 (.agg #[.I 0,.I 0]) 2 16 bG ti hz0 hz1 hz2 rfl (by decide) (.slice qo O.length co) O.length (aS O) rfl RO.out ad B'.length cap2 (aS B') rfl (eD B') NW.out (nP B') (by unfold maxLen;omega) (by omega) hbs ?_;intro v' w6 hown' hgrow _ hblk;have A6:Hid (RR W1.heap.size w6 v' (O++B')):=qZ hown';have B6:Hid (wBl W1 w6):=cU BB.out RO.out hgrow;clear hown' hgrow hblk)
    go_ret;exact⟨_,O++B',rfl,A6.out.mono BW.out.size,FF.out.1,FF.out.2.1,FF.out.2.2.1,FF.out.2.2.2,aJ BW.out B6.out lz9⟩
theorem aV5(n:Nat):∀ (w:World) (v:Value) (L:lIi),L.length<=n->n+1<=8796093022208->ArgR w v L->Fit L->Calls Tryz.prog 111 #[v] w (tF w L):=by
 induction n with
 | zero=>exact fun w v L hn _ h hF=>nX h hF (by omega)
 | succ n ih=>
  intro w v L hn hl h hF;by_cases h1:L.length<=1
  ·exact nX h hF h1
  ·exact xX (fun w v L' hL' h' hF'=>ih w v L' (by omega) (by omega) h' hF') h hF (by omega) (by omega)
end
section
attribute [local go_sem] aT
theorem mD{base:Nat}{w:World}{v:Value}{A B:lIi}(e:A=B)(h:RR base w v A):RR base w v B:=e ▸ h
theorem lD{w:World}{v:Value}{L:lIi}(h:ArgR w v L)(hF:Fit L)(hl:L.length+1<=8796093022208) :
  Calls Tryz.prog 87 #[v] w (xE w (In L) L.length):=by
 obtain⟨t0,ti,hz0,hz1,hz2⟩:=aW cZ;have H:Hid (ArgR w v L/\Fit L):=⟨h,hF⟩;clear h hF;go_enter Tryz.func87,Tryz.ntmps87;go_wp2_with (go_at_call 111;refine(aV5 L.length w v L lz9 hl H.out.1 H.out.2).mono ?_;rintro e w5 ⟨v5,S,rfl,h1,h2,h3,h4,h5,h6⟩;obtain⟨qs,cs,rfl⟩:=h1.shape;have X5:Hid (RR w.heap.size w5 (.slice qs S.length cs) S/\Srt S/\Fit S/\(∀ c,In S c↔In L c)/\S.length<=L.length/\wBl w w5):=⟨h1,h2,h3,h4,h5,h6⟩;clear h1 h2 h3 h4 h5 h6)
 rename World=>W1;have hsl:=X5.out.2.2.2.2.1;have HC:Hid (∀ (i:Nat) (r:Int×Int),S[i]?=some r->∃ g off,qs=some (aDr g off)/\g<W1.heap.size/\W1.cell? ⟨g,off+2*i,none⟩=some (.I r.1)/\W1.cell? ⟨g,off+2*i+1,none⟩=some (.I r.2)):=by
  obtain⟨q',cap',e,-,-,hc⟩:=X5.out.1.arg.slice;cases e;exact hc
 have SP:Hid (∀ k,k<=S.length->Cls ((S.take k).foldl cA [])/\Fit ((S.take k).foldl cA [])/\((S.take k).foldl cA []).length<=k/\∀ c,In ((S.take k).foldl cA []) c↔In (S.take k) c):=fun k hk=>by
  have:=mK X5.out.2.1.rise X5.out.2.2.1 k hk;exact⟨this.1,this.2.1,this.2.2.1,this.2.2.2.1⟩
 go_loopw [3,5] (fun ov i wr=>∃ k:Nat,k<=S.length/\i=.I k/\RR W1.heap.size wr ov ((S.take k).foldl cA [])/\wBl W1 wr) (fun _ i _=>S.length-(intOf i).toNat)
 case atStart=>exact⟨0,r9 _,rfl,RR.nil _ _,Below.refl _ _⟩
 case round=>
  obtain⟨k,hk,rfl,hrr,hb⟩:=hrel;have RC:Hid (RR W1.heap.size wr u3 ((S.take k).foldl cA [])):=hrr;have BB:Hid (wBl W1 wr):=hb;have hbs:=hb.size;clear hb hrr;by_cases hlt:k<S.length
  ·obtain⟨r,hr⟩:∃ r,S[k]?=some r:=⟨_,m7 hlt⟩;obtain⟨g,off,rfl,hg,x1,x2⟩:=HC.out k _ hr;rw [aAV] at x1 x2;have NX:Hid ((S.take (k+1)).foldl cA []=cA ((S.take k).foldl cA []) r):=aC (by
    obtain⟨h1,h2⟩:=m8.1 hr;rw [dM _ _ h1,aCI,h2];rfl)
   have hne:¬ r.2<r.1:=by have:=X5.out.2.1.some r (n8 hr);omega
   have hfr:=X5.out.2.2.1 r (n8 hr);have SPk:=SP.out k hk;have FC:Hid (Fit ((S.take k).foldl cA [])):=SPk.2.1;have hcl:=SPk.2.2.1;obtain⟨lo,hi⟩:=r;dsimp only at x1 x2 hne hfr;have XS:Hid (W1.cell? ⟨g,off+k*2,none⟩=some (.I lo)/\W1.cell? ⟨g,off+k*2+1,none⟩=some (.I hi)/\g<W1.heap.size):=⟨x1,x2,hg⟩;have cs1:=(BB.out.cell (p:=⟨g,off+k*2,none⟩) hg).trans x1;have sg:g<wr.heap.size:=o4 hg hbs;have i0:(0:Int)<=(k:Int):=(by omega);have i1:(k:Int)<(S.length:Int):=(by omega);clear x1 x2 hr SPk hg;generalize (S.take k).foldl cA []=C at *;rcases iO C with e | ⟨D,x,e⟩
   ·subst e;obtain⟨qo,co,e3⟩:=RC.out.shape;subst e3;have LD:Hid ((0:Nat)=0):=rfl;have NX2:Hid ((S.take (k+1)).foldl cA []=[(lo,hi)]):=aC (by rw [NX.out,lW hne]);simp only [List.length_nil] at RC ⊢;have wn:IntKind.wrap .i64 ((0:Int)-1)=-1:=(by decide);have d0:decide ((0:Int)<=-1)=false:=by decide
    ··
      go_wp2;refine wx9 ?_
      repeat (go_big_quiet_step (first | exact rfl))
      refine wpQuiet_nil ?_;intro w7 hw7;have B7:Hid (wBl W1 w7):=aJ BB.out (aP hw7) lz9;have e1:=(B7.out.cell (p:=⟨g,off+k*2,none⟩) XS.out.2.2).trans XS.out.1;have e2:=(B7.out.cell (p:=⟨g,off+k*2+1,none⟩) XS.out.2.2).trans XS.out.2.1;have hz7:=B7.out.size;have R7:Hid (RR W1.heap.size w7 (.slice qo 0 co) []):=RC.out.kept (aP hw7);clear hw7 cs1;go_wp2_with (at_builtin;refine wpList_append_own_at _ rfl _ _ 22 rfl W1.heap.size 92 t0 (.agg #[.I 0,.I 0]) 2 16 bG ti hz0 hz1 hz2 rfl (by decide) (.slice qo 0 co) 0 (aS []) rfl (o9 R7.out (.cells #[.I lo,.I hi] 92)) (aDr w7.heap.size 0) 1 1 [.I lo,.I hi] rfl rfl (kT _ _ _ _) (by simp [Value.oneCell']) (by unfold maxLen;omega) (by omega) (by simp;omega) ?_;intro v' w6 hown' hgrow _ hblk;obtain⟨g6,cap6,rfl⟩:=aL hown' (aAM _);have A6:Hid (RR W1.heap.size w6 (.slice (some (aDr g6 0)) (0+1) cap6) ([(lo,hi)])):=qZ (F:=[]) (L:=[(lo,hi)]) hown';have B6:Hid (wBl W1 w6):=cU (B7.out.alloc hz7 _) (o9 R7.out _) hgrow;clear hown' hgrow hblk)
      go_roundw
      case rel=>exact⟨k+1,by omega,by go_num,mD NX2.out.symm A6.out,B6.out⟩
      case measure=>simp [intOf];omega
   ·subst e;have fx:=FC.out x (by simp);obtain⟨nd,hnd⟩:∃ nd,D.length=nd:=⟨_,rfl⟩;have LD:Hid (D.length=nd):=hnd;have OW0:Hid (wr.ownsRow W1.heap.size 92 2 u3 (nd+1) (aS (D++[x]))):=aC (by have:=RC.out;unfold RR at this;rwa [o8,aCG,hnd] at this);obtain⟨go,co,e3⟩:=aL OW0.out (by omega);subst e3;have OW:Hid (wr.ownsRow W1.heap.size 92 2 (.slice (some (aDr go 0)) (nd+1) co) (nd+1) (aS (D++[x]))):=OW0.out;have hgo:go<wr.heap.size:=(aF OW.out rfl).2.1;have hgb:W1.heap.size<=go:=(aF OW.out rfl).1;have hcell:=(pV OW.out hnd).2;rw [o8,aCG,hnd] at hcl;clear RC OW0 hnd;obtain⟨y,hy⟩:∃ y,x.2=y:=⟨_,rfl⟩;rw [hy] at hcell fx;have HY:Hid (x.2=y):=hy;clear hy;have wn:IntKind.wrap .i64 ((nd:Int)+1-1)=(nd:Int):=(by rw [IntKind.wrap_i64];omega);have j0:(0:Int)<=(nd:Int):=(by omega);have j1:(nd:Int)<(nd:Int)+1:=(by omega);have d0:decide ((0:Int)<=(nd:Int))=true:=aAQ j0;by_cases hf:y+1<lo
    ·have d1:decide (lo<=y)=false:=t6 (by omega);have wl:IntKind.wrap .i64 (lo-1)=lo-1:=(by rw [IntKind.wrap_i64];omega);have d2:(lo-1==y)=false:=beq_false_of_ne (by omega);have NX2:Hid ((S.take (k+1)).foldl cA []=D++[x]++[(lo,hi)]):=aC (by rw [NX.out,lY hne (by rw [HY.out];exact hf)])
     ·
      go_wp2;refine wx9 ?_
      repeat (go_big_quiet_step (first | exact rfl))
      refine wpQuiet_nil ?_;intro w7 hw7;have B7:Hid (wBl W1 w7):=aJ BB.out (aP hw7) lz9;have e1:=(B7.out.cell (p:=⟨g,off+k*2,none⟩) XS.out.2.2).trans XS.out.1;have e2:=(B7.out.cell (p:=⟨g,off+k*2+1,none⟩) XS.out.2.2).trans XS.out.2.1;have hz7:=B7.out.size;have R7:Hid (w7.ownsRow W1.heap.size 92 2 (.slice (some (aDr go 0)) (nd+1) co) (nd+1) (aS (D++[x]))):=aH (S:=fun _=>False) OW.out (Fr.of_below (aP hw7)) (fun _ _ q=>q);clear hw7 cs1 hcell;go_wp2_with (at_builtin;refine wpList_append_own_at _ rfl _ _ 22 rfl W1.heap.size 92 t0 (.agg #[.I 0,.I 0]) 2 16 bG ti hz0 hz1 hz2 rfl (by decide) (.slice (some (aDr go 0)) (nd+1) co) (nd+1) (aS (D++[x])) rfl (o9 R7.out (.cells #[.I lo,.I hi] 92)) (aDr w7.heap.size 0) 1 1 [.I lo,.I hi] rfl rfl (kT _ _ _ _) (by simp [Value.oneCell']) (by unfold maxLen;omega) (by omega) (by simp;omega) ?_;intro v' w6 hown' hgrow _ hblk;obtain⟨g6,cap6,rfl⟩:=aL hown' (aAM _);have A6:Hid (RR W1.heap.size w6 (.slice (some (aDr g6 0)) ((nd+1)+1) cap6) (D++[x]++[(lo,hi)])):=qZ (F:=(D++[x])) (L:=[(lo,hi)]) hown';have B6:Hid (wBl W1 w6):=cU (B7.out.alloc hz7 _) (o9 R7.out _) hgrow;clear hown' hgrow hblk)
      go_roundw
      case rel=>exact⟨k+1,by omega,by go_num,mD NX2.out.symm A6.out,B6.out⟩
      case measure=>simp [intOf];omega
    ·obtain⟨M,hM⟩:∃ M,max x.2 hi=M:=⟨_,rfl⟩;have HM:Hid (max x.2 hi=M):=hM;have hmx:∀ t ty w,(Builtin.max_ t ty #[.I y,.I hi]).run Tryz.prog w=.ok (.I M) w:=fun t ty w=>by rw [iW,<- HY.out,HM.out]
     have NR:Hid (¬ hi<lo->cA (D++[x]) (lo,hi)=D++[(x.1,max x.2 hi)]):=fun q=>jV q (by rw [HY.out];exact hf);clear hM;by_cases hq:lo<=y
     ·have d1:decide (lo<=y)=true:=aAQ hq;have d2:True:=trivial;go_wp2;refine wx9 ?_
      repeat (go_big_quiet_step (first | exact rfl))
      refine wpQuiet_nil ?_;intro w7 hw7;have B7:Hid (wBl W1 w7):=aJ BB.out (aP hw7) lz9;have e1:=(B7.out.cell (p:=⟨g,off+k*2,none⟩) XS.out.2.2).trans XS.out.1;have e2:=(B7.out.cell (p:=⟨g,off+k*2+1,none⟩) XS.out.2.2).trans XS.out.2.1;have hz7:=B7.out.size;have O7:Hid (w7.drew.ownsRow W1.heap.size 92 2 (.slice (some (aDr go 0)) (nd+1) co) (nd+1) (aS (D++[x]))):=(aH (S:=fun _=>False) OW.out (Fr.of_below (aP hw7)) (fun _ _ q=>q)).drew;have c7:=((aP hw7).cell (p:=⟨go,nd*2+1,none⟩) hgo).trans hcell;have f7:w7.frozen? ⟨go,nd*2+1,none⟩=false:=O7.out.frozenAt (nd*2+1);clear hw7 hcell d1 d2;go_wp2
      go_region_with fail
      all_goals (
       go_wp2;go_roundw
       case rel=>exact⟨k+1,by omega,by go_num,mD (NX.out.trans (NR.out hne)).symm (by rw [HM.out];exact aW6 (nZ O7.out LD.out M) (by have:=LD.out;simp;omega)),B7.out.drew.setCell (p:=⟨go,nd*2+1,none⟩) hgb _⟩
       case measure=>simp [intOf];omega)
     ·have d1:decide (lo<=y)=false:=t6 hq;have wl:IntKind.wrap .i64 (lo-1)=lo-1:=(by rw [IntKind.wrap_i64];omega);have d2:(lo-1==y)=true:=(by rw [beq_iff_eq];omega);go_wp2;refine wx9 ?_
      repeat (go_big_quiet_step (first | exact rfl))
      refine wpQuiet_nil ?_;intro w7 hw7;have B7:Hid (wBl W1 w7):=aJ BB.out (aP hw7) lz9;have e1:=(B7.out.cell (p:=⟨g,off+k*2,none⟩) XS.out.2.2).trans XS.out.1;have e2:=(B7.out.cell (p:=⟨g,off+k*2+1,none⟩) XS.out.2.2).trans XS.out.2.1;have hz7:=B7.out.size;have O7:Hid (w7.drew.ownsRow W1.heap.size 92 2 (.slice (some (aDr go 0)) (nd+1) co) (nd+1) (aS (D++[x]))):=(aH (S:=fun _=>False) OW.out (Fr.of_below (aP hw7)) (fun _ _ q=>q)).drew;have c7:=((aP hw7).cell (p:=⟨go,nd*2+1,none⟩) hgo).trans hcell;have f7:w7.frozen? ⟨go,nd*2+1,none⟩=false:=O7.out.frozenAt (nd*2+1);clear hw7 hcell d1 d2;go_wp2
      go_region_with fail
      all_goals (
       go_wp2;go_roundw
       case rel=>exact⟨k+1,by omega,by go_num,mD (NX.out.trans (NR.out hne)).symm (by rw [HM.out];exact aW6 (nZ O7.out LD.out M) (by have:=LD.out;simp;omega)),B7.out.drew.setCell (p:=⟨go,nd*2+1,none⟩) hgb _⟩
       case measure=>simp [intOf];omega)
  ·have i1:¬ (k:Int)<(S.length:Int):=by omega
   have E:Hid (S.take k=S):=aC (n9 (by omega));have SPn:=SP.out k hk;rw [E.out] at RC SPn;have SS:Hid _:=SPn;have hcl:=SPn.2.2.1;clear SPn;go_wp2;go_ret;exact⟨_,_,rfl,RC.out.mono X5.out.2.2.2.2.2.size,⟨SS.out.1,SS.out.2.1,fun c=>(SS.out.2.2.2 c).trans (X5.out.2.2.2.1 c)⟩,by omega,aJ X5.out.2.2.2.2.2 BB.out lz9⟩
end
section
attribute [local go_sem] aT
theorem aL8{w:World}{va vb:Value}{A B:lIi}(ha:ArgR w va A)(hb:ArgR w vb B) :
  Calls Tryz.prog 48 #[va,vb] w fun e w'=>e=.returned (.bool (decide (A=B)))/\wBl w w':=by
 obtain⟨q1,cap1,rfl,hl1,-,hc1⟩:=ha.slice;obtain⟨q2,cap2,rfl,hl2,-,hc2⟩:=hb.slice;have HC1:Hid (∀ (i:Nat) (r:Int×Int),A[i]?=some r->∃ g off,q1=some (aDr g off)/\g<w.heap.size/\w.cell? ⟨g,off+2*i,none⟩=some (.I r.1)/\w.cell? ⟨g,off+2*i+1,none⟩=some (.I r.2)):=hc1;have HC2:Hid (∀ (i:Nat) (r:Int×Int),B[i]?=some r->∃ g off,q2=some (aDr g off)/\g<w.heap.size/\w.cell? ⟨g,off+2*i,none⟩=some (.I r.1)/\w.cell? ⟨g,off+2*i+1,none⟩=some (.I r.2)):=hc2;clear hc1 hc2 ha hb;unfold maxLen at hl1 hl2;by_cases hne:A.length=B.length
 ·have HNE:Hid (A.length=B.length):=hne;rw [<- hne];have b1:(((A.length:Nat):Int) != ((A.length:Nat):Int))=false:=by simp
  clear hne hl2;go_enter Tryz.func48,Tryz.ntmps48;go_wp2;go_loopw [5] (fun i wr=>∃ k:Nat,k<=A.length/\i=.I k/\A.take k=B.take k/\wBl w wr) (fun i _=>A.length-(intOf i).toNat)
  case atStart=>exact⟨0,r9 _,rfl,by simp,Below.refl _ _⟩
  case round=>
   obtain⟨k,hk,rfl,ht,hbl⟩:=hrel;have HT:Hid (A.take k=B.take k):=ht;have BW:Hid (wBl w wr):=hbl;clear ht hbl;by_cases hlt:k<A.length
   ·obtain⟨a,ea⟩:∃ r,A[k]?=some r:=⟨_,m7 hlt⟩;obtain⟨b,eb⟩:∃ r,B[k]?=some r:=⟨_,m7 (by have:=HNE.o;omega)⟩;obtain⟨g1,o1,rfl,hg1,x1,x2⟩:=HC1.o k _ ea;obtain⟨g2,o2,rfl,hg2,y1,y2⟩:=HC2.o k _ eb;have d1:=(BW.o.cell (p:=⟨g1,o1+2*k,none⟩) hg1).trans x1;have d2:=(BW.o.cell (p:=⟨g1,o1+2*k+1,none⟩) hg1).trans x2;have d3:=(BW.o.cell (p:=⟨g2,o2+2*k,none⟩) hg2).trans y1;have d4:=(BW.o.cell (p:=⟨g2,o2+2*k+1,none⟩) hg2).trans y2;rw [aAV] at d1 d2 d3 d4;have s1:g1<wr.heap.size:=o4 hg1 BW.o.size;have s2:g2<wr.heap.size:=o4 hg2 BW.o.size;have NX:Hid (A.take (k+1)=B.take (k+1)↔a=b):=nW ea eb HT.o;have NE:Hid (a≠b->¬ A=B):=fun q e=>by subst e;rw [ea] at eb;exact q (t8 eb)
    have i0:(0:Int)<=(k:Int):=(by omega);have i1:(k:Int)<(A.length:Int):=(by omega);obtain⟨a1,a2⟩:=a;obtain⟨b1',b2⟩:=b;dsimp only at d1 d2 d3 d4;clear x1 x2 y1 y2 ea eb;by_cases e1:a1=b1'
    ·by_cases e2:a2=b2
     ·subst e1 e2;have f1:(a1==a1)=true:=(by simp);have f2:(a2==a2)=true:=(by simp);have NX2:Hid (A.take (k+1)=B.take (k+1)):=NX.o.2 rfl;clear NX NE;go_wp2;refine wx9 ?_
      repeat (go_big_quiet_step (first | exact rfl))
      refine wpQuiet_nil ?_;intro w7 hw7;have B7:Hid (wBl wr w7):=aP hw7;clear hw7;go_wp2;go_roundw
      case rel=>exact⟨k+1,by omega,by go_num,NX2.o,aJ BW.o B7.o lz9⟩
      case measure=>simp [intOf];omega
     ·subst e1;have f1:(a1==a1)=true:=(by simp);have f2:(a2==b2)=false:=(by simp [e2]);have N2:Hid (decide (A=B)=false):=t6 (NE.o (fun q=>e2 (Prod.mk.inj q).2));clear NX NE;go_wp2;refine wx9 ?_
      repeat (go_big_quiet_step (first | exact rfl))
      refine wpQuiet_nil ?_;intro w7 hw7;have B7:Hid (wBl wr w7):=aP hw7;clear hw7;go_wp2;go_ret;exact⟨by rw [N2.o];rfl,aJ BW.o B7.o lz9⟩
    ·have f1:(a1==b1')=false:=by simp [e1]
     have N2:Hid (decide (A=B)=false):=t6 (NE.o (fun q=>e1 (Prod.mk.inj q).1));clear NX NE;go_wp2;refine wx9 ?_
     repeat (go_big_quiet_step (first | exact rfl))
     refine wpQuiet_nil ?_;intro w7 hw7;have B7:Hid (wBl wr w7):=aP hw7;clear hw7;go_wp2;go_ret;exact⟨by rw [N2.o];rfl,aJ BW.o B7.o lz9⟩
   ·have i1:¬ (k:Int)<(A.length:Int):=by omega
    have EE:Hid (decide (A=B)=true):=aAQ (by
     have e:=HT.o;rw [n9 (by omega),n9 (by have:=HNE.o;omega)] at e;exact e)
    go_wp2;go_ret;exact⟨by rw [EE.o];rfl,BW.o⟩
 ·have EE:Hid (decide (A=B)=false):=t6 (fun e=>hne (by rw [e]));have b1:(((A.length:Nat):Int) != ((B.length:Nat):Int))=true:=by simp;omega
  go_enter Tryz.func48,Tryz.ntmps48;go_wp2;go_ret;exact⟨by rw [EE.o];rfl,Below.refl _ _⟩
end
section
attribute [local go_sem] aT
def fF(A B:lIi):lIi:=A.flatMap fun a=>B.map (fC a)
theorem aE3{A B:lIi}{i:Nat}{a:Int×Int}(h:A[i]?=some a):fF (A.take (i+1)) B=fF (A.take i) B++B.map (fC a):=by
 obtain⟨hk,rfl⟩:=m8.1 h;rw [dM A i hk];unfold fF;rw [List.flatMap_append];simp only [aBB,List.flatMap_nil,aBT]
theorem aY5{B:lIi}{j:Nat}{b a:Int×Int}(h:B[j]?=some b):(B.take (j+1)).map (fC a)=(B.take j).map (fC a)++[fC a b]:=by
 obtain⟨hk,rfl⟩:=m8.1 h;rw [dM B j hk,aBU]
 rfl
theorem bA0(A B:lIi)(c:Int):In (fF A B) c↔In A c/\In B c:=by
 unfold fF In fC;constructor
 ·rintro ⟨r,hr,h1,h2⟩;obtain⟨a,ha,hr⟩:=List.mem_flatMap.1 hr;obtain⟨b,hb,rfl⟩:=aAT.1 hr;simp only at h1 h2;exact⟨⟨a,ha,by omega,by omega⟩,b,hb,by omega,by omega⟩
 ·rintro ⟨⟨a,ha,h1,h2⟩,b,hb,h3,h4⟩;exact⟨_,List.mem_flatMap.2 ⟨a,ha,aAT.2 ⟨b,hb,rfl⟩⟩,by simp only;omega,by simp only;omega⟩
theorem aR3{A B:lIi}(fa:Fit A)(fb:Fit B):Fit (fF A B):=fun r hr=>by
 obtain⟨a,ha,hr⟩:=List.mem_flatMap.1 hr;obtain⟨b,hb,rfl⟩:=aAT.1 hr;have h1:=fa a ha;have h2:=fb b hb;simp only [fC];omega
theorem oE(A B:lIi):(fF A B).length=A.length*B.length:=by
 induction A with
 | nil=>simp [fF]
 | cons a A ih=>simp only [fF,aBB,o8,aAG,r8,Nat.succ_mul] at *;omega
theorem aD4{w:World}{va vb:Value}{A0 B0:lIi}(ha:ArgR w va A0)(hb:ArgR w vb B0)(fa:Fit A0)(fb:Fit B0)(hl1:A0.length+1<=8796093022208)(hl2:B0.length+1<=8796093022208)(hl:A0.length*B0.length+1<=8796093022208) :
  Calls Tryz.prog 88 #[va,vb] w (xE w (fun c=>In A0 c/\In B0 c) (A0.length*B0.length)):=by
 obtain⟨t0,ti,hz0,hz1,hz2⟩:=aW cZ;have H:Hid ((ArgR w va A0/\Fit A0)/\ArgR w vb B0/\Fit B0):=⟨⟨ha,fa⟩,hb,fb⟩;clear ha hb fa fb;go_enter Tryz.func88,Tryz.ntmps88;go_upto_region 5 with first
  |(go_at_call 87;have hx:=X5.out;clear hx;have hih:=lD (H.out.2.1.kept X5.out.2.2.2) H.out.2.2 hl2;(with_reducible refine hih.mono ?_);clear hih;rintro e w6 ⟨v6,B,rfl,h1,h2,h3,h4⟩;obtain⟨qb,cb,rfl⟩:=h1.shape;have X6:Hid (RR w5.heap.size w6 (.slice qb B.length cb) B/\IsC B (In B0)/\B.length<=B0.length/\wBl w5 w6):=⟨h1,h2,h3,h4⟩;clear h1 h2 h3 h4)
  |(go_at_call 87;have hih:=lD H.out.1.1 H.out.1.2 hl1;(with_reducible refine hih.mono ?_);clear hih;rintro e w5 ⟨v5,A,rfl,h1,h2,h3,h4⟩;obtain⟨qa,ca,rfl⟩:=h1.shape;have X5:Hid (RR w.heap.size w5 (.slice qa A.length ca) A/\IsC A (In A0)/\A.length<=A0.length/\wBl w w5):=⟨h1,h2,h3,h4⟩;clear h1 h2 h3 h4)
 rename World=>W1;have hla:=X5.out.2.2.1;have hlb:=X6.out.2.2.1;have HA:Hid (∀ (i:Nat) (r:Int×Int),A[i]?=some r->∃ g off,qa=some (aDr g off)/\g<W1.heap.size/\W1.cell? ⟨g,off+2*i,none⟩=some (.I r.1)/\W1.cell? ⟨g,off+2*i+1,none⟩=some (.I r.2)):=by
  obtain⟨q',cap',e,-,-,hc⟩:=(X5.out.1.kept X6.out.2.2.2).arg.slice;cases e;exact hc
 have HB:Hid (∀ (i:Nat) (r:Int×Int),B[i]?=some r->∃ g off,qb=some (aDr g off)/\g<W1.heap.size/\W1.cell? ⟨g,off+2*i,none⟩=some (.I r.1)/\W1.cell? ⟨g,off+2*i+1,none⟩=some (.I r.2)):=by
  obtain⟨q',cap',e,-,-,hc⟩:=X6.out.1.arg.slice;cases e;exact hc
 have LP:Hid (∀ i,(fF (A.take i) B).length+B.length*(A.length-i)<=A0.length*B0.length\/A.length<i):=fun i=>by
  rcases Nat.lt_or_ge A.length i with h | h
  ·exact .inr h
  ·left
   rw [oE,aAC,Nat.min_eq_left h,aAV B.length,<- Nat.add_mul,Nat.add_sub_cancel' h];exact Nat.mul_le_mul hla hlb
 have BW:Hid (wBl w W1):=aJ X5.out.2.2.2 X6.out.2.2.2 lz9;go_loopw [7,8] (fun ov i wr=>∃ k:Nat,k<=A.length/\i=.I k/\RR W1.heap.size wr ov (fF (A.take k) B)/\wBl W1 wr) (fun _ i _=>A.length-(intOf i).toNat)
 case atStart=>exact⟨0,r9 _,rfl,RR.nil _ _,Below.refl _ _⟩
 case round=>
  obtain⟨k,hk,rfl,hrr,hb⟩:=hrel;have RO:Hid (RR W1.heap.size wr u7 (fF (A.take k) B)):=hrr;have BB:Hid (wBl W1 wr):=hb;clear hrr hb;by_cases hlt:k<A.length
  ·obtain⟨a,ea⟩:∃ r,A[k]?=some r:=⟨_,m7 hlt⟩;obtain⟨ga,oa,rfl,hga,xa1,xa2⟩:=HA.out k _ ea;have PN:Hid (fF (A.take (k+1)) B=fF (A.take k) B++B.map (fC a)):=aE3 ea;rw [aAV] at xa1 xa2;have XA:Hid (W1.cell? ⟨ga,oa+k*2,none⟩=some (.I a.1)/\W1.cell? ⟨ga,oa+k*2+1,none⟩=some (.I a.2)/\ga<W1.heap.size):=⟨xa1,xa2,hga⟩;have LK:Hid ((fF (A.take k) B).length+B.length+1<=8796093022208):=aC (by
    rcases LP.out (k+1) with h | h
    ·have:=PN.out;rw [this,o8,aAG] at h;omega
    ·omega)
   have i0:(0:Int)<=(k:Int):=by omega
   have i1:(k:Int)<(A.length:Int):=by omega
   clear xa1 xa2 hga ea;rename World=>W2;generalize fF (A.take k) B=P at *;go_wp2;go_loopw [7,9] (fun ov i wr=>∃ j:Nat,j<=B.length/\i=.I j/\RR W1.heap.size wr ov (P++(B.take j).map (fC a))/\wBl W1 wr) (fun _ i _=>B.length-(intOf i).toNat)
   case atStart=>exact⟨0,r9 _,rfl,by simpa using RO.out,BB.out⟩
   case round=>
    clear RO BB;obtain⟨j,hj,rfl,hrr,hb⟩:=hrel;obtain⟨qo,co,e3⟩:=hrr.shape;subst e3;obtain⟨O,hO⟩:∃ O,P++(B.take j).map (fC a)=O:=⟨_,rfl⟩;have EO:Hid (P++(B.take j).map (fC a)=O):=hO;rw [hO] at hrr ⊢;have RO:Hid (RR W1.heap.size wr (.slice qo O.length co) O):=hrr;have BB:Hid (wBl W1 wr):=hb;have hbs:=hb.size;have hol:O.length+1<=8796093022208:=(by have:=LK.out;rw [<- hO,o8,aAG,aAC];omega);clear hrr hb hO;by_cases hjlt:j<B.length
    ·obtain⟨b,eb⟩:∃ r,B[j]?=some r:=⟨_,m7 hjlt⟩;obtain⟨gb,ob,rfl,hgb,xb1,xb2⟩:=HB.out j _ eb;have MN:Hid (P++(B.take (j+1)).map (fC a)=O++[fC a b]):=aC (by rw [aY5 eb,<- aAN,EO.out]);rw [aAV] at xb1 xb2;have c1:=(BB.out.cell (p:=⟨ga,oa+k*2,none⟩) XA.out.2.2).trans XA.out.1;have c2:=(BB.out.cell (p:=⟨ga,oa+k*2+1,none⟩) XA.out.2.2).trans XA.out.2.1;have c3:=(BB.out.cell (p:=⟨gb,ob+j*2,none⟩) hgb).trans xb1;have c4:=(BB.out.cell (p:=⟨gb,ob+j*2+1,none⟩) hgb).trans xb2;have s1:ga<wr.heap.size:=o4 XA.out.2.2 hbs;have s2:gb<wr.heap.size:=o4 hgb hbs;obtain⟨a1,ha1⟩:∃ x,a.1=x:=⟨_,rfl⟩;obtain⟨a2,ha2⟩:∃ x,a.2=x:=⟨_,rfl⟩;obtain⟨b1,hb1⟩:∃ x,b.1=x:=⟨_,rfl⟩;obtain⟨b2,hb2⟩:∃ x,b.2=x:=⟨_,rfl⟩;rw [ha1] at c1;rw [ha2] at c2;rw [hb1] at c3;rw [hb2] at c4;obtain⟨cr,hcr⟩:∃ cr,fC a b=cr:=⟨_,rfl⟩;have hmx:∀ t ty w,(Builtin.max_ t ty #[.I a1,.I b1]).run Tryz.prog w=.ok (.I cr.1) w:=fun t ty w=>by rw [iW,<- hcr,<- ha1,<- hb1];rfl
     have hmn:∀ t ty w,(Builtin.min_ t ty #[.I a2,.I b2]).run Tryz.prog w=.ok (.I cr.2) w:=fun t ty w=>by rw [oI,<- hcr,<- ha2,<- hb2];rfl
     have MN2:Hid (P++(B.take (j+1)).map (fC a)=O++[(cr.1,cr.2)]):=aC (by rw [MN.out,hcr]);have j0:(0:Int)<=(j:Int):=(by omega);have j1:(j:Int)<(B.length:Int):=(by omega);have RD:Hid (RR W1.heap.size wr.drew (.slice qo O.length co) O):=aCA RO.out;have BD:Hid (wBl W1 wr.drew):=BB.out.drew;have ne1:=World.new_ne wr _ c1;have ne3:=World.new_ne wr _ c3;have XK:Hid (W1.cell? ⟨ga,oa+k*2,none⟩=some (.I a1)/\W1.cell? ⟨ga,oa+k*2+1,none⟩=some (.I a2)/\W1.cell? ⟨gb,ob+j*2,none⟩=some (.I b1)/\W1.cell? ⟨gb,ob+j*2+1,none⟩=some (.I b2)/\gb<W1.heap.size):=⟨by rw [<- ha1];exact XA.out.1,by rw [<- ha2];exact XA.out.2.1,by rw [<- hb1];exact xb1,by rw [<- hb2];exact xb2,hgb⟩;clear xb1 xb2 eb hgb MN ha1 ha2 hb1 hb2 hcr;have QC:Hid (∀ w',wBl W1 w'->w'.cell? ⟨ga,oa+k*2,none⟩=some (.I a1)/\w'.cell? ⟨ga,oa+k*2+1,none⟩=some (.I a2)/\w'.cell? ⟨gb,ob+j*2,none⟩=some (.I b1)/\w'.cell? ⟨gb,ob+j*2+1,none⟩=some (.I b2)):=fun w' hb=>⟨(hb.cell (p:=⟨ga,oa+k*2,none⟩) XA.out.2.2).trans XK.out.1,(hb.cell (p:=⟨ga,oa+k*2+1,none⟩) XA.out.2.2).trans XK.out.2.1,(hb.cell (p:=⟨gb,ob+j*2,none⟩) XK.out.2.2.2.2).trans XK.out.2.2.1,(hb.cell (p:=⟨gb,ob+j*2+1,none⟩) XK.out.2.2.2.2).trans XK.out.2.2.2.1⟩;clear c1 c2 c3 c4;go_wp2;refine wp_region_held_drew (S:=fun w'=>wBl W1 w') (by kernel_rfl) BD.out (fun hHeld=>?_);refine aCQ (v:=?_) 0 ?_ ?_;rotate_left
     ·intro wz hSw;obtain⟨q1,q2,q3,q4⟩:=QC.out wz hSw;clear hSw;go_simp;try with_reducible rfl
     dsimp only [Act.put,i7,g8,g9];simp only [g4,i9,i8];refine aCQ (v:=?_) 1 ?_ ?_;rotate_left
     ·intro wz hSw;obtain⟨q1,q2,q3,q4⟩:=QC.out wz hSw;clear hSw;go_simp;try with_reducible rfl
     dsimp only [Act.put,i7,g8,g9];simp only [g4,i9,i8];refine aCQ (v:=?_) 2 ?_ ?_;rotate_left
     ·intro wz hSw;obtain⟨q1,q2,q3,q4⟩:=QC.out wz hSw;clear hSw;go_simp;try with_reducible rfl
     dsimp only [Act.put,i7,g8,g9];simp only [g4,i9,i8];refine aCQ (v:=?_) 3 ?_ ?_;rotate_left
     ·intro wz hSw;obtain⟨q1,q2,q3,q4⟩:=QC.out wz hSw;clear hSw;go_simp;try with_reducible rfl
     dsimp only [Act.put,i7,g8,g9];simp only [g4,i9,i8];refine aCQ (v:=?_) 4 ?_ ?_;rotate_left
     ·intro wz hSw;obtain⟨q1,q2,q3,q4⟩:=QC.out wz hSw;clear hSw;go_simp;try with_reducible rfl
     dsimp only [Act.put,i7,g8,g9];simp only [g4,i9,i8];refine aCQ (v:=?_) 5 ?_ ?_;rotate_left
     ·intro wz hSw;obtain⟨q1,q2,q3,q4⟩:=QC.out wz hSw;clear hSw;go_simp;try with_reducible rfl
     dsimp only [Act.put,i7,g8,g9];simp only [g4,i9,i8];refine aCQ (v:=?_) 6 ?_ ?_;rotate_left
     ·intro wz hSw;obtain⟨q1,q2,q3,q4⟩:=QC.out wz hSw;clear hSw;go_simp;try with_reducible rfl
     dsimp only [Act.put,i7,g8,g9];simp only [g4,i9,i8];refine aCQ (v:=?_) 7 ?_ ?_;rotate_left
     ·intro wz hSw;obtain⟨q1,q2,q3,q4⟩:=QC.out wz hSw;clear hSw;go_simp;try with_reducible rfl
     dsimp only [Act.put,i7,g8,g9];simp only [g4,i9,i8];refine aCQ (v:=?_) 8 ?_ ?_;rotate_left
     ·intro wz hSw;obtain⟨q1,q2,q3,q4⟩:=QC.out wz hSw;clear hSw;go_simp;try with_reducible rfl
     dsimp only [Act.put,i7,g8,g9];simp only [g4,i9,i8];refine aCQ (v:=?_) 9 ?_ ?_;rotate_left
     ·intro wz hSw;obtain⟨q1,q2,q3,q4⟩:=QC.out wz hSw;clear hSw;go_simp;try with_reducible rfl
     dsimp only [Act.put,i7,g8,g9];simp only [g4,i9,i8];refine aCQ (v:=?_) 10 ?_ ?_;rotate_left
     ·intro wz hSw;obtain⟨q1,q2,q3,q4⟩:=QC.out wz hSw;clear hSw;go_simp;try with_reducible rfl
     dsimp only [Act.put,i7,g8,g9];simp only [g4,i9,i8];refine aCQ (v:=?_) 11 ?_ ?_;rotate_left
     ·intro wz hSw;obtain⟨q1,q2,q3,q4⟩:=QC.out wz hSw;clear hSw;go_simp;try with_reducible rfl
     dsimp only [Act.put,i7,g8,g9];simp only [g4,i9,i8];refine aCQ (v:=?_) 12 ?_ ?_;rotate_left
     ·intro wz hSw;obtain⟨q1,q2,q3,q4⟩:=QC.out wz hSw;clear hSw;go_simp;try with_reducible rfl
     dsimp only [Act.put,i7,g8,g9];simp only [g4,i9,i8];refine aCQ (v:=?_) 13 ?_ ?_;rotate_left
     ·intro wz hSw;obtain⟨q1,q2,q3,q4⟩:=QC.out wz hSw;clear hSw;go_simp;try with_reducible rfl
     dsimp only [Act.put,i7,g8,g9];simp only [g4,i9,i8];refine aCQ (v:=?_) 14 ?_ ?_;rotate_left
     ·intro wz hSw;obtain⟨q1,q2,q3,q4⟩:=QC.out wz hSw;clear hSw;go_simp;try with_reducible rfl
     dsimp only [Act.put,i7,g8,g9];simp only [g4,i9,i8];refine aCQ (v:=?_) 15 ?_ ?_;rotate_left
     ·intro wz hSw;obtain⟨q1,q2,q3,q4⟩:=QC.out wz hSw;clear hSw;go_simp;try with_reducible rfl
     dsimp only [Act.put,i7,g8,g9];simp only [g4,i9,i8];refine aCQ (v:=?_) 16 ?_ ?_;rotate_left
     ·intro wz hSw;obtain⟨q1,q2,q3,q4⟩:=QC.out wz hSw;clear hSw;go_simp;try with_reducible rfl
     dsimp only [Act.put,i7,g8,g9];simp only [g4,i9,i8];refine aCQ (v:=?_) 17 ?_ ?_;rotate_left
     ·intro wz hSw;obtain⟨q1,q2,q3,q4⟩:=QC.out wz hSw;clear hSw;go_simp;try with_reducible rfl
     dsimp only [Act.put,i7,g8,g9];simp only [g4,i9,i8];refine aCQ (v:=?_) 18 ?_ ?_;rotate_left
     ·intro wz hSw;obtain⟨q1,q2,q3,q4⟩:=QC.out wz hSw;clear hSw;go_simp;try with_reducible rfl
     dsimp only [Act.put,i7,g8,g9];simp only [g4,i9,i8];refine aCQ (v:=?_) 19 ?_ ?_;rotate_left
     ·intro wz hSw;obtain⟨q1,q2,q3,q4⟩:=QC.out wz hSw;clear hSw;go_simp;try with_reducible rfl
     dsimp only [Act.put,i7,g8,g9];simp only [g4,i9,i8];refine aCQ (v:=?_) 20 ?_ ?_;rotate_left
     ·intro wz hSw;obtain⟨q1,q2,q3,q4⟩:=QC.out wz hSw;clear hSw;go_simp;try with_reducible rfl
     dsimp only [Act.put,i7,g8,g9];simp only [g4,i9,i8];refine aCQ (v:=?_) 21 ?_ ?_;rotate_left
     ·intro wz hSw;obtain⟨q1,q2,q3,q4⟩:=QC.out wz hSw;clear hSw;go_simp;try with_reducible rfl
     dsimp only [Act.put,i7,g8,g9];simp only [g4,i9,i8];refine aCQ (v:=?_) 22 ?_ ?_;rotate_left
     ·intro wz hSw;obtain⟨q1,q2,q3,q4⟩:=QC.out wz hSw;clear hSw;go_simp;try with_reducible rfl
     dsimp only [Act.put,i7,g8,g9];simp only [g4,i9,i8];refine aCQ (v:=?_) 23 ?_ ?_;rotate_left
     ·intro wz hSw;obtain⟨q1,q2,q3,q4⟩:=QC.out wz hSw;clear hSw;go_simp;try with_reducible rfl
     dsimp only [Act.put,i7,g8,g9];simp only [g4,i9,i8];refine wpAnyH_ready (rs:=[24]) (by kernel_rfl) (by simp) ?_;refine AllReadyH.cons rfl (fun K hK=>?_) AllReadyH.nil;go_simp;refine hK.out _ _ (BD.out.alloc (by simp;omega) _) (fun hHeld2=>?_);clear hK K;refine wpAnyH_ready (rs:=[25]) (by kernel_rfl) (by simp) ?_;refine AllReadyH.cons rfl (fun K hK=>?_) AllReadyH.nil;refine aY rfl _ _ 22 rfl W1.heap.size 92 t0 (.agg #[.I 0,.I 0]) 2 16 bG ti hz0 hz1 hz2 rfl (by decide) (.slice qo O.length co) O.length (aS O) (by simp [Act.eval]) (o9 RD.out (.cells #[.I cr.1,.I cr.2] 92)) (aDr wr.heap.size 0) 1 1 [.I cr.1,.I cr.2] (by simp [Act.eval]) rfl (kT _ _ _ _) (by simp [Value.oneCell']) (by unfold maxLen;omega) (by omega) (by simp;omega) ?_;intro v' w6 hown' hgrow hblk;obtain⟨g6,cap6,rfl⟩:=aL hown' (aAM _);have A6:Hid (RR W1.heap.size w6 (.slice (some (aDr g6 0)) (O.length+1) cap6) (O++[(cr.1,cr.2)])):=pR hown';have B6:Hid (wBl W1 w6):=cU (BD.out.alloc (by simp;omega) _) (o9 RD.out _) hgrow;clear hown' hgrow hblk;refine hK.out _ _ B6.out (fun hHeld3=>?_);clear hK K;refine wpAnyH_ready (rs:=[26]) (by kernel_rfl) (by simp) ?_;refine AllReadyH.cons rfl (fun K hK=>?_) AllReadyH.nil;go_simp;refine hK.out _ _ B6.out (fun hHeld4=>?_);clear hK K;refine wpAnyH_done (by kernel_rfl) ?_ _
     all_goals (
      go_wp2;go_roundw
      case rel=>exact⟨j+1,by omega,by go_num,mD MN2.out.symm A6.out,B6.out⟩
      case measure=>simp [intOf];omega)
    ·have j1:¬ (j:Int)<(B.length:Int):=by omega
     have EE:Hid (fF (A.take (k+1)) B=O):=aC (by rw [PN.out,<- EO.out,n9 (by omega)]);go_wp2;go_roundw
     case rel=>exact⟨k+1,by omega,by go_num,mD EE.out.symm RO.out,BB.out⟩
     case measure=>simp [intOf];omega
  ·have i1:¬ (k:Int)<(A.length:Int):=by omega
   have E:Hid (A.take k=A):=aC (n9 (by omega));rw [E.out] at RO;have LN:Hid ((fF A B).length<=A0.length*B0.length):=aC (by rw [oE];exact Nat.mul_le_mul hla hlb);go_wp2_with (go_at_call 87;refine(lD RO.out.arg (aR3 X5.out.2.1.fit X6.out.2.1.fit) (by have:=LN.out;omega)).mono ?_;rintro e w7 ⟨v7,C,rfl,h1,h2,h3,h4⟩;have X7:Hid (RR wr.heap.size w7 v7 C/\IsC C (In (fF A B))/\C.length<=(fF A B).length/\wBl wr w7):=⟨h1,h2,h3,h4⟩;clear h1 h2 h3 h4)
   go_ret;have BZ:=aJ BW.out BB.out lz9;refine⟨_,_,rfl,X7.out.1.mono BZ.size,X7.out.2.1.to fun c=>?_,m9 X7.out.2.2.1 LN.out,aJ BZ X7.out.2.2.2 lz9⟩;rw [bA0,X5.out.2.1.mem,X6.out.2.1.mem]
end
section
attribute [local go_sem] aT
structure LW(W1 wr:World)(rb:Nat)(l hi:Int)(ov:Value)(L:lIi):Prop where
 own:RR W1.heap.size wr ov L
 box:wr.heap[rb]?=some (.cells #[.I l,.I hi] 92 (0,0))
 ne:ov.ownBlock≠some rb
 bel:wBl W1 wr
 new:W1.heap.size<=rb
end
theorem pG(W:World)(o:Obj):wBl W (W.alloc o):=bz9
theorem bR4(m:Bool)(w:World):Calls Tryz.prog 110 #[.bool m] w fun e w'=>∃ v,e=.returned v/\RR w.heap.size w' v (dJ m)/\wBl w w':=by
 cases m with
 | true=>
  go_enter Tryz.func110,Tryz.ntmps110;go_wp2;go_ret;exact⟨_,rfl,World.ownsRow_lit w #[.I 0,.I 55295,.I 57344,.I 1114111] 2 lz9 (by unfold maxLen;omega) rfl,bz9⟩
 | false=>
  go_enter Tryz.func110,Tryz.ntmps110;go_wp2;go_ret;exact⟨_,rfl,World.ownsRow_lit w #[.I 0,.I 255] 1 lz9 (by unfold maxLen;omega) rfl,bz9⟩
theorem bI0{w:World}{v:Value}{L:lIi}{m:Bool}(h:ArgR w v L)(hF:Fit L)(hl:L.length<=1048580) :
  Calls Tryz.prog 86 #[v,.bool m] w (xE w (fun c=>In L c/\bS m c) (L.length*(dJ m).length)):=by
 have H:Hid (ArgR w v L/\Fit L):=⟨h,hF⟩;have hc:=jB m;have HM:Hid (L.length*(dJ m).length+1<=8796093022208):=aC (by have:=Nat.mul_le_mul hl hc;omega);clear h hF;go_enter Tryz.func86,Tryz.ntmps86;go_wp2_with first
  |(go_at_call 110;refine(bR4 m _).mono ?_;rintro e w5 ⟨v5,rfl,h1,h2⟩;have X5:Hid (RR w.heap.size w5 v5 (dJ m)/\wBl w w5):=⟨h1,h2⟩;clear h1 h2)
  |(go_at_call 88;refine(aD4 (H.out.1.kept X5.out.2) X5.out.1.arg H.out.2 (jS m).fit (by omega) (by omega) HM.out).mono ?_;rintro e w6 ⟨v6,C6,rfl,h1,h2,h3,h4⟩;have X6:Hid (RR w5.heap.size w6 v6 C6/\IsC C6 (fun c=>In L c/\In (dJ m) c)/\C6.length<=L.length*(dJ m).length/\wBl w5 w6):=⟨h1,h2,h3,h4⟩;clear h1 h2 h3 h4)
 go_ret;exact⟨_,_,rfl,X6.out.1.mono X5.out.2.size,X6.out.2.1.to fun c=>by rw [(jS m).mem],X6.out.2.2.1,aJ X5.out.2 X6.out.2.2.2 lz9⟩
theorem aW5{w:World}{v:Value}{L:lIi}{m:Bool}(h:ArgR w v L)(hF:Fit L)(hl:L.length<=1048580) :
  Calls Tryz.prog 46 #[v,.bool m] w fun e w'=>∃ b:Bool,e=.returned (.bool b)/\(b=true↔IsC L (fun c=>In L c/\bS m c))/\wBl w w':=by
 have H:Hid (ArgR w v L/\Fit L):=⟨h,hF⟩;clear h hF;go_enter Tryz.func46,Tryz.ntmps46;go_wp2_with first
  |(go_at_call 86;refine(bI0 H.out.1 H.out.2 hl).mono ?_;rintro e w5 ⟨v5,C5,rfl,h1,h2,h3,h4⟩;have X5:Hid (RR w.heap.size w5 v5 C5/\IsC C5 (fun c=>In L c/\bS m c)/\wBl w w5):=⟨h1,h2,h4⟩;clear h1 h2 h3 h4)
  |(go_at_call 48;refine(aL8 (H.out.1.kept X5.out.2.2) X5.out.1.arg).mono ?_;obtain⟨bb,hbb⟩:∃ bb,decide (L=C5)=bb:=⟨_,rfl⟩;rw [hbb];have EB:Hid (decide (L=C5)=bb):=hbb;clear hbb;rintro e w7 ⟨rfl,h1⟩;have X7:Hid (wBl w5 w7):=h1;clear h1)
 go_ret;refine⟨bb,rfl,?_,aJ X5.out.2.2 X7.out lz9⟩;rw [<- EB.out,decide_eq_true_iff];constructor
 ·intro e;have h2:=X5.out.2.1;rw [<- e] at h2;exact h2
 ·intro e;exact e.one X5.out.2.1 fun _=>Iff.rfl
def shL(G:lIi)(j:Nat)(d:Int):lIi:=(G.take j).map fun r=>(r.1+d,r.2+d)
theorem xY{G:lIi}{j:Nat}{r:Int×Int}(h:G[j]?=some r)(d:Int):shL G (j+1) d=shL G j d++[(r.1+d,r.2+d)]:=by
 obtain⟨hk,rfl⟩:=m8.1 h;unfold shL;rw [dM G j hk,aBU]
 rfl
theorem aJ8(W:World)(a b:Int):ArgR (W.alloc (.cells #[.I a,.I b] 92)) (.slice (some (aDr W.heap.size 0)) 1 1) [(a,b)]:=
 RR.arg (base:=W.heap.size) (World.ownsRow_lit W #[.I a,.I b] 1 lz9 (by unfold maxLen;omega) rfl)
theorem bO1{C L:lIi}{a b:Int}(h:IsC C (fun c=>In L c/\In [(a,b)] c)):∀ (i:Nat) (r:Int×Int),C[i]?=some r->(a<=r.1/\r.1<=b)/\(a<=r.2/\r.2<=b):=fun i r hr=>by
 have hm:=n8 hr;have hs:=h.cls.some r hm;have p:=((h.mem r.1).1 ⟨r,hm,aAK _,hs⟩).2;have q:=((h.mem r.2).1 ⟨r,hm,hs,aAK _⟩).2;rw [eE] at p q;exact⟨p,q⟩
def aP7(w w4:World)(k:Nat):Prop:=w.heap.size<=k/\k<w4.heap.size
theorem mP{w w':World}{k:Nat}(h:w'.heap[k]?=w.heap[k]?)(o:Nat):w'.cell? (aDr k o)=w.cell? (aDr k o):=by unfold World.cell?;simp only [h]
structure FW(w w4 W1 wr:World)(ov:Value)(O:lIi):Prop where
 own:RR w.heap.size wr ov O
 fr:Fr (aP7 w w4) W1 wr
 at':∀ g,ov.ownBlock=some g->aP7 w w4 g\/W1.heap.size<=g
theorem FW.drew{w w4 W1 wr:World}{ov:Value}{O:lIi}(h:FW w w4 W1 wr ov O):FW w w4 W1 wr.drew ov O:=⟨aCA h.own,h.fr.drew,h.at'⟩
theorem FW.app{w w4 W1 wr w6:World}{q:Option Addr}{co:Nat}{L:lIi}{o:Obj}{g6 cap6:Nat}{a b:Int}(h:FW w w4 W1 wr (.slice q L.length co) L)(hg:(wr.alloc o).grownBy w6 (Value.slice q L.length co).ownBlock)
  (ho:w6.ownsRow w.heap.size 92 2 (.slice (some (aDr g6 0)) (L.length+1) cap6) (L.length+1) (aS L++[.I a,.I b]))
  (hb:(Value.slice (some (aDr g6 0)) (L.length+1) cap6).ownBlock=(Value.slice q L.length co).ownBlock\/(Value.slice (some (aDr g6 0)) (L.length+1) cap6).ownBlock=some (wr.alloc o).heap.size):FW w w4 W1 w6 (.slice (some (aDr g6 0)) (L.length+1) cap6) (L++[(a,b)]):=by
 refine⟨pR ho,?_,fun g e=>?_⟩
 ·refine⟨hg.os.trans h.fr.os,hg.tape.trans h.fr.tape,hg.output.trans h.fr.output,m9 h.fr.size (m9 (by simp) hg.size),fun k hk hs=>?_⟩;have hkr:k<wr.heap.size:=o4 hk h.fr.size;refine(hg.block k (by simp;omega) (fun e=>?_)).trans ((Below.heap_alloc _ _ _ hkr).trans (h.fr.block k hk hs));rcases h.at' k e.symm with q | q
  ·exact hs q
  ·omega
 ·rcases hb with hb | hb
  ·rw [hb] at e;exact h.at' g e
  ·rw [hb] at e;cases e;exact .inr (m9 h.fr.size (by simp))
theorem vB{W:World}{q:Option Addr}{n k:Nat}{L:lIi}(h:ArgR W (.slice q n k) L){lo:Nat}(hlo:∀ g,(Value.slice q n k).ownBlock=some g->lo<=g):∀ (i:Nat) (r:Int×Int),L[i]?=some r->∃ g off,q=some (aDr g off)/\lo<=g/\g<W.heap.size/\W.cell? ⟨g,off+i*2,none⟩=some (.I r.1)/\W.cell? ⟨g,off+i*2+1,none⟩=some (.I r.2):=fun i r hi=>by
 obtain⟨q',c',e,-,-,hc⟩:=h.slice;cases e;obtain⟨g,off,rfl,h1,h2,h3⟩:=hc i r hi;rw [aAV] at h2 h3;exact⟨g,off,rfl,hlo g rfl,h1,h2,h3⟩
theorem bI2{w:World}{v:Value}{L:lIi}(h:ArgR w v L)(hF:Fit L)(hl:L.length<=1048580) :
  Calls Tryz.prog 47 #[v] w (xE w (oW L) (3*L.length)):=by
 obtain⟨t0,ti,hz0,hz1,hz2⟩:=aW cZ;have H:Hid (ArgR w v L/\Fit L):=⟨h,hF⟩;clear h hF;go_enter Tryz.func47,Tryz.ntmps47;go_upto_region 5 with first
  |(go_at_call 87;refine(lD H.out.1 H.out.2 (by omega)).mono ?_;rintro e w4 ⟨v4,C,rfl,h1,h2,h3,h4⟩;obtain⟨qc,cc,rfl⟩:=h1.shape;have X4:Hid (RR w.heap.size w4 (.slice qc C.length cc) C/\IsC C (In L)/\C.length<=L.length/\wBl w w4):=⟨h1,h2,h3,h4⟩;clear h1 h2 h3 h4)
  |(go_at_call 88;have hx:=X5.out;clear hx;have hih:=aD4 (((H.out.1.kept X4.out.2.2.2).kept X5.out.2.2.2).kept (pG w5 (.cells #[.int .i64 97,.int .i64 122] 92))) (aJ8 w5 97 122) H.out.2 (oX (by omega)) (by omega) (by simp) (by simp;omega);(with_reducible refine hih.mono ?_);clear hih;rintro e w6 ⟨v6,S,rfl,h1,h2,h3,h4⟩;obtain⟨qs,cs,rfl⟩:=h1.shape;have X6:Hid (RR w5.heap.size w6 (.slice qs S.length cs) S/\IsC S (fun c=>In L c/\In [(97,122)] c)/\S.length<=L.length/\wBl w5 w6):=⟨h1.mono (by simp),h2,(by simpa using h3),(pG w5 _).trans (h4.mono (by simp))⟩;clear h1 h2 h3 h4)
  |(go_at_call 88;have hih:=aD4 ((H.out.1.kept X4.out.2.2.2).kept (pG w4 (.cells #[.int .i64 65,.int .i64 90] 92))) (aJ8 w4 65 90) H.out.2 (oX (by omega)) (by omega) (by simp) (by simp;omega);(with_reducible refine hih.mono ?_);clear hih;rintro e w5 ⟨v5,G,rfl,h1,h2,h3,h4⟩;obtain⟨qg,cg,rfl⟩:=h1.shape;have X5:Hid (RR w4.heap.size w5 (.slice qg G.length cg) G/\IsC G (fun c=>In L c/\In [(65,90)] c)/\G.length<=L.length/\wBl w4 w5):=⟨h1.mono (by simp),h2,(by simpa using h3),(pG w4 _).trans (h4.mono (by simp))⟩;clear h1 h2 h3 h4)
 rename World=>W1;have BTW:Hid (wBl w W1):=aJ (aJ X4.out.2.2.2 X5.out.2.2.2 lz9) X6.out.2.2.2 lz9;have B4W:Hid (wBl w4 W1):=aJ X5.out.2.2.2 X6.out.2.2.2 lz9;have HGG:Hid _:=vB (X5.out.1.kept X6.out.2.2.2).arg (lo:=w4.heap.size) (fun g e=>(aF X5.out.1 e).1);have HGS:Hid _:=vB X6.out.1.arg (lo:=w4.heap.size) (fun g e=>m9 X5.out.2.2.2.size (aF X6.out.1 e).1);have BDG:Hid _:=bO1 X5.out.2.1;have BDS:Hid _:=bO1 X6.out.2.1;have hcl:=X4.out.2.2.1;have hgl:=X5.out.2.2.1;have hsl:=X6.out.2.2.1;have ST:Hid (FW w w4 W1 W1 (.slice qc C.length cc) C):=⟨X4.out.1.kept B4W.out,Fr.refl _ _,fun g e=>.inl ⟨(aF X4.out.1 e).1,(aF X4.out.1 e).2.1⟩⟩;go_wp2;go_loopw [3,6] (fun ov i wr=>∃ j:Nat,j<=G.length/\i=.I j/\FW w w4 W1 wr ov (C++shL G j 32)) (fun _ i _=>G.length-(intOf i).toNat)
 case atStart=>exact⟨0,r9 _,rfl,by simpa [shL] using ST.out⟩
 case round=>
  obtain⟨j,hj,rfl,hW⟩:=hrel;obtain⟨qo,co,e3⟩:=hW.own.shape;subst e3;by_cases hlt:j<G.length
  ·obtain⟨O,hO⟩:∃ O,C++shL G j 32=O:=⟨_,rfl⟩;have EO:Hid (C++shL G j 32=O):=hO;rw [hO] at hW ⊢;have M0:Hid (FW w w4 W1 wr (.slice qo O.length co) O):=hW;have hol:O.length+1<=8796093022208:=(by rw [<- hO];simp [shL];omega);clear hW hO;obtain⟨r,er⟩:∃ r,G[j]?=some r:=⟨_,m7 hlt⟩;obtain⟨gg,og,rfl,hg4,hgg,z1,z2⟩:=HGG.out j _ er;have hbd:=BDG.out j r er;have NXT:Hid (shL G (j+1) (32)=shL G j (32)++[(r.1+(32),r.2+(32))]):=xY er (32);obtain⟨lo,hi⟩:=r;dsimp only at z1 z2 hbd NXT;have wa:IntKind.wrap .i64 (lo+32)=lo+32:=(by rw [IntKind.wrap_i64];omega);have wb:IntKind.wrap .i64 (hi+32)=hi+32:=(by rw [IntKind.wrap_i64];omega);have j0:(0:Int)<=(j:Int):=(by omega);have j1:(j:Int)<(G.length:Int):=(by omega);have QC:Hid (∀ w',Fr (aP7 w w4) W1 w'->w'.cell? ⟨gg,og+j*2,none⟩=some (.I lo)/\w'.cell? ⟨gg,og+j*2+1,none⟩=some (.I hi)):=fun w' hf=>by
    have hbk:=hf.block gg hgg (fun q=>by have:=q.2;omega);exact⟨(mP hbk _).trans z1,(mP hbk _).trans z2⟩
   have MD:Hid (FW w w4 W1 wr.drew (.slice qo O.length co) O):=M0.out.drew;have hw1:w.heap.size<=wr.heap.size:=m9 BTW.out.size M0.out.fr.size;clear z1 z2 er;go_wp2;refine wp_region_held_drew (S:=fun w'=>Fr (aP7 w w4) W1 w') (by kernel_rfl) MD.out.fr (fun hHeld=>?_);refine aCQ (v:=?_) 0 ?_ ?_;rotate_left
   ·intro wz hSw;obtain⟨q1,q2⟩:=QC.out wz hSw;clear hSw;go_simp;try with_reducible rfl
   dsimp only [Act.put,i7,g8,g9];simp only [g4,i9,i8];refine aCQ (v:=?_) 1 ?_ ?_;rotate_left
   ·intro wz hSw;obtain⟨q1,q2⟩:=QC.out wz hSw;clear hSw;go_simp;try with_reducible rfl
   dsimp only [Act.put,i7,g8,g9];simp only [g4,i9,i8];refine aCQ (v:=?_) 2 ?_ ?_;rotate_left
   ·intro wz hSw;obtain⟨q1,q2⟩:=QC.out wz hSw;clear hSw;go_simp;try with_reducible rfl
   dsimp only [Act.put,i7,g8,g9];simp only [g4,i9,i8];refine aCQ (v:=?_) 3 ?_ ?_;rotate_left
   ·intro wz hSw;obtain⟨q1,q2⟩:=QC.out wz hSw;clear hSw;go_simp;try with_reducible rfl
   dsimp only [Act.put,i7,g8,g9];simp only [g4,i9,i8];refine aCQ (v:=?_) 4 ?_ ?_;rotate_left
   ·intro wz hSw;obtain⟨q1,q2⟩:=QC.out wz hSw;clear hSw;go_simp;try with_reducible rfl
   dsimp only [Act.put,i7,g8,g9];simp only [g4,i9,i8];refine aCQ (v:=?_) 5 ?_ ?_;rotate_left
   ·intro wz hSw;obtain⟨q1,q2⟩:=QC.out wz hSw;clear hSw;go_simp;try with_reducible rfl
   dsimp only [Act.put,i7,g8,g9];simp only [g4,i9,i8];refine aCQ (v:=?_) 6 ?_ ?_;rotate_left
   ·intro wz hSw;obtain⟨q1,q2⟩:=QC.out wz hSw;clear hSw;go_simp;try with_reducible rfl
   dsimp only [Act.put,i7,g8,g9];simp only [g4,i9,i8];refine aCQ (v:=?_) 7 ?_ ?_;rotate_left
   ·intro wz hSw;obtain⟨q1,q2⟩:=QC.out wz hSw;clear hSw;go_simp;try with_reducible rfl
   dsimp only [Act.put,i7,g8,g9];simp only [g4,i9,i8];refine aCQ (v:=?_) 8 ?_ ?_;rotate_left
   ·intro wz hSw;obtain⟨q1,q2⟩:=QC.out wz hSw;clear hSw;go_simp;try with_reducible rfl
   dsimp only [Act.put,i7,g8,g9];simp only [g4,i9,i8];refine aCQ (v:=?_) 9 ?_ ?_;rotate_left
   ·intro wz hSw;obtain⟨q1,q2⟩:=QC.out wz hSw;clear hSw;go_simp;try with_reducible rfl
   dsimp only [Act.put,i7,g8,g9];simp only [g4,i9,i8];refine aCQ (v:=?_) 10 ?_ ?_;rotate_left
   ·intro wz hSw;obtain⟨q1,q2⟩:=QC.out wz hSw;clear hSw;go_simp;try with_reducible rfl
   dsimp only [Act.put,i7,g8,g9];simp only [g4,i9,i8];refine aCQ (v:=?_) 11 ?_ ?_;rotate_left
   ·intro wz hSw;obtain⟨q1,q2⟩:=QC.out wz hSw;clear hSw;go_simp;try with_reducible rfl
   dsimp only [Act.put,i7,g8,g9];simp only [g4,i9,i8];refine aCQ (v:=?_) 12 ?_ ?_;rotate_left
   ·intro wz hSw;obtain⟨q1,q2⟩:=QC.out wz hSw;clear hSw;go_simp;try with_reducible rfl
   dsimp only [Act.put,i7,g8,g9];simp only [g4,i9,i8];refine aCQ (v:=?_) 13 ?_ ?_;rotate_left
   ·intro wz hSw;obtain⟨q1,q2⟩:=QC.out wz hSw;clear hSw;go_simp;try with_reducible rfl
   dsimp only [Act.put,i7,g8,g9];simp only [g4,i9,i8];refine wpAnyH_ready (rs:=[14]) (by kernel_rfl) (by simp) ?_;refine AllReadyH.cons rfl (fun K hK=>?_) AllReadyH.nil;go_simp;refine hK.out _ _ (MD.out.fr.alloc _) (fun hHeld2=>?_);clear hK K;refine wpAnyH_ready (rs:=[15]) (by kernel_rfl) (by simp) ?_;refine AllReadyH.cons rfl (fun K hK=>?_) AllReadyH.nil;refine aY rfl _ _ 22 rfl w.heap.size 92 t0 (.agg #[.I 0,.I 0]) 2 16 bG ti hz0 hz1 hz2 rfl (by decide) (.slice qo O.length co) O.length (aS O) (by simp [Act.eval]) (o9 MD.out.own (.cells #[.I (lo+32),.I (hi+32)] 92)) (aDr wr.heap.size 0) 1 1 [.I (lo+32),.I (hi+32)] (by simp [Act.eval]) rfl (kT _ _ _ _) (by simp [Value.oneCell']) (by unfold maxLen;omega) (by omega) (by simp;omega) ?_;intro v' w6' hown' hgrow hblk;obtain⟨g6,cap6,rfl⟩:=aL hown' (aAM _);have M6:Hid (FW w w4 W1 w6' (.slice (some (aDr g6 0)) (O.length+1) cap6) (O++[(lo+32,hi+32)])):=MD.out.app hgrow hown' hblk;clear hown' hgrow hblk;refine hK.out _ _ M6.out.fr (fun hHeld3=>?_);clear hK K;refine wpAnyH_ready (rs:=[16]) (by kernel_rfl) (by simp) ?_;refine AllReadyH.cons rfl (fun K hK=>?_) AllReadyH.nil;go_simp;refine hK.out _ _ M6.out.fr (fun hHeld4=>?_);clear hK K;refine wpAnyH_done (by kernel_rfl) ?_ _;go_wp2;go_roundw
   case rel=>exact⟨j+1,by omega,by go_num,by rw [NXT.out,<- aAN,EO.out];exact M6.out⟩
   case measure=>simp [intOf];omega
  ·have j1:¬ (j:Int)<(G.length:Int):=by omega
   have EJ:Hid (shL G j 32=shL G G.length 32):=aC (by unfold shL;rw [n9 (by omega),aBG]);rw [EJ.out] at hW ⊢;obtain⟨C2,hC2⟩:∃ C2,C++shL G G.length 32=C2:=⟨_,rfl⟩;have EC:Hid (C++shL G G.length 32=C2):=hC2;have hc2:C2.length<=2*L.length:=(by rw [<- hC2];simp [shL];omega);rw [hC2] at hW ⊢;have ST2:Hid (FW w w4 W1 wr (.slice qo C2.length co) C2):=hW;clear hW hC2;rename World=>W5;go_wp2;go_loopw [3,7] (fun ov i wr=>∃ j:Nat,j<=S.length/\i=.I j/\FW w w4 W1 wr ov (C2++shL S j (-32))) (fun _ i _=>S.length-(intOf i).toNat)
   case atStart=>exact⟨0,r9 _,rfl,by simpa [shL] using ST2.out⟩
   case round=>
    clear ST2;obtain⟨j,hj,rfl,hW⟩:=hrel;obtain⟨qo,co,e3⟩:=hW.own.shape;subst e3;by_cases hlt:j<S.length
    ·obtain⟨O,hO⟩:∃ O,C2++shL S j (-32)=O:=⟨_,rfl⟩;have EO:Hid (C2++shL S j (-32)=O):=hO;rw [hO] at hW ⊢;have M0:Hid (FW w w4 W1 wr (.slice qo O.length co) O):=hW;have hol:O.length+1<=8796093022208:=(by rw [<- hO];simp [shL];omega);clear hW hO;obtain⟨r,er⟩:∃ r,S[j]?=some r:=⟨_,m7 hlt⟩;obtain⟨gg,og,rfl,hg4,hgg,z1,z2⟩:=HGS.out j _ er;have hbd:=BDS.out j r er;have NXT:Hid (shL S (j+1) (-32)=shL S j (-32)++[(r.1+(-32),r.2+(-32))]):=xY er (-32);obtain⟨lo,hi⟩:=r;dsimp only at z1 z2 hbd NXT;have wa:IntKind.wrap .i64 (lo-32)=lo-32:=(by rw [IntKind.wrap_i64];omega);have wb:IntKind.wrap .i64 (hi-32)=hi-32:=(by rw [IntKind.wrap_i64];omega);have j0:(0:Int)<=(j:Int):=(by omega);have j1:(j:Int)<(S.length:Int):=(by omega);have QC:Hid (∀ w',Fr (aP7 w w4) W1 w'->w'.cell? ⟨gg,og+j*2,none⟩=some (.I lo)/\w'.cell? ⟨gg,og+j*2+1,none⟩=some (.I hi)):=fun w' hf=>by
      have hbk:=hf.block gg hgg (fun q=>by have:=q.2;omega);exact⟨(mP hbk _).trans z1,(mP hbk _).trans z2⟩
     have MD:Hid (FW w w4 W1 wr.drew (.slice qo O.length co) O):=M0.out.drew;have hw1:w.heap.size<=wr.heap.size:=m9 BTW.out.size M0.out.fr.size;clear z1 z2 er;go_wp2;refine wp_region_held_drew (S:=fun w'=>Fr (aP7 w w4) W1 w') (by kernel_rfl) MD.out.fr (fun hHeld=>?_);refine aCQ (v:=?_) 0 ?_ ?_;rotate_left
     ·intro wz hSw;obtain⟨q1,q2⟩:=QC.out wz hSw;clear hSw;go_simp;try with_reducible rfl
     dsimp only [Act.put,i7,g8,g9];simp only [g4,i9,i8];refine aCQ (v:=?_) 1 ?_ ?_;rotate_left
     ·intro wz hSw;obtain⟨q1,q2⟩:=QC.out wz hSw;clear hSw;go_simp;try with_reducible rfl
     dsimp only [Act.put,i7,g8,g9];simp only [g4,i9,i8];refine aCQ (v:=?_) 2 ?_ ?_;rotate_left
     ·intro wz hSw;obtain⟨q1,q2⟩:=QC.out wz hSw;clear hSw;go_simp;try with_reducible rfl
     dsimp only [Act.put,i7,g8,g9];simp only [g4,i9,i8];refine aCQ (v:=?_) 3 ?_ ?_;rotate_left
     ·intro wz hSw;obtain⟨q1,q2⟩:=QC.out wz hSw;clear hSw;go_simp;try with_reducible rfl
     dsimp only [Act.put,i7,g8,g9];simp only [g4,i9,i8];refine aCQ (v:=?_) 4 ?_ ?_;rotate_left
     ·intro wz hSw;obtain⟨q1,q2⟩:=QC.out wz hSw;clear hSw;go_simp;try with_reducible rfl
     dsimp only [Act.put,i7,g8,g9];simp only [g4,i9,i8];refine aCQ (v:=?_) 5 ?_ ?_;rotate_left
     ·intro wz hSw;obtain⟨q1,q2⟩:=QC.out wz hSw;clear hSw;go_simp;try with_reducible rfl
     dsimp only [Act.put,i7,g8,g9];simp only [g4,i9,i8];refine aCQ (v:=?_) 6 ?_ ?_;rotate_left
     ·intro wz hSw;obtain⟨q1,q2⟩:=QC.out wz hSw;clear hSw;go_simp;try with_reducible rfl
     dsimp only [Act.put,i7,g8,g9];simp only [g4,i9,i8];refine aCQ (v:=?_) 7 ?_ ?_;rotate_left
     ·intro wz hSw;obtain⟨q1,q2⟩:=QC.out wz hSw;clear hSw;go_simp;try with_reducible rfl
     dsimp only [Act.put,i7,g8,g9];simp only [g4,i9,i8];refine aCQ (v:=?_) 8 ?_ ?_;rotate_left
     ·intro wz hSw;obtain⟨q1,q2⟩:=QC.out wz hSw;clear hSw;go_simp;try with_reducible rfl
     dsimp only [Act.put,i7,g8,g9];simp only [g4,i9,i8];refine aCQ (v:=?_) 9 ?_ ?_;rotate_left
     ·intro wz hSw;obtain⟨q1,q2⟩:=QC.out wz hSw;clear hSw;go_simp;try with_reducible rfl
     dsimp only [Act.put,i7,g8,g9];simp only [g4,i9,i8];refine aCQ (v:=?_) 10 ?_ ?_;rotate_left
     ·intro wz hSw;obtain⟨q1,q2⟩:=QC.out wz hSw;clear hSw;go_simp;try with_reducible rfl
     dsimp only [Act.put,i7,g8,g9];simp only [g4,i9,i8];refine aCQ (v:=?_) 11 ?_ ?_;rotate_left
     ·intro wz hSw;obtain⟨q1,q2⟩:=QC.out wz hSw;clear hSw;go_simp;try with_reducible rfl
     dsimp only [Act.put,i7,g8,g9];simp only [g4,i9,i8];refine aCQ (v:=?_) 12 ?_ ?_;rotate_left
     ·intro wz hSw;obtain⟨q1,q2⟩:=QC.out wz hSw;clear hSw;go_simp;try with_reducible rfl
     dsimp only [Act.put,i7,g8,g9];simp only [g4,i9,i8];refine aCQ (v:=?_) 13 ?_ ?_;rotate_left
     ·intro wz hSw;obtain⟨q1,q2⟩:=QC.out wz hSw;clear hSw;go_simp;try with_reducible rfl
     dsimp only [Act.put,i7,g8,g9];simp only [g4,i9,i8];refine wpAnyH_ready (rs:=[14]) (by kernel_rfl) (by simp) ?_;refine AllReadyH.cons rfl (fun K hK=>?_) AllReadyH.nil;go_simp;refine hK.out _ _ (MD.out.fr.alloc _) (fun hHeld2=>?_);clear hK K;refine wpAnyH_ready (rs:=[15]) (by kernel_rfl) (by simp) ?_;refine AllReadyH.cons rfl (fun K hK=>?_) AllReadyH.nil;refine aY rfl _ _ 22 rfl w.heap.size 92 t0 (.agg #[.I 0,.I 0]) 2 16 bG ti hz0 hz1 hz2 rfl (by decide) (.slice qo O.length co) O.length (aS O) (by simp [Act.eval]) (o9 MD.out.own (.cells #[.I (lo-32),.I (hi-32)] 92)) (aDr wr.heap.size 0) 1 1 [.I (lo-32),.I (hi-32)] (by simp [Act.eval]) rfl (kT _ _ _ _) (by simp [Value.oneCell']) (by unfold maxLen;omega) (by omega) (by simp;omega) ?_;intro v' w6' hown' hgrow hblk;obtain⟨g6,cap6,rfl⟩:=aL hown' (aAM _);have M6:Hid (FW w w4 W1 w6' (.slice (some (aDr g6 0)) (O.length+1) cap6) (O++[(lo-32,hi-32)])):=MD.out.app hgrow hown' hblk;clear hown' hgrow hblk;refine hK.out _ _ M6.out.fr (fun hHeld3=>?_);clear hK K;refine wpAnyH_ready (rs:=[16]) (by kernel_rfl) (by simp) ?_;refine AllReadyH.cons rfl (fun K hK=>?_) AllReadyH.nil;go_simp;refine hK.out _ _ M6.out.fr (fun hHeld4=>?_);clear hK K;refine wpAnyH_done (by kernel_rfl) ?_ _;go_wp2;go_roundw
     case rel=>exact⟨j+1,by omega,by go_num,by rw [NXT.out,<- aAN,EO.out];exact M6.out⟩
     case measure=>simp [intOf];omega
    ·have j1:¬ (j:Int)<(S.length:Int):=by omega
     have EJ:Hid (shL S j (-32)=S.map fun r:Int×Int=>(r.1+-32,r.2+-32)):=aC (by unfold shL;rw [n9 (by omega)]);have EG:Hid (C2=C++G.map fun r:Int×Int=>(r.1+32,r.2+32)):=aC (by rw [<- EC.out];unfold shL;rw [aBG]);rw [EJ.out] at hW ⊢;have MZ:Hid _:=hW;have FZ:Hid (Fit (C2++S.map fun r:Int×Int=>(r.1+-32,r.2+-32))):=aC (by
      rw [EG.out];refine dU (dU X4.out.2.1.fit fun r hr=>?_) fun r hr=>?_
      ·obtain⟨x,hx,e⟩:=aAT.1 hr;subst e;obtain⟨i,hi⟩:=List.getElem?_of_mem hx;have:=BDG.out i x hi;simp only;omega
      ·obtain⟨x,hx,e⟩:=aAT.1 hr;subst e;obtain⟨i,hi⟩:=List.getElem?_of_mem hx;have:=BDS.out i x hi;simp only;omega)
     have LZ:Hid ((C2++S.map fun r:Int×Int=>(r.1+-32,r.2+-32)).length<=3*L.length):=aC (by simp;omega);have IZ:Hid (∀ c,In (C2++S.map fun r:Int×Int=>(r.1+-32,r.2+-32)) c↔oW L c):=fun c=>by
      rw [EG.out,bV,bV,kH,kH,X4.out.2.1.mem,X5.out.2.1.mem,X6.out.2.1.mem,eE,eE];unfold oW;rw [show c - -32=c+32 by omega,or_assoc]
     clear hW;generalize (C2++S.map fun r:Int×Int=>(r.1+-32,r.2+-32))=Z at *;go_wp2_with (go_at_call 87;refine(lD MZ.out.own.arg FZ.out (by have:=LZ.out;omega)).mono ?_;rintro e w7 ⟨v7,D,rfl,h1,h2,h3,h4⟩;have X7:Hid (RR wr.heap.size w7 v7 D/\IsC D (In Z)/\D.length<=Z.length/\wBl wr w7):=⟨h1,h2,h3,h4⟩;clear h1 h2 h3 h4)
     go_ret;have BZ:wBl w wr:=bB BTW.out MZ.out.fr lz9 (fun k hk=>hk.1);exact⟨_,_,rfl,X7.out.1.mono BZ.size,X7.out.2.1.to IZ.out,m9 X7.out.2.2.1 LZ.out,aJ BZ X7.out.2.2.2 lz9⟩
theorem bH2{c f:Bool}{L C:lIi}(hC:IsC C (oW L)):mR c f L↔(IsC L (fun x=>In L x/\bS c x)/\(f=true->L=C)):=by
 constructor
 ·rintro ⟨h1,h2⟩;refine⟨h1,fun hf=>?_⟩;have h3:IsC L (oW L):=⟨h1.cls,h1.fit,h2 hf⟩;exact h3.one hC (fun _=>Iff.rfl)
 ·rintro ⟨h1,h2⟩;refine⟨h1,fun hf x=>?_⟩;have e:=h2 hf;rw [<- e] at hC;exact hC.mem x
theorem bG4{c f:Bool}{t:Tr}{k:Int}(hk:t.f.k=k):cY c f t↔(if k=1\/k=3\/k=4 then t.f.n=0/\t.f.mn=0/\t.f.mx=0/\t.f.rs.length=0/\t.ks.length=0
 else if k=2 then mR c f t.f.rs/\t.f.n=0/\t.f.mn=0/\t.f.mx=0/\t.ks.length=0
 else if k=5\/k=6 then 1<t.ks.length/\t.f.n=0/\t.f.mn=0/\t.f.mx=0/\t.f.rs.length=0
 else if k=7 then t.ks.length=1/\t.f.mn=0/\t.f.mx=0/\t.f.rs.length=0
 else if k=8 then (1<=t.f.n/\t.f.n<=9)/\t.f.mn=0/\t.f.mx=0/\t.f.rs.length=0/\t.ks.length=0
 else if k=9 then fI t.f.mn t.f.mx=true/\t.ks.length=1/\t.f.n=0/\t.f.rs.length=0
 else False):=by
 unfold cY;rw [hk]
def FormedP(c f:Bool)(p:Way)(t:Tr)(w:World)(e:Ending)(w':World):Prop:=∃ b:Bool,e=.returned (.bool b)/\(b=true↔bQ c f p t)/\wBl w w'
theorem FormedP.mk{c f:Bool}{p:Way}{t:Tr}{w w':World}{e:Ending}(b:Bool)(h1:e=.returned (.bool b))(h2:b=true↔bQ c f p t)(h3:wBl w w'):FormedP c f p t w e w':=⟨b,h1,h2,h3⟩
theorem bI1(p:Way)(t:Tr)(o:Nat)(c f:Bool){w:World}(hn:NB w t)(hrl:t.f.rs.length<=1048580) :
  Calls Tryz.prog 23 #[.agg #[.I t.f.k,.I t.f.n,.I t.f.mn,.I t.f.mx,.slice t.f.rq t.f.rs.length t.f.rc,.slice t.f.kq t.f.kl t.f.kc,.I ((p.length:Int)+1),.I (arP p),.bool (fiP p),.bool (laP p),.bool (brP p),.I (o:Int)],.agg #[.bool c,.bool f]] w fun e w'=>FormedP c f p t w e w':=by
 have HNA:=aC hn;have hkl:=hn.kl;have HKL:=aC hkl;obtain⟨qk,ck,ek,hkm,-,-⟩:=hn.k.slice;have hkm':t.f.kl<=9223372036854775807:=by rw [hkl];exact hkm
 have HF:=aC hn.fit;have B0:Hid (wBl w ((w.alloc (.cells #[.I t.f.k,.I t.f.n,.I t.f.mn,.I t.f.mx,.slice t.f.rq t.f.rs.length t.f.rc,.slice t.f.kq t.f.kl t.f.kc,.I ((p.length:Int)+1),.I (arP p),.bool (fiP p),.bool (laP p),.bool (brP p),.I (o:Int)] 62)).alloc (.cells #[.bool c,.bool f] 27))):=(bz9).alloc (by simp) _;have P0:Hid (((w.alloc (.cells #[.I t.f.k,.I t.f.n,.I t.f.mn,.I t.f.mx,.slice t.f.rq t.f.rs.length t.f.rc,.slice t.f.kq t.f.kl t.f.kc,.I ((p.length:Int)+1),.I (arP p),.bool (fiP p),.bool (laP p),.bool (brP p),.I (o:Int)] 62)).alloc (.cells #[.bool c,.bool f] 27)).heap[w.heap.size]?=some (.cells #[.I t.f.k,.I t.f.n,.I t.f.mn,.I t.f.mx,.slice t.f.rq t.f.rs.length t.f.rc,.slice t.f.kq t.f.kl t.f.kc,.I ((p.length:Int)+1),.I (arP p),.bool (fiP p),.bool (laP p),.bool (brP p),.I (o:Int)] 62 (0,0))):=(Below.heap_alloc _ _ _ (by simp)).trans (aE w _);have M0:Hid (((w.alloc (.cells #[.I t.f.k,.I t.f.n,.I t.f.mn,.I t.f.mx,.slice t.f.rq t.f.rs.length t.f.rc,.slice t.f.kq t.f.kl t.f.kc,.I ((p.length:Int)+1),.I (arP p),.bool (fiP p),.bool (laP p),.bool (brP p),.I (o:Int)] 62)).alloc (.cells #[.bool c,.bool f] 27)).heap[w.heap.size+1]?=some (.cells #[.bool c,.bool f] 27 (0,0))):=(by
  have:=aE (w.alloc (.cells #[.I t.f.k,.I t.f.n,.I t.f.mn,.I t.f.mx,.slice t.f.rq t.f.rs.length t.f.rc,.slice t.f.kq t.f.kl t.f.kc,.I ((p.length:Int)+1),.I (arP p),.bool (fiP p),.bool (laP p),.bool (brP p),.I (o:Int)] 62)) (.cells #[.bool c,.bool f] 27);rwa [f8] at this)
 clear hn hkl ek hkm;go_enter Tryz.func23,Tryz.ntmps23;go_upto_region 1 with fail
 generalize ((w.alloc (.cells #[.I t.f.k,.I t.f.n,.I t.f.mn,.I t.f.mx,.slice t.f.rq t.f.rs.length t.f.rc,.slice t.f.kq t.f.kl t.f.kc,.I ((p.length:Int)+1),.I (arP p),.bool (fiP p),.bool (laP p),.bool (brP p),.I (o:Int)] 62)).alloc (.cells #[.bool c,.bool f] 27))=W0 at B0 P0 M0 ⊢;generalize w.heap.size+1=bm at M0 ⊢;have p0:W0.cell? (aDr w.heap.size 0)=some (.I t.f.k):=aA P0.o (i:=0) rfl;have p1:W0.cell? (aDr w.heap.size 1)=some (.I t.f.n):=aA P0.o (i:=1) rfl;have p2:W0.cell? (aDr w.heap.size 2)=some (.I t.f.mn):=aA P0.o (i:=2) rfl;have p3:W0.cell? (aDr w.heap.size 3)=some (.I t.f.mx):=aA P0.o (i:=3) rfl;have p4:W0.cell? (aDr w.heap.size 4)=some (.slice t.f.rq t.f.rs.length t.f.rc):=aA P0.o (i:=4) rfl;have p5:W0.cell? (aDr w.heap.size 5)=some (.slice t.f.kq t.f.kl t.f.kc):=aA P0.o (i:=5) rfl;have p6:W0.cell? (aDr w.heap.size 6)=some (.I ((p.length:Int)+1)):=aA P0.o (i:=6) rfl;have p7:W0.cell? (aDr w.heap.size 7)=some (.I (arP p)):=aA P0.o (i:=7) rfl;have p8:W0.cell? (aDr w.heap.size 8)=some (.bool (fiP p)):=aA P0.o (i:=8) rfl;have p9:W0.cell? (aDr w.heap.size 9)=some (.bool (laP p)):=aA P0.o (i:=9) rfl;have p10:W0.cell? (aDr w.heap.size 10)=some (.bool (brP p)):=aA P0.o (i:=10) rfl;have p11:W0.cell? (aDr w.heap.size 11)=some (.I (o:Int)):=aA P0.o (i:=11) rfl;go_upto_region 2 with fail
 have K1:wBl W0 (W0.alloc (.cells (nDf t.f) 25)):=bz9;have N1:=aC (aE W0 (.cells (nDf t.f) 25));have P1:=aC ((K1.block _ (aB P0.o)).trans P0.o);have M1:=aC ((K1.block _ (aB M0.o)).trans M0.o);have B1:=aC (aJ B0.o K1 lz9);clear K1 B0 P0 M0 p0 p1 p2 p3 p4 p5 p6 p7 p8 p9 p10 p11;generalize (W0.alloc (.cells (nDf t.f) 25))=W1 at N1 P1 M1 B1 ⊢;generalize W0.heap.size=bn at N1 ⊢;have p0:W1.cell? (aDr w.heap.size 0)=some (.I t.f.k):=aA P1.o (i:=0) rfl;have p1:W1.cell? (aDr w.heap.size 1)=some (.I t.f.n):=aA P1.o (i:=1) rfl;have p2:W1.cell? (aDr w.heap.size 2)=some (.I t.f.mn):=aA P1.o (i:=2) rfl;have p3:W1.cell? (aDr w.heap.size 3)=some (.I t.f.mx):=aA P1.o (i:=3) rfl;have p4:W1.cell? (aDr w.heap.size 4)=some (.slice t.f.rq t.f.rs.length t.f.rc):=aA P1.o (i:=4) rfl;have p5:W1.cell? (aDr w.heap.size 5)=some (.slice t.f.kq t.f.kl t.f.kc):=aA P1.o (i:=5) rfl;have p6:W1.cell? (aDr w.heap.size 6)=some (.I ((p.length:Int)+1)):=aA P1.o (i:=6) rfl;have p7:W1.cell? (aDr w.heap.size 7)=some (.I (arP p)):=aA P1.o (i:=7) rfl;have p8:W1.cell? (aDr w.heap.size 8)=some (.bool (fiP p)):=aA P1.o (i:=8) rfl;have p9:W1.cell? (aDr w.heap.size 9)=some (.bool (laP p)):=aA P1.o (i:=9) rfl;have p10:W1.cell? (aDr w.heap.size 10)=some (.bool (brP p)):=aA P1.o (i:=10) rfl;have p11:W1.cell? (aDr w.heap.size 11)=some (.I (o:Int)):=aA P1.o (i:=11) rfl;have ST:=aC (bH6 p t o W1);obtain⟨s,hs⟩:∃ s,mC p t.f.k=s:=⟨_,rfl⟩;rw [hs] at ST;have HS:=aC hs;clear hs;go_upto_region 3 with (go_at_call 44;(with_reducible refine(ST.o).mono ?_);rintro e W2 ⟨rfl,h2⟩;have B2:=aC (aJ B1.o h2 lz9);have N2:=aC ((h2.block _ (aB N1.o)).trans N1.o);have M2:=aC ((h2.block _ (aB M1.o)).trans M1.o);clear h2)
 clear p0 p1 p2 p3 p4 p5 p6 p7 p8 p9 p10 p11 N1 P1 M1 B1 ST
 cases s with
 | false=>
  go_wp2;go_ret;exact FormedP.mk false rfl (⟨fun z=>(by cases z),fun z=>by have:=z.1;rw [HS.o] at this;cases this⟩) B2.o
 | true=>
  have FT:Hid (bQ c f p t↔cY c f t):=⟨fun z=>z.2,fun z=>⟨HS.o,z⟩⟩;obtain⟨n0,n1,n2,n3,n4,n5⟩:=(show BoxN W2 bn t.f from N2.o).six;simp only [n7] at n1 n2 n3 n4 n5;have m0:W2.cell? (aDr bm 0)=some (.bool c):=aA M2.o (i:=0) rfl;have m1:W2.cell? (aDr bm 1)=some (.bool f):=aA M2.o (i:=1) rfl;obtain⟨k,hk⟩:∃ k,t.f.k=k:=⟨_,rfl⟩;have TK:=aC (bG4 (c:=c) (f:=f) hk);have HKK:=aC hk;obtain⟨ln,hln⟩:∃ ln,t.f.kl=ln:=⟨_,rfl⟩;have HLN:=aC hln;clear hk hln;by_cases h1:k=1\/k=3\/k=4
  ·have BR:=aC (fun W=>aP0 t.f W);obtain⟨br,hbr⟩:∃ br,decide (t.f.n=0/\t.f.mn=0/\t.f.mx=0/\t.f.rs.length=0/\t.f.kl=0)=br:=⟨_,rfl⟩;rw [hbr] at BR;have HBR:=aC hbr;clear hbr;have HI:=aC (show br=true↔bQ c f p t by
    rw [<- HBR.o,FT.o,TK.o,if_pos h1,aBI,HKL.o])
   rcases h1 with h1 | h1 | h1
   ·have q1:(t.f.k==1)=true:=beq_iff_eq.2 (by rw [HKK.o];omega);clear h1;go_wp2_with (go_at_call 45;(with_reducible refine(BR.o _).mono ?_);rintro e W8 ⟨rfl,h8⟩;have B8:=aC (aJ B2.o h8 lz9);clear h8)
    go_ret;exact FormedP.mk br rfl (HI.o) B8.o
   ·have q1:(t.f.k==1)=false:=n6.2 (by rw [HKK.o];omega);have q3:(t.f.k==3)=true:=beq_iff_eq.2 (by rw [HKK.o];omega);clear h1;go_wp2_with (go_at_call 45;(with_reducible refine(BR.o _).mono ?_);rintro e W8 ⟨rfl,h8⟩;have B8:=aC (aJ B2.o h8 lz9);clear h8)
    go_ret;exact FormedP.mk br rfl (HI.o) B8.o
   ·have q1:(t.f.k==1)=false:=n6.2 (by rw [HKK.o];omega);have q3:(t.f.k==3)=false:=n6.2 (by rw [HKK.o];omega);have q4:(t.f.k==4)=true:=beq_iff_eq.2 (by rw [HKK.o];omega);clear h1;go_wp2_with (go_at_call 45;(with_reducible refine(BR.o _).mono ?_);rintro e W8 ⟨rfl,h8⟩;have B8:=aC (aJ B2.o h8 lz9);clear h8)
    go_ret;exact FormedP.mk br rfl (HI.o) B8.o
  by_cases h2:k=2
  ·have BR:=aC (fun W=>aO8 t.f W);obtain⟨br,hbr⟩:∃ br,decide (t.f.n=0/\t.f.mn=0/\t.f.mx=0/\t.f.kl=0)=br:=⟨_,rfl⟩;rw [hbr] at BR;have HBR:=aC hbr;clear hbr;have q1:(t.f.k==1)=false:=n6.2 (by rw [HKK.o];omega);have q3:(t.f.k==3)=false:=n6.2 (by rw [HKK.o];omega);have q4:(t.f.k==4)=false:=n6.2 (by rw [HKK.o];omega);have q2:(t.f.k==2)=true:=beq_iff_eq.2 (by rw [HKK.o];omega);have RC:=aC (aW5 (m:=c) (HNA.o.ck (CK.of_below B2.o)).r HF.o hrl);go_upto_region 12 with (go_at_call 46;(with_reducible refine(RC.o).mono ?_);rintro e W3 ⟨b3,rfl,hb3,h3⟩;have I3:=aC hb3;have B3:=aC (aJ B2.o h3 lz9);have N3:=aC ((h3.block _ (aB N2.o)).trans N2.o);have M3:=aC ((h3.block _ (aB M2.o)).trans M2.o);clear hb3 h3)
   clear n0 n1 n2 n3 n4 n5 m0 m1;have n4:W3.cell? (aDr bn 4)=some (.slice t.f.rq t.f.rs.length t.f.rc):=(show BoxN W3 bn t.f from N3.o).six.2.2.2.2.1;have FC:=aC (bI2 (HNA.o.ck (CK.of_below B3.o)).r HF.o hrl);go_upto_region 13 with (go_at_call 47;(with_reducible refine(FC.o).mono ?_);rintro e W4 ⟨v4,C,rfl,h41,h42,h43,h44⟩;obtain⟨q4,k4,rfl⟩:=h41.shape;have X4:=aC h41;have I4:=aC h42;have B4:=aC (aJ B3.o h44 lz9);have N4:=aC ((h44.block _ (aB N3.o)).trans N3.o);have M4:=aC ((h44.block _ (aB M3.o)).trans M3.o);clear h41 h42 h43 h44)
   clear n4;have n4:W4.cell? (aDr bn 4)=some (.slice t.f.rq t.f.rs.length t.f.rc):=(show BoxN W4 bn t.f from N4.o).six.2.2.2.2.1;have AK:=aC (aL8 (HNA.o.ck (CK.of_below B4.o)).r X4.o.arg);obtain⟨aa,haa⟩:∃ aa,decide (t.f.rs=C)=aa:=⟨_,rfl⟩;rw [haa] at AK;have HAA:=aC haa;clear haa;go_upto_region 14 with (go_at_call 48;(with_reducible refine(AK.o).mono ?_);rintro e W5 ⟨rfl,h5⟩;have B5:=aC (aJ B4.o h5 lz9);have N5:=aC ((h5.block _ (aB N4.o)).trans N4.o);have M5:=aC ((h5.block _ (aB M4.o)).trans M4.o);clear h5)
   clear n4;obtain⟨n0,n1,n2,n3,n4,n5⟩:=(show BoxN W5 bn t.f from N5.o).six;simp only [n7] at n1 n2 n3 n4 n5;have m1:W5.cell? (aDr bm 1)=some (.bool f):=aA M5.o (i:=1) rfl;have HI:=aC (show ((b3=true/\(f=true->aa=true))/\br=true)↔bQ c f p t by
    rw [<- HBR.o,FT.o,TK.o,if_neg h1,if_pos h2,aBI,HKL.o,bH2 I4.o,I3.o,<- HAA.o,aBI])
   clear h1 h2 RC FC AK
   cases b3 with
   | false=>
    have HI2:=aC (show false=true↔bQ c f p t from ⟨fun z=>(by cases z),fun z=>(HI.o.2 z).1.1⟩);go_wp2;go_ret;exact FormedP.mk false rfl (HI2.o) B5.o
   | true=>
    cases f with
    | false=>
     have HI2:=aC (show br=true↔bQ c false p t from ⟨fun z=>HI.o.1 ⟨⟨rfl,fun q=>(by cases q)⟩,z⟩,fun z=>(HI.o.2 z).2⟩);go_wp2_with (go_at_call 45;(with_reducible refine(BR.o _).mono ?_);rintro e W8 ⟨rfl,h8⟩;have B8:=aC (aJ B5.o h8 lz9);clear h8)
     go_ret;exact FormedP.mk br rfl (HI2.o) B8.o
    | true=>
     cases aa with
     | false=>
      have HI2:=aC (show false=true↔bQ c true p t from ⟨fun z=>(by cases z),fun z=>(HI.o.2 z).1.2 rfl⟩);go_wp2;go_ret;exact FormedP.mk false rfl (HI2.o) B5.o
     | true=>
      have HI2:=aC (show br=true↔bQ c true p t from ⟨fun z=>HI.o.1 ⟨⟨rfl,fun _=>rfl⟩,z⟩,fun z=>(HI.o.2 z).2⟩);go_wp2_with (go_at_call 45;(with_reducible refine(BR.o _).mono ?_);rintro e W8 ⟨rfl,h8⟩;have B8:=aC (aJ B5.o h8 lz9);clear h8)
      go_ret;exact FormedP.mk br rfl (HI2.o) B8.o
  by_cases h56:k=5\/k=6
  ·have BR:=aC (fun W=>aO9 t.f W);obtain⟨br,hbr⟩:∃ br,decide (t.f.n=0/\t.f.mn=0/\t.f.mx=0/\t.f.rs.length=0)=br:=⟨_,rfl⟩;rw [hbr] at BR;have HBR:=aC hbr;clear hbr;have HI:=aC (show (1<ln/\br=true)↔bQ c f p t by
    rw [<- HBR.o,FT.o,TK.o,if_neg h1,if_neg h2,if_pos h56,aBI,<- HLN.o,HKL.o])
   by_cases hl:1<ln
   ·have el:(1:Int)<(t.f.kl:Int):=by rw [HLN.o];omega
    have HI2:=aC (show br=true↔bQ c f p t from ⟨fun z=>HI.o.1 ⟨hl,z⟩,fun z=>(HI.o.2 z).2⟩);clear hl;rcases h56 with h5 | h5
    ·have q1:(t.f.k==1)=false:=n6.2 (by rw [HKK.o];omega);have q3:(t.f.k==3)=false:=n6.2 (by rw [HKK.o];omega);have q4:(t.f.k==4)=false:=n6.2 (by rw [HKK.o];omega);have q2:(t.f.k==2)=false:=n6.2 (by rw [HKK.o];omega);have q5:(t.f.k==5)=true:=beq_iff_eq.2 (by rw [HKK.o];omega);clear h5 h1 h2;go_wp2_with (go_at_call 45;(with_reducible refine(BR.o _).mono ?_);rintro e W8 ⟨rfl,h8⟩;have B8:=aC (aJ B2.o h8 lz9);clear h8)
     go_ret;exact FormedP.mk br rfl (HI2.o) B8.o
    ·have q1:(t.f.k==1)=false:=n6.2 (by rw [HKK.o];omega);have q3:(t.f.k==3)=false:=n6.2 (by rw [HKK.o];omega);have q4:(t.f.k==4)=false:=n6.2 (by rw [HKK.o];omega);have q2:(t.f.k==2)=false:=n6.2 (by rw [HKK.o];omega);have q5:(t.f.k==5)=false:=n6.2 (by rw [HKK.o];omega);have q6:(t.f.k==6)=true:=beq_iff_eq.2 (by rw [HKK.o];omega);clear h5 h1 h2;go_wp2_with (go_at_call 45;(with_reducible refine(BR.o _).mono ?_);rintro e W8 ⟨rfl,h8⟩;have B8:=aC (aJ B2.o h8 lz9);clear h8)
     go_ret;exact FormedP.mk br rfl (HI2.o) B8.o
   ·have el:¬ (1:Int)<(t.f.kl:Int):=by rw [HLN.o];omega
    have HI2:=aC (show false=true↔bQ c f p t from ⟨fun z=>(by cases z),fun z=>absurd (HI.o.2 z).1 hl⟩);clear hl;rcases h56 with h5 | h5
    ·have q1:(t.f.k==1)=false:=n6.2 (by rw [HKK.o];omega);have q3:(t.f.k==3)=false:=n6.2 (by rw [HKK.o];omega);have q4:(t.f.k==4)=false:=n6.2 (by rw [HKK.o];omega);have q2:(t.f.k==2)=false:=n6.2 (by rw [HKK.o];omega);have q5:(t.f.k==5)=true:=beq_iff_eq.2 (by rw [HKK.o];omega);clear h5 h1 h2;go_wp2;go_ret;exact FormedP.mk false rfl (HI2.o) B2.o
    ·have q1:(t.f.k==1)=false:=n6.2 (by rw [HKK.o];omega);have q3:(t.f.k==3)=false:=n6.2 (by rw [HKK.o];omega);have q4:(t.f.k==4)=false:=n6.2 (by rw [HKK.o];omega);have q2:(t.f.k==2)=false:=n6.2 (by rw [HKK.o];omega);have q5:(t.f.k==5)=false:=n6.2 (by rw [HKK.o];omega);have q6:(t.f.k==6)=true:=beq_iff_eq.2 (by rw [HKK.o];omega);clear h5 h1 h2;go_wp2;go_ret;exact FormedP.mk false rfl (HI2.o) B2.o
  by_cases h7:k=7
  ·have BR:=aC (fun W=>aO5 t.f W);obtain⟨br,hbr⟩:∃ br,decide (t.f.mn=0/\t.f.mx=0/\t.f.rs.length=0)=br:=⟨_,rfl⟩;rw [hbr] at BR;have HBR:=aC hbr;clear hbr;have HI:=aC (show (ln=1/\br=true)↔bQ c f p t by
    rw [<- HBR.o,FT.o,TK.o,if_neg h1,if_neg h2,if_neg h56,if_pos h7,aBI,<- HLN.o,HKL.o])
   have q1:(t.f.k==1)=false:=n6.2 (by rw [HKK.o];omega);have q3:(t.f.k==3)=false:=n6.2 (by rw [HKK.o];omega);have q4:(t.f.k==4)=false:=n6.2 (by rw [HKK.o];omega);have q2:(t.f.k==2)=false:=n6.2 (by rw [HKK.o];omega);have q5:(t.f.k==5)=false:=n6.2 (by rw [HKK.o];omega);have q6:(t.f.k==6)=false:=n6.2 (by rw [HKK.o];omega);have q7:(t.f.k==7)=true:=beq_iff_eq.2 (by rw [HKK.o];omega);clear h1 h2 h56 h7;by_cases hl:ln=1
   ·have el:((t.f.kl:Int)==1)=true:=beq_iff_eq.2 (by rw [HLN.o];omega);have HI2:=aC (show br=true↔bQ c f p t from ⟨fun z=>HI.o.1 ⟨hl,z⟩,fun z=>(HI.o.2 z).2⟩);clear hl;go_wp2_with (go_at_call 45;(with_reducible refine(BR.o _).mono ?_);rintro e W8 ⟨rfl,h8⟩;have B8:=aC (aJ B2.o h8 lz9);clear h8)
    go_ret;exact FormedP.mk br rfl (HI2.o) B8.o
   ·have el:((t.f.kl:Int)==1)=false:=n6.2 (by rw [HLN.o];omega);have HI2:=aC (show false=true↔bQ c f p t from ⟨fun z=>(by cases z),fun z=>absurd (HI.o.2 z).1 hl⟩);clear hl;go_wp2;go_ret;exact FormedP.mk false rfl (HI2.o) B2.o
  by_cases h8:k=8
  ·have BR:=aC (fun W=>aO6 t.f W);obtain⟨br,hbr⟩:∃ br,decide (t.f.mn=0/\t.f.mx=0/\t.f.rs.length=0/\t.f.kl=0)=br:=⟨_,rfl⟩;rw [hbr] at BR;have HBR:=aC hbr;clear hbr;have HI:=aC (show ((1<=t.f.n/\t.f.n<=9)/\br=true)↔bQ c f p t by
    rw [<- HBR.o,FT.o,TK.o,if_neg h1,if_neg h2,if_neg h56,if_neg h7,if_pos h8,aBI,HKL.o])
   have q1:(t.f.k==1)=false:=n6.2 (by rw [HKK.o];omega);have q3:(t.f.k==3)=false:=n6.2 (by rw [HKK.o];omega);have q4:(t.f.k==4)=false:=n6.2 (by rw [HKK.o];omega);have q2:(t.f.k==2)=false:=n6.2 (by rw [HKK.o];omega);have q5:(t.f.k==5)=false:=n6.2 (by rw [HKK.o];omega);have q6:(t.f.k==6)=false:=n6.2 (by rw [HKK.o];omega);have q7:(t.f.k==7)=false:=n6.2 (by rw [HKK.o];omega);have q8:(t.f.k==8)=true:=beq_iff_eq.2 (by rw [HKK.o];omega);clear h1 h2 h56 h7 h8;by_cases g1:1<=t.f.n
   ·by_cases g2:t.f.n<=9
    ·have HI2:=aC (show br=true↔bQ c f p t from ⟨fun z=>HI.o.1 ⟨⟨g1,g2⟩,z⟩,fun z=>(HI.o.2 z).2⟩);go_wp2_with (go_at_call 45;(with_reducible refine(BR.o _).mono ?_);rintro e W8 ⟨rfl,h8⟩;have B8:=aC (aJ B2.o h8 lz9);clear h8)
     go_ret;exact FormedP.mk br rfl (HI2.o) B8.o
    ·have HI2:=aC (show false=true↔bQ c f p t from ⟨fun z=>(by cases z),fun z=>absurd (HI.o.2 z).1.2 g2⟩);go_wp2;go_ret;exact FormedP.mk false rfl (HI2.o) B2.o
   ·have HI2:=aC (show false=true↔bQ c f p t from ⟨fun z=>(by cases z),fun z=>absurd (HI.o.2 z).1.1 g1⟩);go_wp2;go_ret;exact FormedP.mk false rfl (HI2.o) B2.o
  by_cases h9:k=9
  ·have BR:=aC (fun W=>aO7 t.f W);obtain⟨br,hbr⟩:∃ br,decide (t.f.n=0/\t.f.rs.length=0)=br:=⟨_,rfl⟩;rw [hbr] at BR;have HBR:=aC hbr;clear hbr;have BD:=aC (fun W=>bI6 t.f.mn t.f.mx W);obtain⟨bd,hbd⟩:∃ bd,fI t.f.mn t.f.mx=bd:=⟨_,rfl⟩;rw [hbd] at BD;have HBD:=aC hbd;clear hbd;have HI:=aC (show (bd=true/\ln=1/\br=true)↔bQ c f p t by
    rw [<- HBR.o,FT.o,TK.o,if_neg h1,if_neg h2,if_neg h56,if_neg h7,if_neg h8,if_pos h9,aBI,<- HLN.o,HKL.o,HBD.o])
   have q1:(t.f.k==1)=false:=n6.2 (by rw [HKK.o];omega);have q3:(t.f.k==3)=false:=n6.2 (by rw [HKK.o];omega);have q4:(t.f.k==4)=false:=n6.2 (by rw [HKK.o];omega);have q2:(t.f.k==2)=false:=n6.2 (by rw [HKK.o];omega);have q5:(t.f.k==5)=false:=n6.2 (by rw [HKK.o];omega);have q6:(t.f.k==6)=false:=n6.2 (by rw [HKK.o];omega);have q7:(t.f.k==7)=false:=n6.2 (by rw [HKK.o];omega);have q8:(t.f.k==8)=false:=n6.2 (by rw [HKK.o];omega);have q9:(t.f.k==9)=true:=beq_iff_eq.2 (by rw [HKK.o];omega);clear h1 h2 h56 h7 h8 h9
   cases bd with
   | false=>
    have HI2:=aC (show false=true↔bQ c f p t from ⟨fun z=>(by cases z),fun z=>(HI.o.2 z).1⟩);go_wp2_with (go_at_call 49;(with_reducible refine(BD.o _).mono ?_);rintro e w5 ⟨rfl,h5⟩;subst w5)
    go_ret;exact FormedP.mk false rfl (HI2.o) B2.o
   | true=>
    by_cases hl:ln=1
    ·have el:((t.f.kl:Int)==1)=true:=beq_iff_eq.2 (by rw [HLN.o];omega);have HI2:=aC (show br=true↔bQ c f p t from ⟨fun z=>HI.o.1 ⟨rfl,hl,z⟩,fun z=>(HI.o.2 z).2.2⟩);clear hl;go_wp2_with first |(go_at_call 49;(with_reducible refine(BD.o _).mono ?_);rintro e w5 ⟨rfl,h5⟩;subst w5) |(go_at_call 45;(with_reducible refine(BR.o _).mono ?_);rintro e W8 ⟨rfl,h8⟩;have B8:=aC (aJ B2.o h8 lz9);clear h8)
     go_ret;exact FormedP.mk br rfl (HI2.o) B8.o
    ·have el:((t.f.kl:Int)==1)=false:=n6.2 (by rw [HLN.o];omega);have HI2:=aC (show false=true↔bQ c f p t from ⟨fun z=>(by cases z),fun z=>absurd (HI.o.2 z).2.1 hl⟩);clear hl;go_wp2_with (go_at_call 49;(with_reducible refine(BD.o _).mono ?_);rintro e w5 ⟨rfl,h5⟩;subst w5)
     go_ret;exact FormedP.mk false rfl (HI2.o) B2.o
  have q1:(t.f.k==1)=false:=n6.2 (by rw [HKK.o];omega);have q3:(t.f.k==3)=false:=n6.2 (by rw [HKK.o];omega);have q4:(t.f.k==4)=false:=n6.2 (by rw [HKK.o];omega);have q2:(t.f.k==2)=false:=n6.2 (by rw [HKK.o];omega);have q5:(t.f.k==5)=false:=n6.2 (by rw [HKK.o];omega);have q6:(t.f.k==6)=false:=n6.2 (by rw [HKK.o];omega);have q7:(t.f.k==7)=false:=n6.2 (by rw [HKK.o];omega);have q8:(t.f.k==8)=false:=n6.2 (by rw [HKK.o];omega);have q9:(t.f.k==9)=false:=n6.2 (by rw [HKK.o];omega);have HI2:=aC (show false=true↔bQ c f p t from ⟨fun z=>(by cases z),fun z=>by
   have:=TK.o.1 (FT.o.1 z);rw [if_neg h1,if_neg h2,if_neg h56,if_neg h7,if_neg h8,if_neg h9] at this;exact this.elim⟩)
  clear h1 h2 h56 h7 h8 h9;go_wp2;go_ret;exact FormedP.mk false rfl (HI2.o) B2.o
end Go.Proofs.YtdgfpiekjigfnaaGreatDoor
