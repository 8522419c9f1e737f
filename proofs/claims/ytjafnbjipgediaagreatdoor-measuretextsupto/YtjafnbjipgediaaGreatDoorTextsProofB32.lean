/-
  Parts of the proof.
-/
import Derived.Test.YtjafnbjipgediaaGreatDoorTextsProofB31
import Derived.Test.YtjafnbjipgediaaGreatDoorTextsProofB12
import Derived.Test.YtjafnbjipgediaaGreatDoorTextsProofB16
import Derived.Laws.MakeOwn
set_option maxRecDepth 100000
set_option maxHeartbeats 8000000
namespace Go.Proofs.YtjafnbjipgediaaGreatDoor
open Go Go.RowKit
section
attribute [local go_sem] bB
theorem oB{w:World}{v:Value}{L:List (Int × Int)}(h:ArgR w v L)(hF:Fit L)(hn:L.length<=1):Calls Tryz.prog 143 #[v] w (tF w L):=by
 obtain⟨t0,ti,hz0,hz1,hz2⟩:=bH cY
 cases L with
 | nil=>
  obtain⟨q,cap,e,-,-,-⟩:=h.slice
  subst e
  clear h
  go_enter Tryz.func143,Tryz.ntmps143
  go_wp2
  go_ret
  exact⟨_,[],rfl,RR.nil _ _,wG,kX,fun _=>Iff.rfl,Nat.le_refl _,Below.refl _ _⟩
 | cons r L'=>
  obtain rfl:L'=[]:=List.eq_nil_of_length_eq_zero (by simpa using hn)
  obtain⟨g,off,cap,rfl,hg,hn1,hm1,x1,x2⟩:=h.cons
  have HF:Hid (Fit [r]):=hF
  clear h hF
  obtain⟨lo,hi⟩:=r
  dsimp only [List.length_nil] at x1 x2 hn1 ⊢
  have W1:Hid (w=w):=rfl
  by_cases hq:lo<=hi
  ·have dq:decide (lo<=hi)=true:=decide_eq_true hq
   have HQ:Hid (lo<=hi):=hq
   go_enter Tryz.func143,Tryz.ntmps143
   go_wp2
   refine wx9 ?_
   repeat (go_big_quiet_step (first | exact rfl))
   refine wpQuiet_nil ?_
   intro w7 hw7
   have B7:Hid (Below w.heap.size w w7):=aQ hw7
   have c1:=(B7.out.cell (p:=⟨g,off,none⟩) hg).trans x1
   have c2:=(B7.out.cell (p:=⟨g,off+1,none⟩) hg).trans x2
   have hz7:=B7.out.size
   clear hw7 x1 x2
   go_wp2_with (at_builtin;refine wpList_append_own_at _ rfl _ _ 22 rfl w.heap.size 110 t0 (.agg #[.int .i64 0,.int .i64 0]) 2 16 bM ti hz0 hz1 hz2 rfl (by decide) (.slice none 0 0) 0 (aS []) rfl (RR.nil _ _) ⟨w7.heap.size,0,none⟩ 1 1 [.int .i64 lo,.int .i64 hi] rfl rfl (lF _ _ _ _) (by simp [Value.oneCell']) (by unfold maxLen;omega) (by omega) (by simp;omega) ?_;intro v' w6 hown' hgrow _ hblk;obtain⟨g6,cap6,rfl⟩:=aL hown' (Nat.succ_pos _);have A6:Hid (RR w.heap.size w6 (.slice (some ⟨g6,0,none⟩) 1 cap6) [(lo,hi)]):=hown';have B6:Hid (Below w.heap.size w w6):=dC (t:=110) (size:=2) (n:=0) (xs:=[]) (B7.out.alloc hz7 _) (RR.nil _ _) hgrow;clear hown' hgrow hblk)
   go_ret
   exact⟨_,[(lo,hi)],rfl,A6.out,wF HQ.out,HF.out,fun _=>Iff.rfl,Nat.le_refl _,B6.out⟩
  ·have dq:decide (lo<=hi)=false:=decide_eq_false hq
   have HQ:Hid (¬ lo<=hi):=hq
   go_enter Tryz.func143,Tryz.ntmps143
   go_wp2
   refine wx9 ?_
   repeat (go_big_quiet_step (first | exact rfl))
   refine wpQuiet_nil ?_
   intro w7 hw7
   have B7:Hid (Below w.heap.size w w7):=aQ hw7
   clear hw7
   go_wp2
   go_ret
   exact⟨_,[],rfl,RR.nil _ _,wG,kX,fun c=>⟨fun q=>absurd q (iA c),fun q=>by rw [eK] at q;have:=HQ.out;simp only at q;omega⟩,by simp,B7.out⟩
theorem yH{w:World}{v:Value}{L:List (Int × Int)}(ih:∀ (w:World) (v:Value) (L':List (Int × Int)),L'.length < L.length->ArgR w v L'->Fit L'->Calls Tryz.prog 143 #[v] w (tF w L'))(h:ArgR w v L)(hF:Fit L)(hn:1 < L.length)(hl:L.length+1<=8796093022208):Calls Tryz.prog 143 #[v] w (tF w L):=by
 obtain⟨t0,ti,hz0,hz1,hz2⟩:=bH cY
 obtain⟨q,cap,e,-,hcap,hcells⟩:=h.slice
 subst e
 obtain⟨g,off,rfl,hg,-,-⟩:=hcells 0 _ (List.getElem?_eq_getElem (by omega))
 obtain⟨k,hk⟩:∃ k,L.length / 2=k:=⟨_,rfl⟩
 have hk1:0 < k:=by omega
 have hk2:k < L.length:=by omega
 have IH:Hid (∀ (w:World) (v:Value) (L':List (Int × Int)),L'.length < L.length->ArgR w v L'->Fit L'->Calls Tryz.prog 143 #[v] w (tF w L')):=ih
 have T1:Hid (ArgR w (.slice (some ⟨g,off,none⟩) k cap) (L.take k)/\Fit (L.take k)/\(L.take k).length < L.length):=⟨h.take (by omega),gI hF fun x hx=>List.mem_of_mem_take hx,by simp;omega⟩
 have T2:Hid (ArgR w (.slice (some ⟨g,off+k * 2,none⟩) (L.length - k) (cap - k)) (L.drop k)/\Fit (L.drop k)/\(L.drop k).length < L.length):=⟨h.drop hk2,gI hF fun x hx=>List.mem_of_mem_drop hx,by simp;omega⟩
 have HL:Hid ((L.take k).length+(L.drop k).length=L.length):=aD (by simp;omega)
 have q1:((L.length:Int).tdiv 2)=(k:Int):=by rw [<- hk];simp [Int.tdiv_eq_ediv]
 have q2:IntKind.wrap .i64 ((L.length:Int).tdiv 2)=(k:Int):=by rw [q1,IntKind.wrap_i64];omega
 have n0:((L.length:Int)==0)=false:=beq_false_of_ne (by omega)
 have n1:((L.length:Int)==1)=false:=beq_false_of_ne (by omega)
 have k0:(0:Int)<=(k:Int):=by omega
 have k1:(k:Int)<=(cap:Int):=by omega
 have k2:(k:Int)<=(L.length:Int):=by omega
 have k3:¬ cap=k:=by omega
 clear h hF ih hcells hk
 go_enter Tryz.func143,Tryz.ntmps143
 go_wp2_with first
  |(go_at_call 143;have hx:=X5.out;clear hx;have hih:=IH.out w5 _ _ T2.out.2.2 (T2.out.1.kept X5.out.2.2.2.2.2) T2.out.2.1;(with_reducible refine hih.mono ?_);clear hih;rintro e w6 ⟨v6,B,rfl,h1,h2,h3,h4,h5,h6⟩;obtain⟨qb,cb,rfl⟩:=h1.shape;have X6:Hid (RR w5.heap.size w6 (.slice qb B.length cb) B/\Srt B/\Fit B/\(∀ c,In B c ↔ In (L.drop k) c)/\B.length<=(L.drop k).length/\Below w5.heap.size w5 w6):=⟨h1,h2,h3,h4,h5,h6⟩;clear h1 h2 h3 h4 h5 h6)
  |(go_at_call 143;have hih:=IH.out w _ _ T1.out.2.2 T1.out.1 T1.out.2.1;(with_reducible refine hih.mono ?_);clear hih;rintro e w5 ⟨v5,A,rfl,h1,h2,h3,h4,h5,h6⟩;obtain⟨qa,ca,rfl⟩:=h1.shape;have X5:Hid (RR w.heap.size w5 (.slice qa A.length ca) A/\Srt A/\Fit A/\(∀ c,In A c ↔ In (L.take k) c)/\A.length<=(L.take k).length/\Below w.heap.size w w5):=⟨h1,h2,h3,h4,h5,h6⟩;clear h1 h2 h3 h4 h5 h6)
 rename World=>W1
 have ST:Hid (MI A B A B []):=MI.start X5.out.2.1 X6.out.2.1 X5.out.2.2.1 X6.out.2.2.1
 have AA:Hid (ArgR W1 (.slice qa A.length ca) A/\ArgR W1 (.slice qb B.length cb) B):=⟨(X5.out.1.kept X6.out.2.2.2.2.2).arg,X6.out.1.arg⟩
 have hab:A.length+B.length+1<=8796093022208:=by have:=X5.out.2.2.2.2.1;have:=X6.out.2.2.2.2.1;have:=HL.out;omega
 have BW:Hid (Below w.heap.size w W1):=aJ X5.out.2.2.2.2.2 X6.out.2.2.2.2.2 lz9
 have HA:Hid (∀ (i:Nat) (r:Int × Int),A[i]?=some r->∃ g off,qa=some ⟨g,off,none⟩/\g < W1.heap.size/\W1.cell? ⟨g,off+2 * i,none⟩=some (.int .i64 r.1)/\W1.cell? ⟨g,off+2 * i+1,none⟩=some (.int .i64 r.2)):=by
  obtain⟨q',cap',e,-,-,hc⟩:=AA.out.1.slice
  cases e
  exact hc
 have FIN:Hid (∀ O B',MI A B [] B' O->Srt (O ++ B')/\Fit (O ++ B')/\(∀ c,In (O ++ B') c ↔ In L c)/\(O ++ B').length<=L.length):=fun O B' I=>by
  obtain⟨m1,m2,m3,m4⟩:=I.done
  refine⟨m1,m3,fun c=>?_,?_⟩
  ·rw [m2,X5.out.2.2.2.1,X6.out.2.2.2.1,aO9]
  ·have:=X5.out.2.2.2.2.1;have:=X6.out.2.2.2.2.1;have:=HL.out;omega
 clear q1 q2 k0 k1 k2 k3 n0 n1
 go_loopw [3,5,6] (fun ov bv i wr=>∃ (j:Nat) (B' O:List (Int × Int)),j<=A.length/\i=.int .i64 j/\ArgR W1 bv B'/\RR W1.heap.size wr ov O/\MI A B (A.drop j) B' O/\Below W1.heap.size W1 wr) (fun _ _ i _=>A.length - (intOf i).toNat)
 case atStart=>exact⟨0,B,[],Nat.zero_le _,rfl,AA.out.2,RR.nil _ _,ST.out,Below.refl _ _⟩
 case round=>
  obtain⟨j,B',O,hj,rfl,hbv,hov,hI,hb⟩:=hrel
  have RB:Hid (ArgR W1 u5 B'):=hbv
  have RO:Hid (RR W1.heap.size wr u3 O):=hov
  have I:Hid (MI A B (A.drop j) B' O):=hI
  have BB:Hid (Below W1.heap.size W1 wr):=hb
  clear hbv hov hI hb
  by_cases hlt:j < A.length
  ·obtain⟨a,ea⟩:∃ r,A[j]?=some r:=⟨_,List.getElem?_eq_getElem hlt⟩
   have DR:Hid (A.drop j=a :: A.drop (j+1)):=aD (by obtain⟨h1,h2⟩:=List.getElem?_eq_some_iff.1 ea;rw [List.drop_eq_getElem_cons h1,h2])
   obtain⟨ga,oa,rfl,hga,xa1,xa2⟩:=HA.out j _ ea
   have I2:Hid (MI A B (a :: A.drop (j+1)) B' O):=aD (by rw [<- DR.out];exact I.out)
   rw [Nat.mul_comm] at xa1 xa2
   obtain⟨la,ra⟩:=a
   dsimp only at xa1 xa2
   have XA:Hid (W1.cell? ⟨ga,oa+j * 2,none⟩=some (.int .i64 la)/\W1.cell? ⟨ga,oa+j * 2+1,none⟩=some (.int .i64 ra)/\ga < W1.heap.size):=⟨xa1,xa2,hga⟩
   have i0:(0:Int)<=(j:Int):=by omega
   have i1:(j:Int) < (A.length:Int):=by omega
   clear xa1 xa2 hga ea
   rename World=>W2
   obtain⟨qq,cc,e5⟩:∃ q c,u5=.slice q B'.length c:=by obtain⟨q,c,e,-⟩:=RB.out.slice;exact⟨q,c,e⟩
   obtain⟨qq3,cc3,e3⟩:=RO.out.shape
   go_wp2
   go_loopw [3,5] (fun ov bv wr=>∃ (B' O:List (Int × Int)),ArgR W1 bv B'/\RR W1.heap.size wr ov O/\MI A B ((la,ra) :: A.drop (j+1)) B' O/\Below W1.heap.size W1 wr) (fun _ bv _=>pU bv)
   case atStart=>exact⟨B',O,RB.out,RO.out,I2.out,BB.out⟩
   case round=>
    clear RB RO I I2 BB e5 e3
    obtain⟨B',O,hbv,hov,hI,hb⟩:=hrel
    obtain⟨qo,co,e3⟩:=hov.shape
    subst e3
    have RO:Hid (RR W1.heap.size wr (.slice qo O.length co) O):=hov
    have I:Hid (MI A B ((la,ra) :: A.drop (j+1)) B' O):=hI
    have BB:Hid (Below W1.heap.size W1 wr):=hb
    have hol:O.length+1<=8796093022208:=by have:=hI.len;simp at this;omega
    have hbs:=hb.size
    have ca1:=(BB.out.cell (p:=⟨ga,oa+j * 2,none⟩) XA.out.2.2).trans XA.out.1
    have sa:ga < wr.heap.size:=Nat.lt_of_lt_of_le XA.out.2.2 hbs
    clear hov hI hb
    cases B' with
    | nil=>
     obtain⟨q2,cap2,e2,-,-,-⟩:=hbv.slice
     simp only [List.length_nil] at e2
     subst e2
     have RB:Hid (ArgR W1 (.slice q2 0 cap2) []):=hbv
     have I2:Hid (MI A B (A.drop (j+1)) [] (O ++ [(la,ra)])):=I.out.left (fun _ h=>by cases h)
     have d0:decide ((0:Int) < 0)=false:=by decide
     clear hbv
     go_wp2
     refine wx9 ?_
     repeat (go_big_quiet_step (first | exact rfl))
     refine wpQuiet_nil ?_
     intro w7 hw7
     have B7:Hid (Below W1.heap.size W1 w7):=aJ BB.out (aQ hw7) lz9
     have R7:Hid (RR W1.heap.size w7 (.slice qo O.length co) O):=RO.out.kept (aQ hw7)
     have e1:=(B7.out.cell (p:=⟨ga,oa+j * 2,none⟩) XA.out.2.2).trans XA.out.1
     have e2:=(B7.out.cell (p:=⟨ga,oa+j * 2+1,none⟩) XA.out.2.2).trans XA.out.2.1
     have hz7:=B7.out.size
     clear hw7 ca1
     go_wp2_with (at_builtin;refine wpList_append_own_at _ rfl _ _ 22 rfl W1.heap.size 110 t0 (.agg #[.int .i64 0,.int .i64 0]) 2 16 bM ti hz0 hz1 hz2 rfl (by decide) (.slice qo O.length co) O.length (aS O) rfl (World.ownsRow.alloc R7.out (.cells #[.int .i64 la,.int .i64 ra] 110)) ⟨w7.heap.size,0,none⟩ 1 1 [.int .i64 la,.int .i64 ra] rfl rfl (lF _ _ _ _) (by simp [Value.oneCell']) (by unfold maxLen;omega) (by omega) (by simp;omega) ?_;intro v' w6 hown' hgrow _ hblk;obtain⟨g6,cap6,rfl⟩:=aL hown' (Nat.succ_pos _);have A6:Hid (RR W1.heap.size w6 (.slice (some ⟨g6,0,none⟩) (O.length+1) cap6) (O ++ [(la,ra)])):=pR hown';have B6:Hid (Below W1.heap.size W1 w6):=dC (B7.out.alloc B7.out.size _) (World.ownsRow.alloc R7.out _) hgrow;clear hown' hgrow hblk)
     go_roundw
     case rel=>exact⟨j+1,[],_,by omega,by go_num,RB.out,A6.out,I2.out,B6.out⟩
     case measure=>simp [intOf];omega
    | cons b B'=>
     obtain⟨g2,o2,cap2,e2,hg2,hn2,hm2,y1,y2⟩:=hbv.cons
     subst e2
     have RB:Hid (ArgR W1 (.slice (some ⟨g2,o2,none⟩) (B'.length+1) cap2) (b :: B')):=hbv
     obtain⟨lb,rb⟩:=b
     dsimp only at y1 y2
     have YB:Hid (W1.cell? ⟨g2,o2,none⟩=some (.int .i64 lb)/\W1.cell? ⟨g2,o2+1,none⟩=some (.int .i64 rb)/\g2 < W1.heap.size):=⟨y1,y2,hg2⟩
     have cb1:=(BB.out.cell (p:=⟨g2,o2,none⟩) YB.out.2.2).trans YB.out.1
     have sb:g2 < wr.heap.size:=Nat.lt_of_lt_of_le hg2 hbs
     have d1:(0:Int) < (B'.length:Int)+1:=by omega
     have dd:decide ((0:Int) < (B'.length:Int)+1)=true:=decide_eq_true d1
     unfold maxLen at hm2
     clear hbv y1 y2 hg2
     by_cases hq:lb < la
     ·have I2:Hid (MI A B ((la,ra) :: A.drop (j+1)) B' (O ++ [(lb,rb)])):=I.out.right hq
      have dq:decide (lb < la)=true:=decide_eq_true hq
      have TT:=RB.out.tail
      by_cases hcap:cap2=1
      ·have T1':Hid (ArgR W1 (.slice (some ⟨g2,o2,none⟩) 0 0) B'):=TT.1 hcap
       have hA0:B'.length=0:=by omega
       subst hcap
       clear TT
       go_wp2
       refine wx9 ?_
       repeat (go_big_quiet_step (first | exact rfl))
       refine wpQuiet_nil ?_
       intro w7 hw7
       have B7:Hid (Below W1.heap.size W1 w7):=aJ BB.out (aQ hw7) lz9
       have R7:Hid (RR W1.heap.size w7 (.slice qo O.length co) O):=RO.out.kept (aQ hw7)
       have e1:=(B7.out.cell (p:=⟨g2,o2,none⟩) YB.out.2.2).trans YB.out.1
       have e2:=(B7.out.cell (p:=⟨g2,o2+1,none⟩) YB.out.2.2).trans YB.out.2.1
       have hz7:=B7.out.size
       clear hw7 ca1 cb1
       go_wp2_with (at_builtin;refine wpList_append_own_at _ rfl _ _ 22 rfl W1.heap.size 110 t0 (.agg #[.int .i64 0,.int .i64 0]) 2 16 bM ti hz0 hz1 hz2 rfl (by decide) (.slice qo O.length co) O.length (aS O) rfl (World.ownsRow.alloc R7.out (.cells #[.int .i64 lb,.int .i64 rb] 110)) ⟨w7.heap.size,0,none⟩ 1 1 [.int .i64 lb,.int .i64 rb] rfl rfl (lF _ _ _ _) (by simp [Value.oneCell']) (by unfold maxLen;omega) (by omega) (by simp;omega) ?_;intro v' w6 hown' hgrow _ hblk;obtain⟨g6,cap6,rfl⟩:=aL hown' (Nat.succ_pos _);have A6:Hid (RR W1.heap.size w6 (.slice (some ⟨g6,0,none⟩) (O.length+1) cap6) (O ++ [(lb,rb)])):=pR hown';have B6:Hid (Below W1.heap.size W1 w6):=dC (B7.out.alloc B7.out.size _) (World.ownsRow.alloc R7.out _) hgrow;clear hown' hgrow hblk)
       go_roundw
       case rel=>exact⟨B',_,T1'.out,A6.out,I2.out,B6.out⟩
       case measure=>simp only [pU];omega
      ·have T1':Hid (ArgR W1 (.slice (some ⟨g2,o2+2,none⟩) B'.length (cap2 - 1)) B'):=TT.2 hcap
       clear TT
       go_wp2
       refine wx9 ?_
       repeat (go_big_quiet_step (first | exact rfl))
       refine wpQuiet_nil ?_
       intro w7 hw7
       have B7:Hid (Below W1.heap.size W1 w7):=aJ BB.out (aQ hw7) lz9
       have R7:Hid (RR W1.heap.size w7 (.slice qo O.length co) O):=RO.out.kept (aQ hw7)
       have e1:=(B7.out.cell (p:=⟨g2,o2,none⟩) YB.out.2.2).trans YB.out.1
       have e2:=(B7.out.cell (p:=⟨g2,o2+1,none⟩) YB.out.2.2).trans YB.out.2.1
       have hz7:=B7.out.size
       clear hw7 ca1 cb1
       go_wp2_with (at_builtin;refine wpList_append_own_at _ rfl _ _ 22 rfl W1.heap.size 110 t0 (.agg #[.int .i64 0,.int .i64 0]) 2 16 bM ti hz0 hz1 hz2 rfl (by decide) (.slice qo O.length co) O.length (aS O) rfl (World.ownsRow.alloc R7.out (.cells #[.int .i64 lb,.int .i64 rb] 110)) ⟨w7.heap.size,0,none⟩ 1 1 [.int .i64 lb,.int .i64 rb] rfl rfl (lF _ _ _ _) (by simp [Value.oneCell']) (by unfold maxLen;omega) (by omega) (by simp;omega) ?_;intro v' w6 hown' hgrow _ hblk;obtain⟨g6,cap6,rfl⟩:=aL hown' (Nat.succ_pos _);have A6:Hid (RR W1.heap.size w6 (.slice (some ⟨g6,0,none⟩) (O.length+1) cap6) (O ++ [(lb,rb)])):=pR hown';have B6:Hid (Below W1.heap.size W1 w6):=dC (B7.out.alloc B7.out.size _) (World.ownsRow.alloc R7.out _) hgrow;clear hown' hgrow hblk)
       go_roundw
       case rel=>exact⟨B',_,T1'.out,A6.out,I2.out,B6.out⟩
       case measure=>simp only [pU];omega
     ·have I2:Hid (MI A B (A.drop (j+1)) ((lb,rb) :: B') (O ++ [(la,ra)])):=I.out.left (fun y hy=>by
       rcases List.mem_cons.1 hy with rfl | hy
       ·simp only;omega
       ·have:=(List.pairwise_cons.1 I.out.b.rise).1 y hy;simp only at this ⊢;omega)
      have dq:decide (lb < la)=false:=decide_eq_false hq
      go_wp2
      refine wx9 ?_
      repeat (go_big_quiet_step (first | exact rfl))
      refine wpQuiet_nil ?_
      intro w7 hw7
      have B7:Hid (Below W1.heap.size W1 w7):=aJ BB.out (aQ hw7) lz9
      have R7:Hid (RR W1.heap.size w7 (.slice qo O.length co) O):=RO.out.kept (aQ hw7)
      have e1:=(B7.out.cell (p:=⟨ga,oa+j * 2,none⟩) XA.out.2.2).trans XA.out.1
      have e2:=(B7.out.cell (p:=⟨ga,oa+j * 2+1,none⟩) XA.out.2.2).trans XA.out.2.1
      have hz7:=B7.out.size
      clear hw7 ca1 cb1
      go_wp2_with (at_builtin;refine wpList_append_own_at _ rfl _ _ 22 rfl W1.heap.size 110 t0 (.agg #[.int .i64 0,.int .i64 0]) 2 16 bM ti hz0 hz1 hz2 rfl (by decide) (.slice qo O.length co) O.length (aS O) rfl (World.ownsRow.alloc R7.out (.cells #[.int .i64 la,.int .i64 ra] 110)) ⟨w7.heap.size,0,none⟩ 1 1 [.int .i64 la,.int .i64 ra] rfl rfl (lF _ _ _ _) (by simp [Value.oneCell']) (by unfold maxLen;omega) (by omega) (by simp;omega) ?_;intro v' w6 hown' hgrow _ hblk;obtain⟨g6,cap6,rfl⟩:=aL hown' (Nat.succ_pos _);have A6:Hid (RR W1.heap.size w6 (.slice (some ⟨g6,0,none⟩) (O.length+1) cap6) (O ++ [(la,ra)])):=pR hown';have B6:Hid (Below W1.heap.size W1 w6):=dC (B7.out.alloc B7.out.size _) (World.ownsRow.alloc R7.out _) hgrow;clear hown' hgrow hblk)
      go_roundw
      case rel=>exact⟨j+1,(lb,rb) :: B',_,by omega,by go_num,RB.out,A6.out,I2.out,B6.out⟩
      case measure=>simp [intOf];omega
  ·have i1:¬ (j:Int) < (A.length:Int):=by omega
   have D0:Hid (A.drop j=[]):=aD (List.drop_of_length_le (by omega))
   have I2:Hid (MI A B [] B' O):=aD (by rw [<- D0.out];exact I.out)
   obtain⟨q2,cap2,e5,-,-,-⟩:=RB.out.slice
   subst e5
   obtain⟨qo,co,e3⟩:=RO.out.shape
   subst e3
   have F:=FIN.out O B' I2.out
   have FF:Hid _:=F
   have hlen:=F.2.2.2
   rw [List.length_append] at hlen
   have hbs:=BB.out.size
   clear F
   cases q2 with
   | none=>
    have e0:Value.slice none B'.length cap2=.slice none 0 0/\B'=[]:=by
     rcases RB.out with⟨p,cap',e,e2,e3⟩ | ⟨g',off',cap',e,_⟩
     ·subst e2
      cases e
      have:=e3 rfl
      subst this
      exact⟨rfl,rfl⟩
     ·cases e
    obtain⟨e1,e2⟩:=e0
    subst e2
    cases e1
    go_wp2_with (at_builtin;refine wpList_append_own_none rfl _ _ 22 rfl W1.heap.size 110 t0 2 bM ti (.slice qo O.length co) O.length (aS O) rfl RO.out rfl ?_)
    go_ret
    refine⟨_,O ++ [],rfl,?_,FF.out.1,FF.out.2.1,FF.out.2.2.1,FF.out.2.2.2,aJ BW.out BB.out lz9⟩
    rw [List.append_nil]
    exact RO.out.mono BW.out.size
   | some ad=>
    have NW:Hid (∀ j u,(aS B')[j]?=some u->wr.cell? (ad.add j)=some u):=(RB.out.kept BB.out).news
    go_wp2_with (at_builtin;refine wpList_append_own_at _ rfl _ _ 22 rfl W1.heap.size 110 t0 (.agg #[.int .i64 0,.int .i64 0]) 2 16 bM ti hz0 hz1 hz2 rfl (by decide) (.slice qo O.length co) O.length (aS O) rfl RO.out ad B'.length cap2 (aS B') rfl (dS B') NW.out (lA B') (by unfold maxLen;omega) (by omega) hbs ?_;intro v' w6 hown' hgrow _ hblk;have A6:Hid (RR W1.heap.size w6 v' (O ++ B')):=rA hown';have B6:Hid (Below W1.heap.size W1 w6):=dC BB.out RO.out hgrow;clear hown' hgrow hblk)
    go_ret
    exact⟨_,O ++ B',rfl,A6.out.mono BW.out.size,FF.out.1,FF.out.2.1,FF.out.2.2.1,FF.out.2.2.2,aJ BW.out B6.out lz9⟩
theorem aT1(n:Nat):∀ (w:World) (v:Value) (L:List (Int × Int)),L.length<=n->n+1<=8796093022208->ArgR w v L->Fit L->Calls Tryz.prog 143 #[v] w (tF w L):=by
 induction n with
 | zero=>exact fun w v L hn _ h hF=>oB h hF (by omega)
 | succ n ih=>
  intro w v L hn hl h hF
  by_cases h1:L.length<=1
  ·exact oB h hF h1
  ·exact yH (fun w v L' hL' h' hF'=>ih w v L' (by omega) (by omega) h' hF') h hF (by omega) (by omega)
end
section
attribute [local go_sem] bB
theorem mQ{base:Nat}{w:World}{v:Value}{A B:List (Int × Int)}(e:A=B)(h:RR base w v A):RR base w v B:=e ▸ h
theorem lQ{w:World}{v:Value}{L:List (Int × Int)}(h:ArgR w v L)(hF:Fit L)(hl:L.length+1<=8796093022208) :
  Calls Tryz.prog 117 #[v] w (xG w (In L) L.length):=by
 obtain⟨t0,ti,hz0,hz1,hz2⟩:=bH cY
 have H:Hid (ArgR w v L/\Fit L):=⟨h,hF⟩
 clear h hF
 go_enter Tryz.func117,Tryz.ntmps117
 go_wp2_with (go_at_call 143;refine(aT1 L.length w v L lz9 hl H.out.1 H.out.2).mono ?_;rintro e w5 ⟨v5,S,rfl,h1,h2,h3,h4,h5,h6⟩;obtain⟨qs,cs,rfl⟩:=h1.shape;have X5:Hid (RR w.heap.size w5 (.slice qs S.length cs) S/\Srt S/\Fit S/\(∀ c,In S c ↔ In L c)/\S.length<=L.length/\Below w.heap.size w w5):=⟨h1,h2,h3,h4,h5,h6⟩;clear h1 h2 h3 h4 h5 h6)
 rename World=>W1
 have hsl:=X5.out.2.2.2.2.1
 have HC:Hid (∀ (i:Nat) (r:Int × Int),S[i]?=some r->∃ g off,qs=some ⟨g,off,none⟩/\g < W1.heap.size/\W1.cell? ⟨g,off+2 * i,none⟩=some (.int .i64 r.1)/\W1.cell? ⟨g,off+2 * i+1,none⟩=some (.int .i64 r.2)):=by
  obtain⟨q',cap',e,-,-,hc⟩:=X5.out.1.arg.slice
  cases e
  exact hc
 have SP:Hid (∀ k,k<=S.length->Cls ((S.take k).foldl cP [])/\Fit ((S.take k).foldl cP [])/\((S.take k).foldl cP []).length<=k/\∀ c,In ((S.take k).foldl cP []) c ↔ In (S.take k) c):=fun k hk=>by
  have:=mY X5.out.2.1.rise X5.out.2.2.1 k hk
  exact⟨this.1,this.2.1,this.2.2.1,this.2.2.2.1⟩
 go_loopw [3,5] (fun ov i wr=>∃ k:Nat,k<=S.length/\i=.int .i64 k/\RR W1.heap.size wr ov ((S.take k).foldl cP [])/\Below W1.heap.size W1 wr) (fun _ i _=>S.length - (intOf i).toNat)
 case atStart=>exact⟨0,Nat.zero_le _,rfl,RR.nil _ _,Below.refl _ _⟩
 case round=>
  obtain⟨k,hk,rfl,hrr,hb⟩:=hrel
  have RC:Hid (RR W1.heap.size wr u3 ((S.take k).foldl cP [])):=hrr
  have BB:Hid (Below W1.heap.size W1 wr):=hb
  have hbs:=hb.size
  clear hb hrr
  by_cases hlt:k < S.length
  ·obtain⟨r,hr⟩:∃ r,S[k]?=some r:=⟨_,List.getElem?_eq_getElem hlt⟩
   obtain⟨g,off,rfl,hg,x1,x2⟩:=HC.out k _ hr
   rw [Nat.mul_comm] at x1 x2
   have NX:Hid ((S.take (k+1)).foldl cP []=cP ((S.take k).foldl cP []) r):=aD (by
    obtain⟨h1,h2⟩:=List.getElem?_eq_some_iff.1 hr
    rw [eH _ _ h1,List.foldl_append,h2];rfl)
   have hne:¬ r.2 < r.1:=by have:=X5.out.2.1.some r (List.mem_of_getElem? hr);omega
   have hfr:=X5.out.2.2.1 r (List.mem_of_getElem? hr)
   have SPk:=SP.out k hk
   have FC:Hid (Fit ((S.take k).foldl cP [])):=SPk.2.1
   have hcl:=SPk.2.2.1
   obtain⟨lo,hi⟩:=r
   dsimp only at x1 x2 hne hfr
   have XS:Hid (W1.cell? ⟨g,off+k * 2,none⟩=some (.int .i64 lo)/\W1.cell? ⟨g,off+k * 2+1,none⟩=some (.int .i64 hi)/\g < W1.heap.size):=⟨x1,x2,hg⟩
   have cs1:=(BB.out.cell (p:=⟨g,off+k * 2,none⟩) hg).trans x1
   have sg:g < wr.heap.size:=Nat.lt_of_lt_of_le hg hbs
   have i0:(0:Int)<=(k:Int):=by omega
   have i1:(k:Int) < (S.length:Int):=by omega
   clear x1 x2 hr SPk hg
   generalize (S.take k).foldl cP []=C at *
   rcases iS C with e | ⟨D,x,e⟩
   ·subst e
    obtain⟨qo,co,e3⟩:=RC.out.shape
    subst e3
    have LD:Hid ((0:Nat)=0):=rfl
    have NX2:Hid ((S.take (k+1)).foldl cP []=[(lo,hi)]):=aD (by rw [NX.out,mF hne])
    simp only [List.length_nil] at RC ⊢
    have wn:IntKind.wrap .i64 ((0:Int) - 1)=-1:=by decide
    have d0:decide ((0:Int)<=-1)=false:=by decide
    ··
      go_wp2
      refine wx9 ?_
      repeat (go_big_quiet_step (first | exact rfl))
      refine wpQuiet_nil ?_
      intro w7 hw7
      have B7:Hid (Below W1.heap.size W1 w7):=aJ BB.out (aQ hw7) lz9
      have e1:=(B7.out.cell (p:=⟨g,off+k * 2,none⟩) XS.out.2.2).trans XS.out.1
      have e2:=(B7.out.cell (p:=⟨g,off+k * 2+1,none⟩) XS.out.2.2).trans XS.out.2.1
      have hz7:=B7.out.size
      have R7:Hid (RR W1.heap.size w7 (.slice qo 0 co) []):=RC.out.kept (aQ hw7)
      clear hw7 cs1
      go_wp2_with (at_builtin;refine wpList_append_own_at _ rfl _ _ 22 rfl W1.heap.size 110 t0 (.agg #[.int .i64 0,.int .i64 0]) 2 16 bM ti hz0 hz1 hz2 rfl (by decide) (.slice qo 0 co) 0 (aS []) rfl (World.ownsRow.alloc R7.out (.cells #[.int .i64 lo,.int .i64 hi] 110)) ⟨w7.heap.size,0,none⟩ 1 1 [.int .i64 lo,.int .i64 hi] rfl rfl (lF _ _ _ _) (by simp [Value.oneCell']) (by unfold maxLen;omega) (by omega) (by simp;omega) ?_;intro v' w6 hown' hgrow _ hblk;obtain⟨g6,cap6,rfl⟩:=aL hown' (Nat.succ_pos _);have A6:Hid (RR W1.heap.size w6 (.slice (some ⟨g6,0,none⟩) (0+1) cap6) ([(lo,hi)])):=rA (F:=[]) (L:=[(lo,hi)]) hown';have B6:Hid (Below W1.heap.size W1 w6):=dC (B7.out.alloc hz7 _) (World.ownsRow.alloc R7.out _) hgrow;clear hown' hgrow hblk)
      go_roundw
      case rel=>exact⟨k+1,by omega,by go_num,mQ NX2.out.symm A6.out,B6.out⟩
      case measure=>simp [intOf];omega
   ·subst e
    have fx:=FC.out x (by simp)
    obtain⟨nd,hnd⟩:∃ nd,D.length=nd:=⟨_,rfl⟩
    have LD:Hid (D.length=nd):=hnd
    have OW0:Hid (wr.ownsRow W1.heap.size 110 2 u3 (nd+1) (aS (D ++ [x]))):=aD (by have:=RC.out;unfold RR at this;rwa [List.length_append,List.length_singleton,hnd] at this)
    obtain⟨go,co,e3⟩:=aL OW0.out (by omega)
    subst e3
    have OW:Hid (wr.ownsRow W1.heap.size 110 2 (.slice (some ⟨go,0,none⟩) (nd+1) co) (nd+1) (aS (D ++ [x]))):=OW0.out
    have hgo:go < wr.heap.size:=(aH OW.out rfl).2.1
    have hgb:W1.heap.size<=go:=(aH OW.out rfl).1
    have hcell:=(pW OW.out hnd).2
    rw [List.length_append,List.length_singleton,hnd] at hcl
    clear RC OW0 hnd
    obtain⟨y,hy⟩:∃ y,x.2=y:=⟨_,rfl⟩
    rw [hy] at hcell fx
    have HY:Hid (x.2=y):=hy
    clear hy
    have wn:IntKind.wrap .i64 ((nd:Int)+1 - 1)=(nd:Int):=by rw [IntKind.wrap_i64];omega
    have j0:(0:Int)<=(nd:Int):=by omega
    have j1:(nd:Int) < (nd:Int)+1:=by omega
    have d0:decide ((0:Int)<=(nd:Int))=true:=decide_eq_true j0
    by_cases hf:y+1 < lo
    ·have d1:decide (lo<=y)=false:=decide_eq_false (by omega)
     have wl:IntKind.wrap .i64 (lo - 1)=lo - 1:=by rw [IntKind.wrap_i64];omega
     have d2:(lo - 1==y)=false:=beq_false_of_ne (by omega)
     have NX2:Hid ((S.take (k+1)).foldl cP []=D ++ [x] ++ [(lo,hi)]):=aD (by rw [NX.out,mH hne (by rw [HY.out];exact hf)])
     ·
      go_wp2
      refine wx9 ?_
      repeat (go_big_quiet_step (first | exact rfl))
      refine wpQuiet_nil ?_
      intro w7 hw7
      have B7:Hid (Below W1.heap.size W1 w7):=aJ BB.out (aQ hw7) lz9
      have e1:=(B7.out.cell (p:=⟨g,off+k * 2,none⟩) XS.out.2.2).trans XS.out.1
      have e2:=(B7.out.cell (p:=⟨g,off+k * 2+1,none⟩) XS.out.2.2).trans XS.out.2.1
      have hz7:=B7.out.size
      have R7:Hid (w7.ownsRow W1.heap.size 110 2 (.slice (some ⟨go,0,none⟩) (nd+1) co) (nd+1) (aS (D ++ [x]))):=aM (S:=fun _=>False) OW.out (Fr.of_below (aQ hw7)) (fun _ _ q=>q)
      clear hw7 cs1 hcell
      go_wp2_with (at_builtin;refine wpList_append_own_at _ rfl _ _ 22 rfl W1.heap.size 110 t0 (.agg #[.int .i64 0,.int .i64 0]) 2 16 bM ti hz0 hz1 hz2 rfl (by decide) (.slice (some ⟨go,0,none⟩) (nd+1) co) (nd+1) (aS (D ++ [x])) rfl (World.ownsRow.alloc R7.out (.cells #[.int .i64 lo,.int .i64 hi] 110)) ⟨w7.heap.size,0,none⟩ 1 1 [.int .i64 lo,.int .i64 hi] rfl rfl (lF _ _ _ _) (by simp [Value.oneCell']) (by unfold maxLen;omega) (by omega) (by simp;omega) ?_;intro v' w6 hown' hgrow _ hblk;obtain⟨g6,cap6,rfl⟩:=aL hown' (Nat.succ_pos _);have A6:Hid (RR W1.heap.size w6 (.slice (some ⟨g6,0,none⟩) ((nd+1)+1) cap6) (D ++ [x] ++ [(lo,hi)])):=rA (F:=(D ++ [x])) (L:=[(lo,hi)]) hown';have B6:Hid (Below W1.heap.size W1 w6):=dC (B7.out.alloc hz7 _) (World.ownsRow.alloc R7.out _) hgrow;clear hown' hgrow hblk)
      go_roundw
      case rel=>exact⟨k+1,by omega,by go_num,mQ NX2.out.symm A6.out,B6.out⟩
      case measure=>simp [intOf];omega
    ·obtain⟨M,hM⟩:∃ M,max x.2 hi=M:=⟨_,rfl⟩
     have HM:Hid (max x.2 hi=M):=hM
     have hmx:∀ t ty w,(Builtin.max_ t ty #[.int .i64 y,.int .i64 hi]).run Tryz.prog w=.ok (.int .i64 M) w:=fun t ty w=>by rw [jI,<- HY.out,HM.out]
     have NR:Hid (¬ hi < lo->cP (D ++ [x]) (lo,hi)=D ++ [(x.1,max x.2 hi)]):=fun q=>kG q (by rw [HY.out];exact hf)
     clear hM
     by_cases hq:lo<=y
     ·have d1:decide (lo<=y)=true:=decide_eq_true hq
      have d2:True:=trivial
      go_wp2
      refine wx9 ?_
      repeat (go_big_quiet_step (first | exact rfl))
      refine wpQuiet_nil ?_
      intro w7 hw7
      have B7:Hid (Below W1.heap.size W1 w7):=aJ BB.out (aQ hw7) lz9
      have e1:=(B7.out.cell (p:=⟨g,off+k * 2,none⟩) XS.out.2.2).trans XS.out.1
      have e2:=(B7.out.cell (p:=⟨g,off+k * 2+1,none⟩) XS.out.2.2).trans XS.out.2.1
      have hz7:=B7.out.size
      have O7:Hid (w7.drew.ownsRow W1.heap.size 110 2 (.slice (some ⟨go,0,none⟩) (nd+1) co) (nd+1) (aS (D ++ [x]))):=(aM (S:=fun _=>False) OW.out (Fr.of_below (aQ hw7)) (fun _ _ q=>q)).drew
      have c7:=((aQ hw7).cell (p:=⟨go,nd * 2+1,none⟩) hgo).trans hcell
      have f7:w7.frozen? ⟨go,nd * 2+1,none⟩=false:=O7.out.frozenAt (nd * 2+1)
      clear hw7 hcell d1 d2
      go_wp2
      go_region_with fail
      all_goals (
       go_wp2
       go_roundw
       case rel=>exact⟨k+1,by omega,by go_num,mQ (NX.out.trans (NR.out hne)).symm (by rw [HM.out];exact aU1 (oC O7.out LD.out M) (by have:=LD.out;simp;omega)),B7.out.drew.setCell (p:=⟨go,nd * 2+1,none⟩) hgb _⟩
       case measure=>simp [intOf];omega)
     ·have d1:decide (lo<=y)=false:=decide_eq_false hq
      have wl:IntKind.wrap .i64 (lo - 1)=lo - 1:=by rw [IntKind.wrap_i64];omega
      have d2:(lo - 1==y)=true:=by rw [beq_iff_eq];omega
      go_wp2
      refine wx9 ?_
      repeat (go_big_quiet_step (first | exact rfl))
      refine wpQuiet_nil ?_
      intro w7 hw7
      have B7:Hid (Below W1.heap.size W1 w7):=aJ BB.out (aQ hw7) lz9
      have e1:=(B7.out.cell (p:=⟨g,off+k * 2,none⟩) XS.out.2.2).trans XS.out.1
      have e2:=(B7.out.cell (p:=⟨g,off+k * 2+1,none⟩) XS.out.2.2).trans XS.out.2.1
      have hz7:=B7.out.size
      have O7:Hid (w7.drew.ownsRow W1.heap.size 110 2 (.slice (some ⟨go,0,none⟩) (nd+1) co) (nd+1) (aS (D ++ [x]))):=(aM (S:=fun _=>False) OW.out (Fr.of_below (aQ hw7)) (fun _ _ q=>q)).drew
      have c7:=((aQ hw7).cell (p:=⟨go,nd * 2+1,none⟩) hgo).trans hcell
      have f7:w7.frozen? ⟨go,nd * 2+1,none⟩=false:=O7.out.frozenAt (nd * 2+1)
      clear hw7 hcell d1 d2
      go_wp2
      go_region_with fail
      all_goals (
       go_wp2
       go_roundw
       case rel=>exact⟨k+1,by omega,by go_num,mQ (NX.out.trans (NR.out hne)).symm (by rw [HM.out];exact aU1 (oC O7.out LD.out M) (by have:=LD.out;simp;omega)),B7.out.drew.setCell (p:=⟨go,nd * 2+1,none⟩) hgb _⟩
       case measure=>simp [intOf];omega)
  ·have i1:¬ (k:Int) < (S.length:Int):=by omega
   have E:Hid (S.take k=S):=aD (List.take_of_length_le (by omega))
   have SPn:=SP.out k hk
   rw [E.out] at RC SPn
   have SS:Hid _:=SPn
   have hcl:=SPn.2.2.1
   clear SPn
   go_wp2
   go_ret
   exact⟨_,_,rfl,RC.out.mono X5.out.2.2.2.2.2.size,⟨SS.out.1,SS.out.2.1,fun c=>(SS.out.2.2.2 c).trans (X5.out.2.2.2.1 c)⟩,by omega,aJ X5.out.2.2.2.2.2 BB.out lz9⟩
end
section
attribute [local go_sem] bB
def fR(A B:List (Int × Int)):List (Int × Int):=A.flatMap fun a=>B.map (fP a)
theorem aE1{A B:List (Int × Int)}{i:Nat}{a:Int × Int}(h:A[i]?=some a):fR (A.take (i+1)) B=fR (A.take i) B ++ B.map (fP a):=by
 obtain⟨hk,rfl⟩:=List.getElem?_eq_some_iff.1 h
 rw [eH A i hk]
 unfold fR
 rw [List.flatMap_append]
 simp only [List.flatMap_cons,List.flatMap_nil,List.append_nil]
theorem aV6{B:List (Int × Int)}{j:Nat}{b a:Int × Int}(h:B[j]?=some b):(B.take (j+1)).map (fP a)=(B.take j).map (fP a) ++ [fP a b]:=by
 obtain⟨hk,rfl⟩:=List.getElem?_eq_some_iff.1 h
 rw [eH B j hk,List.map_append]
 rfl
theorem aW7(A B:List (Int × Int))(c:Int):In (fR A B) c ↔ In A c/\In B c:=by
 unfold fR In fP
 constructor
 ·rintro ⟨r,hr,h1,h2⟩
  obtain⟨a,ha,hr⟩:=List.mem_flatMap.1 hr
  obtain⟨b,hb,rfl⟩:=List.mem_map.1 hr
  simp only at h1 h2
  exact⟨⟨a,ha,by omega,by omega⟩,b,hb,by omega,by omega⟩
 ·rintro ⟨⟨a,ha,h1,h2⟩,b,hb,h3,h4⟩
  exact⟨_,List.mem_flatMap.2 ⟨a,ha,List.mem_map.2 ⟨b,hb,rfl⟩⟩,by simp only;omega,by simp only;omega⟩
theorem aP4{A B:List (Int × Int)}(fa:Fit A)(fb:Fit B):Fit (fR A B):=fun r hr=>by
 obtain⟨a,ha,hr⟩:=List.mem_flatMap.1 hr
 obtain⟨b,hb,rfl⟩:=List.mem_map.1 hr
 have h1:=fa a ha
 have h2:=fb b hb
 simp only [fP]
 omega
theorem oI(A B:List (Int × Int)):(fR A B).length=A.length * B.length:=by
 induction A with
 | nil=>simp [fR]
 | cons a A ih=>simp only [fR,List.flatMap_cons,List.length_append,List.length_map,List.length_cons,Nat.succ_mul] at *;omega
theorem aD8{w:World}{va vb:Value}{A0 B0:List (Int × Int)}(ha:ArgR w va A0)(hb:ArgR w vb B0)(fa:Fit A0)(fb:Fit B0)(hl1:A0.length+1<=8796093022208)(hl2:B0.length+1<=8796093022208)(hl:A0.length * B0.length+1<=8796093022208) :
  Calls Tryz.prog 118 #[va,vb] w (xG w (fun c=>In A0 c/\In B0 c) (A0.length * B0.length)):=by
 obtain⟨t0,ti,hz0,hz1,hz2⟩:=bH cY
 have H:Hid ((ArgR w va A0/\Fit A0)/\ArgR w vb B0/\Fit B0):=⟨⟨ha,fa⟩,hb,fb⟩
 clear ha hb fa fb
 go_enter Tryz.func118,Tryz.ntmps118
 go_upto_region 5 with first
  |(go_at_call 117;have hx:=X5.out;clear hx;have hih:=lQ (H.out.2.1.kept X5.out.2.2.2) H.out.2.2 hl2;(with_reducible refine hih.mono ?_);clear hih;rintro e w6 ⟨v6,B,rfl,h1,h2,h3,h4⟩;obtain⟨qb,cb,rfl⟩:=h1.shape;have X6:Hid (RR w5.heap.size w6 (.slice qb B.length cb) B/\IsC B (In B0)/\B.length<=B0.length/\Below w5.heap.size w5 w6):=⟨h1,h2,h3,h4⟩;clear h1 h2 h3 h4)
  |(go_at_call 117;have hih:=lQ H.out.1.1 H.out.1.2 hl1;(with_reducible refine hih.mono ?_);clear hih;rintro e w5 ⟨v5,A,rfl,h1,h2,h3,h4⟩;obtain⟨qa,ca,rfl⟩:=h1.shape;have X5:Hid (RR w.heap.size w5 (.slice qa A.length ca) A/\IsC A (In A0)/\A.length<=A0.length/\Below w.heap.size w w5):=⟨h1,h2,h3,h4⟩;clear h1 h2 h3 h4)
 rename World=>W1
 have hla:=X5.out.2.2.1
 have hlb:=X6.out.2.2.1
 have HA:Hid (∀ (i:Nat) (r:Int × Int),A[i]?=some r->∃ g off,qa=some ⟨g,off,none⟩/\g < W1.heap.size/\W1.cell? ⟨g,off+2 * i,none⟩=some (.int .i64 r.1)/\W1.cell? ⟨g,off+2 * i+1,none⟩=some (.int .i64 r.2)):=by
  obtain⟨q',cap',e,-,-,hc⟩:=(X5.out.1.kept X6.out.2.2.2).arg.slice
  cases e
  exact hc
 have HB:Hid (∀ (i:Nat) (r:Int × Int),B[i]?=some r->∃ g off,qb=some ⟨g,off,none⟩/\g < W1.heap.size/\W1.cell? ⟨g,off+2 * i,none⟩=some (.int .i64 r.1)/\W1.cell? ⟨g,off+2 * i+1,none⟩=some (.int .i64 r.2)):=by
  obtain⟨q',cap',e,-,-,hc⟩:=X6.out.1.arg.slice
  cases e
  exact hc
 have LP:Hid (∀ i,(fR (A.take i) B).length+B.length * (A.length - i)<=A0.length * B0.length\/A.length < i):=fun i=>by
  rcases Nat.lt_or_ge A.length i with h | h
  ·exact .inr h
  ·left
   rw [oI,List.length_take,Nat.min_eq_left h,Nat.mul_comm B.length,<- Nat.add_mul,Nat.add_sub_cancel' h]
   exact Nat.mul_le_mul hla hlb
 have BW:Hid (Below w.heap.size w W1):=aJ X5.out.2.2.2 X6.out.2.2.2 lz9
 go_loopw [7,8] (fun ov i wr=>∃ k:Nat,k<=A.length/\i=.int .i64 k/\RR W1.heap.size wr ov (fR (A.take k) B)/\Below W1.heap.size W1 wr) (fun _ i _=>A.length - (intOf i).toNat)
 case atStart=>exact⟨0,Nat.zero_le _,rfl,RR.nil _ _,Below.refl _ _⟩
 case round=>
  obtain⟨k,hk,rfl,hrr,hb⟩:=hrel
  have RO:Hid (RR W1.heap.size wr u7 (fR (A.take k) B)):=hrr
  have BB:Hid (Below W1.heap.size W1 wr):=hb
  clear hrr hb
  by_cases hlt:k < A.length
  ·obtain⟨a,ea⟩:∃ r,A[k]?=some r:=⟨_,List.getElem?_eq_getElem hlt⟩
   obtain⟨ga,oa,rfl,hga,xa1,xa2⟩:=HA.out k _ ea
   have PN:Hid (fR (A.take (k+1)) B=fR (A.take k) B ++ B.map (fP a)):=aE1 ea
   rw [Nat.mul_comm] at xa1 xa2
   have XA:Hid (W1.cell? ⟨ga,oa+k * 2,none⟩=some (.int .i64 a.1)/\W1.cell? ⟨ga,oa+k * 2+1,none⟩=some (.int .i64 a.2)/\ga < W1.heap.size):=⟨xa1,xa2,hga⟩
   have LK:Hid ((fR (A.take k) B).length+B.length+1<=8796093022208):=aD (by
    rcases LP.out (k+1) with h | h
    ·have:=PN.out;rw [this,List.length_append,List.length_map] at h;omega
    ·omega)
   have i0:(0:Int)<=(k:Int):=by omega
   have i1:(k:Int) < (A.length:Int):=by omega
   clear xa1 xa2 hga ea
   rename World=>W2
   generalize fR (A.take k) B=P at *
   go_wp2
   go_loopw [7,9] (fun ov i wr=>∃ j:Nat,j<=B.length/\i=.int .i64 j/\RR W1.heap.size wr ov (P ++ (B.take j).map (fP a))/\Below W1.heap.size W1 wr) (fun _ i _=>B.length - (intOf i).toNat)
   case atStart=>exact⟨0,Nat.zero_le _,rfl,by simpa using RO.out,BB.out⟩
   case round=>
    clear RO BB
    obtain⟨j,hj,rfl,hrr,hb⟩:=hrel
    obtain⟨qo,co,e3⟩:=hrr.shape
    subst e3
    obtain⟨O,hO⟩:∃ O,P ++ (B.take j).map (fP a)=O:=⟨_,rfl⟩
    have EO:Hid (P ++ (B.take j).map (fP a)=O):=hO
    rw [hO] at hrr ⊢
    have RO:Hid (RR W1.heap.size wr (.slice qo O.length co) O):=hrr
    have BB:Hid (Below W1.heap.size W1 wr):=hb
    have hbs:=hb.size
    have hol:O.length+1<=8796093022208:=by have:=LK.out;rw [<- hO,List.length_append,List.length_map,List.length_take];omega
    clear hrr hb hO
    by_cases hjlt:j < B.length
    ·obtain⟨b,eb⟩:∃ r,B[j]?=some r:=⟨_,List.getElem?_eq_getElem hjlt⟩
     obtain⟨gb,ob,rfl,hgb,xb1,xb2⟩:=HB.out j _ eb
     have MN:Hid (P ++ (B.take (j+1)).map (fP a)=O ++ [fP a b]):=aD (by rw [aV6 eb,<- List.append_assoc,EO.out])
     rw [Nat.mul_comm] at xb1 xb2
     have c1:=(BB.out.cell (p:=⟨ga,oa+k * 2,none⟩) XA.out.2.2).trans XA.out.1
     have c2:=(BB.out.cell (p:=⟨ga,oa+k * 2+1,none⟩) XA.out.2.2).trans XA.out.2.1
     have c3:=(BB.out.cell (p:=⟨gb,ob+j * 2,none⟩) hgb).trans xb1
     have c4:=(BB.out.cell (p:=⟨gb,ob+j * 2+1,none⟩) hgb).trans xb2
     have s1:ga < wr.heap.size:=Nat.lt_of_lt_of_le XA.out.2.2 hbs
     have s2:gb < wr.heap.size:=Nat.lt_of_lt_of_le hgb hbs
     obtain⟨a1,ha1⟩:∃ x,a.1=x:=⟨_,rfl⟩
     obtain⟨a2,ha2⟩:∃ x,a.2=x:=⟨_,rfl⟩
     obtain⟨b1,hb1⟩:∃ x,b.1=x:=⟨_,rfl⟩
     obtain⟨b2,hb2⟩:∃ x,b.2=x:=⟨_,rfl⟩
     rw [ha1] at c1
     rw [ha2] at c2
     rw [hb1] at c3
     rw [hb2] at c4
     obtain⟨cr,hcr⟩:∃ cr,fP a b=cr:=⟨_,rfl⟩
     have hmx:∀ t ty w,(Builtin.max_ t ty #[.int .i64 a1,.int .i64 b1]).run Tryz.prog w=.ok (.int .i64 cr.1) w:=fun t ty w=>by rw [jI,<- hcr,<- ha1,<- hb1];rfl
     have hmn:∀ t ty w,(Builtin.min_ t ty #[.int .i64 a2,.int .i64 b2]).run Tryz.prog w=.ok (.int .i64 cr.2) w:=fun t ty w=>by rw [oK,<- hcr,<- ha2,<- hb2];rfl
     have MN2:Hid (P ++ (B.take (j+1)).map (fP a)=O ++ [(cr.1,cr.2)]):=aD (by rw [MN.out,hcr])
     have j0:(0:Int)<=(j:Int):=by omega
     have j1:(j:Int) < (B.length:Int):=by omega
     have RD:Hid (RR W1.heap.size wr.drew (.slice qo O.length co) O):=World.ownsRow.drew RO.out
     have BD:Hid (Below W1.heap.size W1 wr.drew):=BB.out.drew
     have ne1:=World.new_ne wr _ c1
     have ne3:=World.new_ne wr _ c3
     have XK:Hid (W1.cell? ⟨ga,oa+k * 2,none⟩=some (.int .i64 a1)/\W1.cell? ⟨ga,oa+k * 2+1,none⟩=some (.int .i64 a2)/\W1.cell? ⟨gb,ob+j * 2,none⟩=some (.int .i64 b1)/\W1.cell? ⟨gb,ob+j * 2+1,none⟩=some (.int .i64 b2)/\gb < W1.heap.size):=⟨by rw [<- ha1];exact XA.out.1,by rw [<- ha2];exact XA.out.2.1,by rw [<- hb1];exact xb1,by rw [<- hb2];exact xb2,hgb⟩
     clear xb1 xb2 eb hgb MN ha1 ha2 hb1 hb2 hcr
     have QC:Hid (∀ w',Below W1.heap.size W1 w'->w'.cell? ⟨ga,oa+k * 2,none⟩=some (.int .i64 a1)/\w'.cell? ⟨ga,oa+k * 2+1,none⟩=some (.int .i64 a2)/\w'.cell? ⟨gb,ob+j * 2,none⟩=some (.int .i64 b1)/\w'.cell? ⟨gb,ob+j * 2+1,none⟩=some (.int .i64 b2)):=fun w' hb=>⟨(hb.cell (p:=⟨ga,oa+k * 2,none⟩) XA.out.2.2).trans XK.out.1,(hb.cell (p:=⟨ga,oa+k * 2+1,none⟩) XA.out.2.2).trans XK.out.2.1,(hb.cell (p:=⟨gb,ob+j * 2,none⟩) XK.out.2.2.2.2).trans XK.out.2.2.1,(hb.cell (p:=⟨gb,ob+j * 2+1,none⟩) XK.out.2.2.2.2).trans XK.out.2.2.2.1⟩
     clear c1 c2 c3 c4
     go_wp2
     refine wp_region_held_drew (S:=fun w'=>Below W1.heap.size W1 w') (by kernel_rfl) BD.out (fun hHeld=>?_)
     refine wpAnyH_take (i:=0) (oi:=_) (v:=?_) rfl (by kernel_rfl) (by kernel_rfl) (by kernel_rfl) (fun _ _ _ h=>h) (Or.inl ⟨by rfl,?_⟩) (by assumption) ?_
     rotate_left
     ·intro wz hSw;obtain⟨q1,q2,q3,q4⟩:=QC.out wz hSw;clear hSw;go_simp;try with_reducible rfl
     dsimp only [Act.put,List.getElem_toArray,List.getElem_cons_zero,List.getElem_cons_succ]
     simp only [List.setIfInBounds_toArray,List.set_cons_zero,List.set_cons_succ]
     refine wpAnyH_take (i:=1) (oi:=_) (v:=?_) rfl (by kernel_rfl) (by kernel_rfl) (by kernel_rfl) (fun _ _ _ h=>h) (Or.inl ⟨by rfl,?_⟩) (by assumption) ?_
     rotate_left
     ·intro wz hSw;obtain⟨q1,q2,q3,q4⟩:=QC.out wz hSw;clear hSw;go_simp;try with_reducible rfl
     dsimp only [Act.put,List.getElem_toArray,List.getElem_cons_zero,List.getElem_cons_succ]
     simp only [List.setIfInBounds_toArray,List.set_cons_zero,List.set_cons_succ]
     refine wpAnyH_take (i:=2) (oi:=_) (v:=?_) rfl (by kernel_rfl) (by kernel_rfl) (by kernel_rfl) (fun _ _ _ h=>h) (Or.inl ⟨by rfl,?_⟩) (by assumption) ?_
     rotate_left
     ·intro wz hSw;obtain⟨q1,q2,q3,q4⟩:=QC.out wz hSw;clear hSw;go_simp;try with_reducible rfl
     dsimp only [Act.put,List.getElem_toArray,List.getElem_cons_zero,List.getElem_cons_succ]
     simp only [List.setIfInBounds_toArray,List.set_cons_zero,List.set_cons_succ]
     refine wpAnyH_take (i:=3) (oi:=_) (v:=?_) rfl (by kernel_rfl) (by kernel_rfl) (by kernel_rfl) (fun _ _ _ h=>h) (Or.inl ⟨by rfl,?_⟩) (by assumption) ?_
     rotate_left
     ·intro wz hSw;obtain⟨q1,q2,q3,q4⟩:=QC.out wz hSw;clear hSw;go_simp;try with_reducible rfl
     dsimp only [Act.put,List.getElem_toArray,List.getElem_cons_zero,List.getElem_cons_succ]
     simp only [List.setIfInBounds_toArray,List.set_cons_zero,List.set_cons_succ]
     refine wpAnyH_take (i:=4) (oi:=_) (v:=?_) rfl (by kernel_rfl) (by kernel_rfl) (by kernel_rfl) (fun _ _ _ h=>h) (Or.inl ⟨by rfl,?_⟩) (by assumption) ?_
     rotate_left
     ·intro wz hSw;obtain⟨q1,q2,q3,q4⟩:=QC.out wz hSw;clear hSw;go_simp;try with_reducible rfl
     dsimp only [Act.put,List.getElem_toArray,List.getElem_cons_zero,List.getElem_cons_succ]
     simp only [List.setIfInBounds_toArray,List.set_cons_zero,List.set_cons_succ]
     refine wpAnyH_take (i:=5) (oi:=_) (v:=?_) rfl (by kernel_rfl) (by kernel_rfl) (by kernel_rfl) (fun _ _ _ h=>h) (Or.inl ⟨by rfl,?_⟩) (by assumption) ?_
     rotate_left
     ·intro wz hSw;obtain⟨q1,q2,q3,q4⟩:=QC.out wz hSw;clear hSw;go_simp;try with_reducible rfl
     dsimp only [Act.put,List.getElem_toArray,List.getElem_cons_zero,List.getElem_cons_succ]
     simp only [List.setIfInBounds_toArray,List.set_cons_zero,List.set_cons_succ]
     refine wpAnyH_take (i:=6) (oi:=_) (v:=?_) rfl (by kernel_rfl) (by kernel_rfl) (by kernel_rfl) (fun _ _ _ h=>h) (Or.inl ⟨by rfl,?_⟩) (by assumption) ?_
     rotate_left
     ·intro wz hSw;obtain⟨q1,q2,q3,q4⟩:=QC.out wz hSw;clear hSw;go_simp;try with_reducible rfl
     dsimp only [Act.put,List.getElem_toArray,List.getElem_cons_zero,List.getElem_cons_succ]
     simp only [List.setIfInBounds_toArray,List.set_cons_zero,List.set_cons_succ]
     refine wpAnyH_take (i:=7) (oi:=_) (v:=?_) rfl (by kernel_rfl) (by kernel_rfl) (by kernel_rfl) (fun _ _ _ h=>h) (Or.inl ⟨by rfl,?_⟩) (by assumption) ?_
     rotate_left
     ·intro wz hSw;obtain⟨q1,q2,q3,q4⟩:=QC.out wz hSw;clear hSw;go_simp;try with_reducible rfl
     dsimp only [Act.put,List.getElem_toArray,List.getElem_cons_zero,List.getElem_cons_succ]
     simp only [List.setIfInBounds_toArray,List.set_cons_zero,List.set_cons_succ]
     refine wpAnyH_take (i:=8) (oi:=_) (v:=?_) rfl (by kernel_rfl) (by kernel_rfl) (by kernel_rfl) (fun _ _ _ h=>h) (Or.inl ⟨by rfl,?_⟩) (by assumption) ?_
     rotate_left
     ·intro wz hSw;obtain⟨q1,q2,q3,q4⟩:=QC.out wz hSw;clear hSw;go_simp;try with_reducible rfl
     dsimp only [Act.put,List.getElem_toArray,List.getElem_cons_zero,List.getElem_cons_succ]
     simp only [List.setIfInBounds_toArray,List.set_cons_zero,List.set_cons_succ]
     refine wpAnyH_take (i:=9) (oi:=_) (v:=?_) rfl (by kernel_rfl) (by kernel_rfl) (by kernel_rfl) (fun _ _ _ h=>h) (Or.inl ⟨by rfl,?_⟩) (by assumption) ?_
     rotate_left
     ·intro wz hSw;obtain⟨q1,q2,q3,q4⟩:=QC.out wz hSw;clear hSw;go_simp;try with_reducible rfl
     dsimp only [Act.put,List.getElem_toArray,List.getElem_cons_zero,List.getElem_cons_succ]
     simp only [List.setIfInBounds_toArray,List.set_cons_zero,List.set_cons_succ]
     refine wpAnyH_take (i:=10) (oi:=_) (v:=?_) rfl (by kernel_rfl) (by kernel_rfl) (by kernel_rfl) (fun _ _ _ h=>h) (Or.inl ⟨by rfl,?_⟩) (by assumption) ?_
     rotate_left
     ·intro wz hSw;obtain⟨q1,q2,q3,q4⟩:=QC.out wz hSw;clear hSw;go_simp;try with_reducible rfl
     dsimp only [Act.put,List.getElem_toArray,List.getElem_cons_zero,List.getElem_cons_succ]
     simp only [List.setIfInBounds_toArray,List.set_cons_zero,List.set_cons_succ]
     refine wpAnyH_take (i:=11) (oi:=_) (v:=?_) rfl (by kernel_rfl) (by kernel_rfl) (by kernel_rfl) (fun _ _ _ h=>h) (Or.inl ⟨by rfl,?_⟩) (by assumption) ?_
     rotate_left
     ·intro wz hSw;obtain⟨q1,q2,q3,q4⟩:=QC.out wz hSw;clear hSw;go_simp;try with_reducible rfl
     dsimp only [Act.put,List.getElem_toArray,List.getElem_cons_zero,List.getElem_cons_succ]
     simp only [List.setIfInBounds_toArray,List.set_cons_zero,List.set_cons_succ]
     refine wpAnyH_take (i:=12) (oi:=_) (v:=?_) rfl (by kernel_rfl) (by kernel_rfl) (by kernel_rfl) (fun _ _ _ h=>h) (Or.inl ⟨by rfl,?_⟩) (by assumption) ?_
     rotate_left
     ·intro wz hSw;obtain⟨q1,q2,q3,q4⟩:=QC.out wz hSw;clear hSw;go_simp;try with_reducible rfl
     dsimp only [Act.put,List.getElem_toArray,List.getElem_cons_zero,List.getElem_cons_succ]
     simp only [List.setIfInBounds_toArray,List.set_cons_zero,List.set_cons_succ]
     refine wpAnyH_take (i:=13) (oi:=_) (v:=?_) rfl (by kernel_rfl) (by kernel_rfl) (by kernel_rfl) (fun _ _ _ h=>h) (Or.inl ⟨by rfl,?_⟩) (by assumption) ?_
     rotate_left
     ·intro wz hSw;obtain⟨q1,q2,q3,q4⟩:=QC.out wz hSw;clear hSw;go_simp;try with_reducible rfl
     dsimp only [Act.put,List.getElem_toArray,List.getElem_cons_zero,List.getElem_cons_succ]
     simp only [List.setIfInBounds_toArray,List.set_cons_zero,List.set_cons_succ]
     refine wpAnyH_take (i:=14) (oi:=_) (v:=?_) rfl (by kernel_rfl) (by kernel_rfl) (by kernel_rfl) (fun _ _ _ h=>h) (Or.inl ⟨by rfl,?_⟩) (by assumption) ?_
     rotate_left
     ·intro wz hSw;obtain⟨q1,q2,q3,q4⟩:=QC.out wz hSw;clear hSw;go_simp;try with_reducible rfl
     dsimp only [Act.put,List.getElem_toArray,List.getElem_cons_zero,List.getElem_cons_succ]
     simp only [List.setIfInBounds_toArray,List.set_cons_zero,List.set_cons_succ]
     refine wpAnyH_take (i:=15) (oi:=_) (v:=?_) rfl (by kernel_rfl) (by kernel_rfl) (by kernel_rfl) (fun _ _ _ h=>h) (Or.inl ⟨by rfl,?_⟩) (by assumption) ?_
     rotate_left
     ·intro wz hSw;obtain⟨q1,q2,q3,q4⟩:=QC.out wz hSw;clear hSw;go_simp;try with_reducible rfl
     dsimp only [Act.put,List.getElem_toArray,List.getElem_cons_zero,List.getElem_cons_succ]
     simp only [List.setIfInBounds_toArray,List.set_cons_zero,List.set_cons_succ]
     refine wpAnyH_take (i:=16) (oi:=_) (v:=?_) rfl (by kernel_rfl) (by kernel_rfl) (by kernel_rfl) (fun _ _ _ h=>h) (Or.inl ⟨by rfl,?_⟩) (by assumption) ?_
     rotate_left
     ·intro wz hSw;obtain⟨q1,q2,q3,q4⟩:=QC.out wz hSw;clear hSw;go_simp;try with_reducible rfl
     dsimp only [Act.put,List.getElem_toArray,List.getElem_cons_zero,List.getElem_cons_succ]
     simp only [List.setIfInBounds_toArray,List.set_cons_zero,List.set_cons_succ]
     refine wpAnyH_take (i:=17) (oi:=_) (v:=?_) rfl (by kernel_rfl) (by kernel_rfl) (by kernel_rfl) (fun _ _ _ h=>h) (Or.inl ⟨by rfl,?_⟩) (by assumption) ?_
     rotate_left
     ·intro wz hSw;obtain⟨q1,q2,q3,q4⟩:=QC.out wz hSw;clear hSw;go_simp;try with_reducible rfl
     dsimp only [Act.put,List.getElem_toArray,List.getElem_cons_zero,List.getElem_cons_succ]
     simp only [List.setIfInBounds_toArray,List.set_cons_zero,List.set_cons_succ]
     refine wpAnyH_take (i:=18) (oi:=_) (v:=?_) rfl (by kernel_rfl) (by kernel_rfl) (by kernel_rfl) (fun _ _ _ h=>h) (Or.inl ⟨by rfl,?_⟩) (by assumption) ?_
     rotate_left
     ·intro wz hSw;obtain⟨q1,q2,q3,q4⟩:=QC.out wz hSw;clear hSw;go_simp;try with_reducible rfl
     dsimp only [Act.put,List.getElem_toArray,List.getElem_cons_zero,List.getElem_cons_succ]
     simp only [List.setIfInBounds_toArray,List.set_cons_zero,List.set_cons_succ]
     refine wpAnyH_take (i:=19) (oi:=_) (v:=?_) rfl (by kernel_rfl) (by kernel_rfl) (by kernel_rfl) (fun _ _ _ h=>h) (Or.inl ⟨by rfl,?_⟩) (by assumption) ?_
     rotate_left
     ·intro wz hSw;obtain⟨q1,q2,q3,q4⟩:=QC.out wz hSw;clear hSw;go_simp;try with_reducible rfl
     dsimp only [Act.put,List.getElem_toArray,List.getElem_cons_zero,List.getElem_cons_succ]
     simp only [List.setIfInBounds_toArray,List.set_cons_zero,List.set_cons_succ]
     refine wpAnyH_take (i:=20) (oi:=_) (v:=?_) rfl (by kernel_rfl) (by kernel_rfl) (by kernel_rfl) (fun _ _ _ h=>h) (Or.inl ⟨by rfl,?_⟩) (by assumption) ?_
     rotate_left
     ·intro wz hSw;obtain⟨q1,q2,q3,q4⟩:=QC.out wz hSw;clear hSw;go_simp;try with_reducible rfl
     dsimp only [Act.put,List.getElem_toArray,List.getElem_cons_zero,List.getElem_cons_succ]
     simp only [List.setIfInBounds_toArray,List.set_cons_zero,List.set_cons_succ]
     refine wpAnyH_take (i:=21) (oi:=_) (v:=?_) rfl (by kernel_rfl) (by kernel_rfl) (by kernel_rfl) (fun _ _ _ h=>h) (Or.inl ⟨by rfl,?_⟩) (by assumption) ?_
     rotate_left
     ·intro wz hSw;obtain⟨q1,q2,q3,q4⟩:=QC.out wz hSw;clear hSw;go_simp;try with_reducible rfl
     dsimp only [Act.put,List.getElem_toArray,List.getElem_cons_zero,List.getElem_cons_succ]
     simp only [List.setIfInBounds_toArray,List.set_cons_zero,List.set_cons_succ]
     refine wpAnyH_take (i:=22) (oi:=_) (v:=?_) rfl (by kernel_rfl) (by kernel_rfl) (by kernel_rfl) (fun _ _ _ h=>h) (Or.inl ⟨by rfl,?_⟩) (by assumption) ?_
     rotate_left
     ·intro wz hSw;obtain⟨q1,q2,q3,q4⟩:=QC.out wz hSw;clear hSw;go_simp;try with_reducible rfl
     dsimp only [Act.put,List.getElem_toArray,List.getElem_cons_zero,List.getElem_cons_succ]
     simp only [List.setIfInBounds_toArray,List.set_cons_zero,List.set_cons_succ]
     refine wpAnyH_take (i:=23) (oi:=_) (v:=?_) rfl (by kernel_rfl) (by kernel_rfl) (by kernel_rfl) (fun _ _ _ h=>h) (Or.inl ⟨by rfl,?_⟩) (by assumption) ?_
     rotate_left
     ·intro wz hSw;obtain⟨q1,q2,q3,q4⟩:=QC.out wz hSw;clear hSw;go_simp;try with_reducible rfl
     dsimp only [Act.put,List.getElem_toArray,List.getElem_cons_zero,List.getElem_cons_succ]
     simp only [List.setIfInBounds_toArray,List.set_cons_zero,List.set_cons_succ]
     refine wpAnyH_ready (rs:=[24]) (by kernel_rfl) (by simp) ?_
     refine AllReadyH.cons rfl (fun K hK=>?_) AllReadyH.nil
     go_simp
     refine hK.out _ _ (BD.out.alloc (by simp;omega) _) (fun hHeld2=>?_)
     clear hK K
     refine wpAnyH_ready (rs:=[25]) (by kernel_rfl) (by simp) ?_
     refine AllReadyH.cons rfl (fun K hK=>?_) AllReadyH.nil
     refine bF rfl _ _ 22 rfl W1.heap.size 110 t0 (.agg #[.int .i64 0,.int .i64 0]) 2 16 bM ti hz0 hz1 hz2 rfl (by decide) (.slice qo O.length co) O.length (aS O) (by simp [Act.eval]) (World.ownsRow.alloc RD.out (.cells #[.int .i64 cr.1,.int .i64 cr.2] 110)) ⟨wr.heap.size,0,none⟩ 1 1 [.int .i64 cr.1,.int .i64 cr.2] (by simp [Act.eval]) rfl (lF _ _ _ _) (by simp [Value.oneCell']) (by unfold maxLen;omega) (by omega) (by simp;omega) ?_
     intro v' w6 hown' hgrow hblk
     obtain⟨g6,cap6,rfl⟩:=aL hown' (Nat.succ_pos _)
     have A6:Hid (RR W1.heap.size w6 (.slice (some ⟨g6,0,none⟩) (O.length+1) cap6) (O ++ [(cr.1,cr.2)])):=pR hown'
     have B6:Hid (Below W1.heap.size W1 w6):=dC (BD.out.alloc (by simp;omega) _) (World.ownsRow.alloc RD.out _) hgrow
     clear hown' hgrow hblk
     refine hK.out _ _ B6.out (fun hHeld3=>?_)
     clear hK K
     refine wpAnyH_ready (rs:=[26]) (by kernel_rfl) (by simp) ?_
     refine AllReadyH.cons rfl (fun K hK=>?_) AllReadyH.nil
     go_simp
     refine hK.out _ _ B6.out (fun hHeld4=>?_)
     clear hK K
     refine wpAnyH_done (by kernel_rfl) ?_ _
     all_goals (
      go_wp2
      go_roundw
      case rel=>exact⟨j+1,by omega,by go_num,mQ MN2.out.symm A6.out,B6.out⟩
      case measure=>simp [intOf];omega)
    ·have j1:¬ (j:Int) < (B.length:Int):=by omega
     have EE:Hid (fR (A.take (k+1)) B=O):=aD (by rw [PN.out,<- EO.out,List.take_of_length_le (by omega)])
     go_wp2
     go_roundw
     case rel=>exact⟨k+1,by omega,by go_num,mQ EE.out.symm RO.out,BB.out⟩
     case measure=>simp [intOf];omega
  ·have i1:¬ (k:Int) < (A.length:Int):=by omega
   have E:Hid (A.take k=A):=aD (List.take_of_length_le (by omega))
   rw [E.out] at RO
   have LN:Hid ((fR A B).length<=A0.length * B0.length):=aD (by rw [oI];exact Nat.mul_le_mul hla hlb)
   go_wp2_with (go_at_call 117;refine(lQ RO.out.arg (aP4 X5.out.2.1.fit X6.out.2.1.fit) (by have:=LN.out;omega)).mono ?_;rintro e w7 ⟨v7,C,rfl,h1,h2,h3,h4⟩;have X7:Hid (RR wr.heap.size w7 v7 C/\IsC C (In (fR A B))/\C.length<=(fR A B).length/\Below wr.heap.size wr w7):=⟨h1,h2,h3,h4⟩;clear h1 h2 h3 h4)
   go_ret
   have BZ:=aJ BW.out BB.out lz9
   refine⟨_,_,rfl,X7.out.1.mono BZ.size,X7.out.2.1.to fun c=>?_,Nat.le_trans X7.out.2.2.1 LN.out,aJ BZ X7.out.2.2.2 lz9⟩
   rw [aW7,X5.out.2.1.mem,X6.out.2.1.mem]
end
end Go.Proofs.YtjafnbjipgediaaGreatDoor
