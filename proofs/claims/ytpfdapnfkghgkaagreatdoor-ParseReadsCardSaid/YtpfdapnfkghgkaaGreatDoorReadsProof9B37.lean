/-
  Parts of the proof.
-/
import Derived.Test.YtpfdapnfkghgkaaGreatDoorReadsProof9B36
import Derived.Test.YtpfdapnfkghgkaaGreatDoorReadsProof9B13
import Derived.Test.YtpfdapnfkghgkaaGreatDoorReadsProof9B35
import Derived.Test.YtpfdapnfkghgkaaGreatDoorReadsProof9B29
set_option maxRecDepth 100000
set_option maxHeartbeats 8000000
namespace Go.Proofs.YtpfdapnfkghgkaaGreatDoor
open Go Go.RowKit
section
attribute [local go_sem] aR
theorem yA{X Y P Q:List (Int × Int)}{k:Nat}{lo hi:Int}(hP:∀ c,In P c ↔ In (X.take k) c/\¬ In Y c)(hx:X[k]?=some (lo,hi))(hQ:∀ c,In Q c ↔ lo<=c/\c<=hi/\¬ In Y c):∀ c,In (P ++ Q) c ↔ In (X.take (k+1)) c/\¬ In Y c:=fun c=>by
 rw [bV,hP,hQ,fH hx]
 constructor
 ·rintro (⟨p,q⟩ | ⟨p1,p2,q⟩)
  ·exact⟨.inl p,q⟩
  ·exact⟨.inr ⟨p1,p2⟩,q⟩
 ·rintro ⟨p | p,q⟩
  ·exact .inl ⟨p,q⟩
  ·exact .inr ⟨p.1,p.2,q⟩
theorem aU1{w:World}{va vb:Value}{A0 B0:List (Int × Int)}(ha:ArgR w va A0)(hb:ArgR w vb B0)(fa:Fit A0)(fb:Fit B0)(hl1:A0.length+1<=8796093022208)(hl2:B0.length+1<=8796093022208)(hl:A0.length * (B0.length+1)+1<=8796093022208) :
  Calls Tryz.prog 145 #[va,vb] w (lG w (fun c=>In A0 c/\¬ In B0 c) (A0.length * (B0.length+1))):=by
 obtain⟨t0,ti,hz0,hz1,hz2⟩:=aS bF
 have H:Hid ((ArgR w va A0/\Fit A0)/\ArgR w vb B0/\Fit B0):=⟨⟨ha,fa⟩,hb,fb⟩
 clear ha hb fa fb
 obtain⟨N,hN⟩:∃ N,A0.length * (B0.length+1)=N:=⟨_,rfl⟩
 have EN:Hid (A0.length * (B0.length+1)=N):=hN
 rw [hN] at hl ⊢
 clear hN
 go_enter Tryz.func145,Tryz.ntmps145
 go_upto_region 5 with first
  |(go_at_call 144;have hx:=X5.out;clear hx;have hih:=fU (H.out.2.1.kept X5.out.2.2.2) H.out.2.2 hl2;(with_reducible refine hih.mono ?_);clear hih;rintro e w6 ⟨v6,Y,rfl,h1,h2,h3,h4⟩;obtain⟨qb,cb,rfl⟩:=h1.shape;have X6:Hid (RR w5.heap.size w6 (.slice qb Y.length cb) Y/\IsC Y (In B0)/\Y.length<=B0.length/\Below w5.heap.size w5 w6):=⟨h1,h2,h3,h4⟩;clear h1 h2 h3 h4)
  |(go_at_call 144;have hih:=fU H.out.1.1 H.out.1.2 hl1;(with_reducible refine hih.mono ?_);clear hih;rintro e w5 ⟨v5,X,rfl,h1,h2,h3,h4⟩;obtain⟨qa,ca,rfl⟩:=h1.shape;have X5:Hid (RR w.heap.size w5 (.slice qa X.length ca) X/\IsC X (In A0)/\X.length<=A0.length/\Below w.heap.size w w5):=⟨h1,h2,h3,h4⟩;clear h1 h2 h3 h4)
 rename World=>W1
 have hla:=X5.out.2.2.1
 have hlb:=X6.out.2.2.1
 have HA:Hid (∀ (i:Nat) (r:Int × Int),X[i]?=some r->∃ g off,qa=some ⟨g,off,none⟩/\g < W1.heap.size/\W1.cell? ⟨g,off+2 * i,none⟩=some (.int .i64 r.1)/\W1.cell? ⟨g,off+2 * i+1,none⟩=some (.int .i64 r.2)):=by
  obtain⟨q',cap',e,-,-,hc⟩:=(X5.out.1.kept X6.out.2.2.2).arg.slice
  cases e
  exact hc
 have HB:Hid (∀ (i:Nat) (r:Int × Int),Y[i]?=some r->∃ g off,qb=some ⟨g,off,none⟩/\g < W1.heap.size/\W1.cell? ⟨g,off+2 * i,none⟩=some (.int .i64 r.1)/\W1.cell? ⟨g,off+2 * i+1,none⟩=some (.int .i64 r.2)):=by
  obtain⟨q',cap',e,-,-,hc⟩:=X6.out.1.arg.slice
  cases e
  exact hc
 have LP:Hid (∀ i,i<=X.length->i * (Y.length+1)<=N):=fun i hi=>by
  rw [<- EN.out]
  exact Nat.mul_le_mul (by omega) (by omega)
 have BW:Hid (Below w.heap.size w W1):=aE X5.out.2.2.2 X6.out.2.2.2 lz9
 go_loopw [7,8] (fun ov i wr=>∃ (k:Nat) (P:List (Int × Int)),k<=X.length/\i=.int .i64 k/\RR W1.heap.size wr ov P/\Fit P/\P.length<=k * (Y.length+1)/\(∀ c,In P c ↔ In (X.take k) c/\¬ In Y c)/\Below W1.heap.size W1 wr) (fun _ i _=>X.length - (intOf i).toNat)
 case atStart=>exact⟨0,[],Nat.zero_le _,rfl,RR.nil _ _,cL,by simp,fun c=>by simp [In],Below.refl _ _⟩
 case round=>
  obtain⟨k,P,hk,rfl,hrr,hfp,hpl,hpm,hb⟩:=hrel
  have RO:Hid (RR W1.heap.size wr u7 P):=hrr
  have BB:Hid (Below W1.heap.size W1 wr):=hb
  have PP:Hid (Fit P/\P.length<=k * (Y.length+1)/\∀ c,In P c ↔ In (X.take k) c/\¬ In Y c):=⟨hfp,hpl,hpm⟩
  clear hrr hb hfp hpl hpm
  by_cases hlt:k < X.length
  ·obtain⟨r,er⟩:∃ r,X[k]?=some r:=⟨_,List.getElem?_eq_getElem hlt⟩
   obtain⟨gx,ox,rfl,hgx,x1,x2⟩:=HA.out k _ er
   have c1:=(BB.out.cell (p:=⟨gx,ox+2 * k,none⟩) hgx).trans x1
   have c2:=(BB.out.cell (p:=⟨gx,ox+2 * k+1,none⟩) hgx).trans x2
   rw [Nat.mul_comm] at c1 c2
   have hrm:=List.mem_of_getElem? er
   have hs:=X5.out.2.1.cls.some r hrm
   have hfr:=X5.out.2.1.fit r hrm
   obtain⟨lo,hi⟩:=r
   dsimp only at c1 c2 hs hfr
   have ER:Hid (X[k]?=some (lo,hi)):=er
   have hPl:P.length+Y.length+1<=N:=by have h1:=LP.out (k+1) (by omega);rw [Nat.succ_mul] at h1;have:=PP.out.2.1;omega
   have LS:Hid (LI Y lo hi 0 lo true []):=LI.start hs
   have NX:Hid (∀ Q,Fit Q->Q.length<=Y.length+1->(∀ c,In Q c ↔ lo<=c/\c<=hi/\¬ In Y c)->Fit (P ++ Q)/\(P ++ Q).length<=(k+1) * (Y.length+1)/\∀ c,In (P ++ Q) c ↔ In (X.take (k+1)) c/\¬ In Y c):=fun Q h1 h2 h3=>⟨bW PP.out.1 h1,by rw [Nat.succ_mul,List.length_append];have:=PP.out.2.1;omega,yA PP.out.2.2 ER.out h3⟩
   have i0:(0:Int)<=(k:Int):=by omega
   have i1:(k:Int) < (X.length:Int):=by omega
   rename World=>W2
   have LS0:Hid (LW W1 (W2.alloc (.cells #[.int .i64 lo,.int .i64 hi] 99)) W2.heap.size lo hi u7 (P ++ [])):=⟨by rw [List.append_nil];exact World.ownsRow.alloc RO.out _,aG W2 _,fun e=>by have:=(aH RO.out e).2.1;omega,BB.out.alloc BB.out.size _,BB.out.size⟩
   clear x1 x2 er hrm hgx RO BB
   go_wp2
   go_loopw [7,10,11] (fun ov lf i wr=>∃ (j:Nat) (l:Int) (left:Bool) (Q:List (Int × Int)),j<=Y.length/\i=.int .i64 j/\lf=.bool left/\LW W1 wr W2.heap.size l hi ov (P ++ Q)/\LI Y lo hi j l left Q) (fun _ _ i _=>Y.length - (intOf i).toNat)
   case atStart=>exact⟨0,lo,true,[],Nat.zero_le _,rfl,rfl,LS0.out,LS.out⟩
   case round=>
    clear LS0 LS c1 c2
    obtain⟨j,l,left,Q,hj,rfl,rfl,hW,hI⟩:=hrel
    obtain⟨O,hO⟩:∃ O,P ++ Q=O:=⟨_,rfl⟩
    have EO:Hid (P ++ Q=O):=hO
    have I:Hid (LI Y lo hi j l left Q):=hI
    have hql:=hI.len
    have hol:O.length=P.length+Q.length:=by rw [<- hO,List.length_append]
    have HOL:Hid (O.length+1<=8796093022208):=aC (by omega)
    rw [hO] at hW
    obtain⟨qo,co,e3⟩:=hW.own.shape
    subst e3
    have M0:Hid (LW W1 wr W2.heap.size l hi (.slice qo O.length co) O):=hW
    have b0:=hW.c0
    have b1:=hW.c1
    have s1:=hW.lt
    clear hW hI hO hol
    have j0:(0:Int)<=(j:Int):=by omega
    have hol:=HOL.out
    cases left with
    | false=>
     have FF:Hid _:=NX.out Q I.out.fit (by omega) I.out.none
     by_cases hjl:j < Y.length
     ·have j1:(j:Int) < (Y.length:Int):=by omega
      go_wp2
      go_roundw
      case rel=>exact⟨k+1,O,by omega,by go_num,M0.out.own,EO.out ▸ FF.out.1,EO.out ▸ FF.out.2.1,EO.out ▸ FF.out.2.2,M0.out.bel⟩
      case measure=>simp [intOf];omega
     ·have j1:¬ (j:Int) < (Y.length:Int):=by omega
      go_wp2
      go_roundw
      case rel=>exact⟨k+1,O,by omega,by go_num,M0.out.own,EO.out ▸ FF.out.1,EO.out ▸ FF.out.2.1,EO.out ▸ FF.out.2.2,M0.out.bel⟩
      case measure=>simp [intOf];omega
    | true=>
     have hbnd:=I.out.bnd rfl
     by_cases hjl:j < Y.length
     ·have j1:(j:Int) < (Y.length:Int):=by omega
      obtain⟨y,ey⟩:∃ r,Y[j]?=some r:=⟨_,List.getElem?_eq_getElem hjl⟩
      obtain⟨gy,oy,rfl,hgy,z1,z2⟩:=HB.out j _ ey
      rw [Nat.mul_comm] at z1 z2
      have hfy:=X6.out.2.1.fit y (List.mem_of_getElem? ey)
      obtain⟨yl,yh⟩:=y
      dsimp only at z1 z2 hfy
      have YK:Hid (W1.cell? ⟨gy,oy+j * 2,none⟩=some (.int .i64 yl)/\W1.cell? ⟨gy,oy+j * 2+1,none⟩=some (.int .i64 yh)/\gy < W1.heap.size):=⟨z1,z2,hgy⟩
      have EY:Hid (Y[j]?=some (yl,yh)):=ey
      have y1:=(M0.out.bel.cell (p:=⟨gy,oy+j * 2,none⟩) hgy).trans z1
      have y2:=(M0.out.bel.cell (p:=⟨gy,oy+j * 2+1,none⟩) hgy).trans z2
      have s2:gy < wr.heap.size:=Nat.lt_of_lt_of_le hgy M0.out.bel.size
      clear z1 z2 ey hgy
      by_cases h1:yh < l
      ·have d1:decide (yh < l)=true:=decide_eq_true h1
       have SK:Hid (LI Y lo hi (j+1) l true Q):=I.out.skip EY.out (.inl h1)
       go_wp2
       refine wx9 ?_
       repeat (go_big_quiet_step (first | exact rfl))
       refine wpQuiet_nil ?_
       intro w12 hw12
       have M12:Hid (LW W1 w12 W2.heap.size l hi (.slice qo O.length co) O):=M0.out.kept (aD hw12)
       clear hw12 b0 b1 y1 y2 s1 s2
       have b0:=M12.out.c0
       have b1:=M12.out.c1
       have y1:=(M12.out.bel.cell (p:=⟨gy,oy+j * 2,none⟩) YK.out.2.2).trans YK.out.1
       have y2:=(M12.out.bel.cell (p:=⟨gy,oy+j * 2+1,none⟩) YK.out.2.2).trans YK.out.2.1
       have s1:=M12.out.lt
       have s2:gy < w12.heap.size:=Nat.lt_of_lt_of_le YK.out.2.2 M12.out.bel.size
       go_wp2
       go_roundw
       case rel=>exact⟨j+1,l,true,Q,by omega,by go_num,rfl,by rw [EO.out];exact M12.out,SK.out⟩
       case measure=>simp [intOf];omega
      ·have d1:decide (yh < l)=false:=decide_eq_false h1
       by_cases h2:hi < yl
       ·have d2:decide (hi < yl)=true:=decide_eq_true h2
        have SK:Hid (LI Y lo hi (j+1) l true Q):=I.out.skip EY.out (.inr h2)
        go_wp2
        refine wx9 ?_
        repeat (go_big_quiet_step (first | exact rfl))
        refine wpQuiet_nil ?_
        intro w12 hw12
        have M12:Hid (LW W1 w12 W2.heap.size l hi (.slice qo O.length co) O):=M0.out.kept (aD hw12)
        clear hw12 b0 b1 y1 y2 s1 s2
        have b0:=M12.out.c0
        have b1:=M12.out.c1
        have y1:=(M12.out.bel.cell (p:=⟨gy,oy+j * 2,none⟩) YK.out.2.2).trans YK.out.1
        have y2:=(M12.out.bel.cell (p:=⟨gy,oy+j * 2+1,none⟩) YK.out.2.2).trans YK.out.2.1
        have s1:=M12.out.lt
        have s2:gy < w12.heap.size:=Nat.lt_of_lt_of_le YK.out.2.2 M12.out.bel.size
        go_wp2
        go_roundw
        case rel=>exact⟨j+1,l,true,Q,by omega,by go_num,rfl,by rw [EO.out];exact M12.out,SK.out⟩
        case measure=>simp [intOf];omega
       ·have d2:decide (hi < yl)=false:=decide_eq_false h2
        have CUT:Hid ((yh < hi->LI Y lo hi (j+1) (yh+1) true (eM l yl Q))/\(¬ yh < hi->∀ l',LI Y lo hi (j+1) l' false (eM l yl Q))):=I.out.cut X6.out.2.1.cls X6.out.2.1.fit (by omega) EY.out h1 h2
        by_cases h3:l < yl
        ·have d3:decide (l < yl)=true:=decide_eq_true h3
         have wl:IntKind.wrap .i64 (yl - 1)=yl - 1:=by rw [IntKind.wrap_i64];omega
         have EG:Hid (P ++ eM l yl Q=O ++ [(l,yl - 1)]):=aC (by rw [mV h3,<- List.append_assoc,EO.out])
         go_wp2
         refine wx9 ?_
         repeat (go_big_quiet_step (first | exact rfl))
         refine wpQuiet_nil ?_
         intro w12 hw12
         have M12:Hid (LW W1 w12 W2.heap.size l hi (.slice qo O.length co) O):=M0.out.kept (aD hw12)
         clear hw12 b0 b1 y1 y2 s1 s2
         have b0:=M12.out.c0
         have b1:=M12.out.c1
         have y1:=(M12.out.bel.cell (p:=⟨gy,oy+j * 2,none⟩) YK.out.2.2).trans YK.out.1
         have y2:=(M12.out.bel.cell (p:=⟨gy,oy+j * 2+1,none⟩) YK.out.2.2).trans YK.out.2.1
         have s1:=M12.out.lt
         have s2:gy < w12.heap.size:=Nat.lt_of_lt_of_le YK.out.2.2 M12.out.bel.size
         go_wp2
         refine wx9 ?_
         repeat (go_big_quiet_step (first | exact rfl))
         refine wpQuiet_nil ?_
         intro w13 hw13
         have M13:Hid (LW W1 w13 W2.heap.size l hi (.slice qo O.length co) O):=M12.out.kept (aD hw13)
         clear hw13 b0 b1 y1 y2 s1 s2
         have b0:=M13.out.c0
         have b1:=M13.out.c1
         have y1:=(M13.out.bel.cell (p:=⟨gy,oy+j * 2,none⟩) YK.out.2.2).trans YK.out.1
         have y2:=(M13.out.bel.cell (p:=⟨gy,oy+j * 2+1,none⟩) YK.out.2.2).trans YK.out.2.1
         have s1:=M13.out.lt
         have s2:gy < w13.heap.size:=Nat.lt_of_lt_of_le YK.out.2.2 M13.out.bel.size
         have MD:Hid (LW W1 w13.drew W2.heap.size l hi (.slice qo O.length co) O):=M13.out.kept (Below.refl _ _).drew
         have QC:Hid (∀ w',(Below W1.heap.size W1 w'/\w'.heap[W2.heap.size]?=some (.cells #[.int .i64 l,.int .i64 hi] 99 (0,0)))->w'.cell? ⟨W2.heap.size,0,none⟩=some (.int .i64 l)/\w'.cell? ⟨gy,oy+j * 2,none⟩=some (.int .i64 yl)):=fun w' h=>⟨aB h.2 (i:=0) rfl,(h.1.cell (p:=⟨gy,oy+j * 2,none⟩) YK.out.2.2).trans YK.out.1⟩
         have hz13:=M13.out.bel.size
         go_wp2
         refine wp_region_held_drew (S:=fun w'=>Below W1.heap.size W1 w'/\w'.heap[W2.heap.size]?=some (.cells #[.int .i64 l,.int .i64 hi] 99 (0,0))) (by kernel_rfl) ⟨MD.out.bel,MD.out.box⟩ (fun hHeld=>?_)
         refine wpAnyH_take (i:=0) (oi:=_) (v:=?_) rfl (by kernel_rfl) (by kernel_rfl) (by kernel_rfl) (fun _ _ _ h=>h) (Or.inl ⟨by rfl,?_⟩) (by assumption) ?_
         rotate_left
         ·intro wz hSw;obtain⟨q1,q2⟩:=QC.out wz hSw;clear hSw;go_simp;try with_reducible rfl
         dsimp only [Act.put,List.getElem_toArray,List.getElem_cons_zero,List.getElem_cons_succ]
         simp only [List.setIfInBounds_toArray,List.set_cons_zero,List.set_cons_succ]
         refine wpAnyH_take (i:=1) (oi:=_) (v:=?_) rfl (by kernel_rfl) (by kernel_rfl) (by kernel_rfl) (fun _ _ _ h=>h) (Or.inl ⟨by rfl,?_⟩) (by assumption) ?_
         rotate_left
         ·intro wz hSw;obtain⟨q1,q2⟩:=QC.out wz hSw;clear hSw;go_simp;try with_reducible rfl
         dsimp only [Act.put,List.getElem_toArray,List.getElem_cons_zero,List.getElem_cons_succ]
         simp only [List.setIfInBounds_toArray,List.set_cons_zero,List.set_cons_succ]
         refine wpAnyH_take (i:=2) (oi:=_) (v:=?_) rfl (by kernel_rfl) (by kernel_rfl) (by kernel_rfl) (fun _ _ _ h=>h) (Or.inl ⟨by rfl,?_⟩) (by assumption) ?_
         rotate_left
         ·intro wz hSw;obtain⟨q1,q2⟩:=QC.out wz hSw;clear hSw;go_simp;try with_reducible rfl
         dsimp only [Act.put,List.getElem_toArray,List.getElem_cons_zero,List.getElem_cons_succ]
         simp only [List.setIfInBounds_toArray,List.set_cons_zero,List.set_cons_succ]
         refine wpAnyH_take (i:=3) (oi:=_) (v:=?_) rfl (by kernel_rfl) (by kernel_rfl) (by kernel_rfl) (fun _ _ _ h=>h) (Or.inl ⟨by rfl,?_⟩) (by assumption) ?_
         rotate_left
         ·intro wz hSw;obtain⟨q1,q2⟩:=QC.out wz hSw;clear hSw;go_simp;try with_reducible rfl
         dsimp only [Act.put,List.getElem_toArray,List.getElem_cons_zero,List.getElem_cons_succ]
         simp only [List.setIfInBounds_toArray,List.set_cons_zero,List.set_cons_succ]
         refine wpAnyH_take (i:=4) (oi:=_) (v:=?_) rfl (by kernel_rfl) (by kernel_rfl) (by kernel_rfl) (fun _ _ _ h=>h) (Or.inl ⟨by rfl,?_⟩) (by assumption) ?_
         rotate_left
         ·intro wz hSw;obtain⟨q1,q2⟩:=QC.out wz hSw;clear hSw;go_simp;try with_reducible rfl
         dsimp only [Act.put,List.getElem_toArray,List.getElem_cons_zero,List.getElem_cons_succ]
         simp only [List.setIfInBounds_toArray,List.set_cons_zero,List.set_cons_succ]
         refine wpAnyH_take (i:=5) (oi:=_) (v:=?_) rfl (by kernel_rfl) (by kernel_rfl) (by kernel_rfl) (fun _ _ _ h=>h) (Or.inl ⟨by rfl,?_⟩) (by assumption) ?_
         rotate_left
         ·intro wz hSw;obtain⟨q1,q2⟩:=QC.out wz hSw;clear hSw;go_simp;try with_reducible rfl
         dsimp only [Act.put,List.getElem_toArray,List.getElem_cons_zero,List.getElem_cons_succ]
         simp only [List.setIfInBounds_toArray,List.set_cons_zero,List.set_cons_succ]
         refine wpAnyH_take (i:=6) (oi:=_) (v:=?_) rfl (by kernel_rfl) (by kernel_rfl) (by kernel_rfl) (fun _ _ _ h=>h) (Or.inl ⟨by rfl,?_⟩) (by assumption) ?_
         rotate_left
         ·intro wz hSw;obtain⟨q1,q2⟩:=QC.out wz hSw;clear hSw;go_simp;try with_reducible rfl
         dsimp only [Act.put,List.getElem_toArray,List.getElem_cons_zero,List.getElem_cons_succ]
         simp only [List.setIfInBounds_toArray,List.set_cons_zero,List.set_cons_succ]
         refine wpAnyH_take (i:=7) (oi:=_) (v:=?_) rfl (by kernel_rfl) (by kernel_rfl) (by kernel_rfl) (fun _ _ _ h=>h) (Or.inl ⟨by rfl,?_⟩) (by assumption) ?_
         rotate_left
         ·intro wz hSw;obtain⟨q1,q2⟩:=QC.out wz hSw;clear hSw;go_simp;try with_reducible rfl
         dsimp only [Act.put,List.getElem_toArray,List.getElem_cons_zero,List.getElem_cons_succ]
         simp only [List.setIfInBounds_toArray,List.set_cons_zero,List.set_cons_succ]
         refine wpAnyH_take (i:=8) (oi:=_) (v:=?_) rfl (by kernel_rfl) (by kernel_rfl) (by kernel_rfl) (fun _ _ _ h=>h) (Or.inl ⟨by rfl,?_⟩) (by assumption) ?_
         rotate_left
         ·intro wz hSw;obtain⟨q1,q2⟩:=QC.out wz hSw;clear hSw;go_simp;try with_reducible rfl
         dsimp only [Act.put,List.getElem_toArray,List.getElem_cons_zero,List.getElem_cons_succ]
         simp only [List.setIfInBounds_toArray,List.set_cons_zero,List.set_cons_succ]
         refine wpAnyH_take (i:=9) (oi:=_) (v:=?_) rfl (by kernel_rfl) (by kernel_rfl) (by kernel_rfl) (fun _ _ _ h=>h) (Or.inl ⟨by rfl,?_⟩) (by assumption) ?_
         rotate_left
         ·intro wz hSw;obtain⟨q1,q2⟩:=QC.out wz hSw;clear hSw;go_simp;try with_reducible rfl
         dsimp only [Act.put,List.getElem_toArray,List.getElem_cons_zero,List.getElem_cons_succ]
         simp only [List.setIfInBounds_toArray,List.set_cons_zero,List.set_cons_succ]
         refine wpAnyH_ready (rs:=[10]) (by kernel_rfl) (by simp) ?_
         refine AllReadyH.cons rfl (fun K hK=>?_) AllReadyH.nil
         go_simp
         refine hK.out _ _ ⟨MD.out.bel.alloc MD.out.bel.size _,(Below.heap_alloc _ _ _ MD.out.lt).trans MD.out.box⟩ (fun hHeld2=>?_)
         clear hK K
         refine wpAnyH_ready (rs:=[11]) (by kernel_rfl) (by simp) ?_
         refine AllReadyH.cons rfl (fun K hK=>?_) AllReadyH.nil
         refine dM rfl _ _ 25 rfl W1.heap.size 99 t0 (.agg #[.int .i64 0,.int .i64 0]) 2 16 aO ti hz0 hz1 hz2 rfl (by decide) (.slice qo O.length co) O.length (aM O) (by simp [Act.eval]) (World.ownsRow.alloc MD.out.own (.cells #[.int .i64 l,.int .i64 (yl - 1)] 99)) ⟨w13.heap.size,0,none⟩ 1 1 [.int .i64 l,.int .i64 (yl - 1)] (by simp [Act.eval]) rfl (fG _ _ _ _) (by simp [Value.oneCell']) (by unfold maxLen;omega) (by omega) (by simp;omega) ?_
         intro v' w14 hown' hgrow hblk
         obtain⟨g6,cap6,rfl⟩:=aI hown' (Nat.succ_pos _)
         have M14:Hid (LW W1 w14 W2.heap.size l hi (.slice (some ⟨g6,0,none⟩) (O.length+1) cap6) (O ++ [(l,yl - 1)])):=MD.out.app hgrow hown' hblk
         clear hown' hgrow hblk
         refine hK.out _ _ ⟨M14.out.bel,M14.out.box⟩ (fun hHeld3=>?_)
         clear hK K
         refine wpAnyH_ready (rs:=[12]) (by kernel_rfl) (by simp) ?_
         refine AllReadyH.cons rfl (fun K hK=>?_) AllReadyH.nil
         go_simp
         refine hK.out _ _ ⟨M14.out.bel,M14.out.box⟩ (fun hHeld4=>?_)
         clear hK K
         refine wpAnyH_done (by kernel_rfl) ?_ _
         clear hHeld hHeld2 hHeld3 hHeld4 b0 b1 y1 y2 s1 s2
         have b0:=M14.out.c0
         have b1:=M14.out.c1
         have y1:=(M14.out.bel.cell (p:=⟨gy,oy+j * 2,none⟩) YK.out.2.2).trans YK.out.1
         have y2:=(M14.out.bel.cell (p:=⟨gy,oy+j * 2+1,none⟩) YK.out.2.2).trans YK.out.2.1
         have s1:=M14.out.lt
         have s2:gy < w14.heap.size:=Nat.lt_of_lt_of_le YK.out.2.2 M14.out.bel.size
         by_cases h4:yh < hi
         ·have d4:decide (yh < hi)=true:=decide_eq_true h4
          have wy:IntKind.wrap .i64 (yh+1)=yh+1:=by rw [IntKind.wrap_i64];omega
          have CC:Hid (LI Y lo hi (j+1) (yh+1) true (eM l yl Q)):=CUT.out.1 h4
          go_wp2
          refine wx9 ?_
          repeat (go_big_quiet_step (first | exact rfl))
          refine wpQuiet_nil ?_
          intro w15 hw15
          have M15:Hid (LW W1 w15 W2.heap.size l hi (.slice (some ⟨g6,0,none⟩) (O.length+1) cap6) (O ++ [(l,yl - 1)])):=M14.out.kept (aD hw15)
          clear hw15 b0 b1 y1 y2 s1 s2
          have b0:=M15.out.c0
          have b1:=M15.out.c1
          have y1:=(M15.out.bel.cell (p:=⟨gy,oy+j * 2,none⟩) YK.out.2.2).trans YK.out.1
          have y2:=(M15.out.bel.cell (p:=⟨gy,oy+j * 2+1,none⟩) YK.out.2.2).trans YK.out.2.1
          have s1:=M15.out.lt
          have s2:gy < w15.heap.size:=Nat.lt_of_lt_of_le YK.out.2.2 M15.out.bel.size
          have f0:w15.frozen? ⟨W2.heap.size,0,none⟩=false:=aP M15.out.box 0
          go_wp2
          go_roundw
          case rel=>exact⟨j+1,yh+1,true,eM l yl Q,by omega,by go_num,rfl,by rw [EG.out];exact M15.out.put,CC.out⟩
          case measure=>simp [intOf];omega
         ·have d4:decide (yh < hi)=false:=decide_eq_false h4
          have CC:Hid (LI Y lo hi (j+1) l false (eM l yl Q)):=CUT.out.2 (by omega) l
          go_wp2
          refine wx9 ?_
          repeat (go_big_quiet_step (first | exact rfl))
          refine wpQuiet_nil ?_
          intro w15 hw15
          have M15:Hid (LW W1 w15 W2.heap.size l hi (.slice (some ⟨g6,0,none⟩) (O.length+1) cap6) (O ++ [(l,yl - 1)])):=M14.out.kept (aD hw15)
          clear hw15 b0 b1 y1 y2 s1 s2
          have b0:=M15.out.c0
          have b1:=M15.out.c1
          have y1:=(M15.out.bel.cell (p:=⟨gy,oy+j * 2,none⟩) YK.out.2.2).trans YK.out.1
          have y2:=(M15.out.bel.cell (p:=⟨gy,oy+j * 2+1,none⟩) YK.out.2.2).trans YK.out.2.1
          have s1:=M15.out.lt
          have s2:gy < w15.heap.size:=Nat.lt_of_lt_of_le YK.out.2.2 M15.out.bel.size
          go_wp2
          go_roundw
          case rel=>exact⟨j+1,l,false,eM l yl Q,by omega,by go_num,rfl,by rw [EG.out];exact M15.out,CC.out⟩
          case measure=>simp [intOf];omega
        ·have d3:decide (l < yl)=false:=decide_eq_false h3
         have EG:Hid (P ++ eM l yl Q=O):=aC (by rw [mW h3,EO.out])
         go_wp2
         refine wx9 ?_
         repeat (go_big_quiet_step (first | exact rfl))
         refine wpQuiet_nil ?_
         intro w12 hw12
         have M12:Hid (LW W1 w12 W2.heap.size l hi (.slice qo O.length co) O):=M0.out.kept (aD hw12)
         clear hw12 b0 b1 y1 y2 s1 s2
         have b0:=M12.out.c0
         have b1:=M12.out.c1
         have y1:=(M12.out.bel.cell (p:=⟨gy,oy+j * 2,none⟩) YK.out.2.2).trans YK.out.1
         have y2:=(M12.out.bel.cell (p:=⟨gy,oy+j * 2+1,none⟩) YK.out.2.2).trans YK.out.2.1
         have s1:=M12.out.lt
         have s2:gy < w12.heap.size:=Nat.lt_of_lt_of_le YK.out.2.2 M12.out.bel.size
         go_wp2
         refine wx9 ?_
         repeat (go_big_quiet_step (first | exact rfl))
         refine wpQuiet_nil ?_
         intro w13 hw13
         have M13:Hid (LW W1 w13 W2.heap.size l hi (.slice qo O.length co) O):=M12.out.kept (aD hw13)
         clear hw13 b0 b1 y1 y2 s1 s2
         have b0:=M13.out.c0
         have b1:=M13.out.c1
         have y1:=(M13.out.bel.cell (p:=⟨gy,oy+j * 2,none⟩) YK.out.2.2).trans YK.out.1
         have y2:=(M13.out.bel.cell (p:=⟨gy,oy+j * 2+1,none⟩) YK.out.2.2).trans YK.out.2.1
         have s1:=M13.out.lt
         have s2:gy < w13.heap.size:=Nat.lt_of_lt_of_le YK.out.2.2 M13.out.bel.size
         by_cases h4:yh < hi
         ·have d4:decide (yh < hi)=true:=decide_eq_true h4
          have wy:IntKind.wrap .i64 (yh+1)=yh+1:=by rw [IntKind.wrap_i64];omega
          have CC:Hid (LI Y lo hi (j+1) (yh+1) true (eM l yl Q)):=CUT.out.1 h4
          go_wp2
          refine wx9 ?_
          repeat (go_big_quiet_step (first | exact rfl))
          refine wpQuiet_nil ?_
          intro w15 hw15
          have M15:Hid (LW W1 w15 W2.heap.size l hi (.slice qo O.length co) O):=M13.out.kept (aD hw15)
          clear hw15 b0 b1 y1 y2 s1 s2
          have b0:=M15.out.c0
          have b1:=M15.out.c1
          have y1:=(M15.out.bel.cell (p:=⟨gy,oy+j * 2,none⟩) YK.out.2.2).trans YK.out.1
          have y2:=(M15.out.bel.cell (p:=⟨gy,oy+j * 2+1,none⟩) YK.out.2.2).trans YK.out.2.1
          have s1:=M15.out.lt
          have s2:gy < w15.heap.size:=Nat.lt_of_lt_of_le YK.out.2.2 M15.out.bel.size
          have f0:w15.frozen? ⟨W2.heap.size,0,none⟩=false:=aP M15.out.box 0
          go_wp2
          go_roundw
          case rel=>exact⟨j+1,yh+1,true,eM l yl Q,by omega,by go_num,rfl,by rw [EG.out];exact M15.out.put,CC.out⟩
          case measure=>simp [intOf];omega
         ·have d4:decide (yh < hi)=false:=decide_eq_false h4
          have CC:Hid (LI Y lo hi (j+1) l false (eM l yl Q)):=CUT.out.2 (by omega) l
          go_wp2
          refine wx9 ?_
          repeat (go_big_quiet_step (first | exact rfl))
          refine wpQuiet_nil ?_
          intro w15 hw15
          have M15:Hid (LW W1 w15 W2.heap.size l hi (.slice qo O.length co) O):=M13.out.kept (aD hw15)
          clear hw15 b0 b1 y1 y2 s1 s2
          have b0:=M15.out.c0
          have b1:=M15.out.c1
          have y1:=(M15.out.bel.cell (p:=⟨gy,oy+j * 2,none⟩) YK.out.2.2).trans YK.out.1
          have y2:=(M15.out.bel.cell (p:=⟨gy,oy+j * 2+1,none⟩) YK.out.2.2).trans YK.out.2.1
          have s1:=M15.out.lt
          have s2:gy < w15.heap.size:=Nat.lt_of_lt_of_le YK.out.2.2 M15.out.bel.size
          go_wp2
          go_roundw
          case rel=>exact⟨j+1,l,false,eM l yl Q,by omega,by go_num,rfl,by rw [EG.out];exact M15.out,CC.out⟩
          case measure=>simp [intOf];omega
     ·have j1:¬ (j:Int) < (Y.length:Int):=by omega
      have hY:Y.length<=j:=by omega
      have FF:Hid _:=NX.out (Q ++ [(l,hi)]) (bW I.out.fit (fK (by omega))) (by simp;omega) (I.out.all hY)
      have EF:Hid (P ++ (Q ++ [(l,hi)])=O ++ [(l,hi)]):=aC (by rw [<- List.append_assoc,EO.out])
      rw [EF.out] at FF
      go_wp2_with (at_builtin;refine wpList_append_own_at _ rfl _ _ 25 rfl W1.heap.size 99 t0 (.agg #[.int .i64 0,.int .i64 0]) 2 16 aO ti hz0 hz1 hz2 rfl (by decide) (.slice qo O.length co) O.length (aM O) rfl (World.ownsRow.alloc M0.out.own (.cells #[.int .i64 l,.int .i64 hi] 99)) ⟨wr.heap.size,0,none⟩ 1 1 [.int .i64 l,.int .i64 hi] rfl rfl (fG _ _ _ _) (by simp [Value.oneCell']) (by unfold maxLen;omega) (by omega) (by have:=M0.out.bel.size;simp;omega) ?_;intro v' w6 hown' hgrow _ hblk;obtain⟨g6,cap6,rfl⟩:=aI hown' (Nat.succ_pos _);have M6:Hid (LW W1 w6 W2.heap.size l hi (.slice (some ⟨g6,0,none⟩) (O.length+1) cap6) (O ++ [(l,hi)])):=M0.out.app hgrow hown' hblk;clear hown' hgrow hblk)
      go_roundw
      case rel=>exact⟨k+1,O ++ [(l,hi)],by omega,by go_num,M6.out.own,FF.out.1,FF.out.2.1,FF.out.2.2,M6.out.bel⟩
      case measure=>simp [intOf];omega
  ·have i1:¬ (k:Int) < (X.length:Int):=by omega
   have LN:Hid (P.length<=N):=aC (by have:=PP.out.2.1;have:=LP.out k hk;omega)
   have PM:Hid (∀ c,In P c ↔ In X c/\¬ In Y c):=fun c=>by have:=PP.out.2.2 c;rwa [List.take_of_length_le (by omega)] at this
   go_wp2_with (go_at_call 144;refine(fU RO.out.arg PP.out.1 (by have:=LN.out;omega)).mono ?_;rintro e w7 ⟨v7,C,rfl,h1,h2,h3,h4⟩;have X7:Hid (RR wr.heap.size w7 v7 C/\IsC C (In P)/\C.length<=P.length/\Below wr.heap.size wr w7):=⟨h1,h2,h3,h4⟩;clear h1 h2 h3 h4)
   go_ret
   have BZ:=aE BW.out BB.out lz9
   refine⟨_,_,rfl,X7.out.1.mono BZ.size,X7.out.2.1.to fun c=>?_,Nat.le_trans X7.out.2.2.1 LN.out,aE BZ X7.out.2.2.2 lz9⟩
   rw [PM.out,X5.out.2.1.mem,X6.out.2.1.mem]
end
theorem nC(W:World)(o:Obj):Below W.heap.size W (W.alloc o):=bz9
theorem xW(m:Bool)(w:World):Calls Tryz.prog 101 #[.bool m] w fun e w'=>∃ v,e=.returned v/\RR w.heap.size w' v (bS m)/\Below w.heap.size w w':=by
 cases m with
 | true=>
  go_enter Tryz.func101,Tryz.ntmps101
  go_wp2
  go_ret
  exact⟨_,rfl,World.ownsRow_lit w #[.int .i64 0,.int .i64 55295,.int .i64 57344,.int .i64 1114111] 2 lz9 (by unfold maxLen;omega) rfl,bz9⟩
 | false=>
  go_enter Tryz.func101,Tryz.ntmps101
  go_wp2
  go_ret
  exact⟨_,rfl,World.ownsRow_lit w #[.int .i64 0,.int .i64 255] 1 lz9 (by unfold maxLen;omega) rfl,bz9⟩
theorem oR{w:World}{v:Value}{L:List (Int × Int)}{m:Bool}(h:ArgR w v L)(hF:Fit L)(hl:L.length<=1048580) :
  Calls Tryz.prog 123 #[v,.bool m] w (lG w (fun c=>In L c/\bK m c) (L.length * (bS m).length)):=by
 have H:Hid (ArgR w v L/\Fit L):=⟨h,hF⟩
 have hc:=cF m
 have HM:Hid (L.length * (bS m).length+1<=8796093022208):=aC (by have:=Nat.mul_le_mul hl hc;omega)
 clear h hF
 go_enter Tryz.func123,Tryz.ntmps123
 go_wp2_with first
  |(go_at_call 101;refine(xW m _).mono ?_;rintro e w5 ⟨v5,rfl,h1,h2⟩;have X5:Hid (RR w.heap.size w5 v5 (bS m)/\Below w.heap.size w w5):=⟨h1,h2⟩;clear h1 h2)
  |(go_at_call 143;refine(xV (H.out.1.kept X5.out.2) X5.out.1.arg H.out.2 (dP m).fit (by omega) (by omega) HM.out).mono ?_;rintro e w6 ⟨v6,C6,rfl,h1,h2,h3,h4⟩;have X6:Hid (RR w5.heap.size w6 v6 C6/\IsC C6 (fun c=>In L c/\In (bS m) c)/\C6.length<=L.length * (bS m).length/\Below w5.heap.size w5 w6):=⟨h1,h2,h3,h4⟩;clear h1 h2 h3 h4)
 go_ret
 exact⟨_,_,rfl,X6.out.1.mono X5.out.2.size,X6.out.2.1.to fun c=>by rw [(dP m).mem],X6.out.2.2.1,aE X5.out.2 X6.out.2.2.2 lz9⟩
theorem aL4{w:World}{v:Value}{L:List (Int × Int)}{m:Bool}(h:ArgR w v L)(hF:Fit L)(hl:L.length<=1048580) :
  Calls Tryz.prog 125 #[v,.bool m] w (lG w (fun c=>bK m c/\¬ In L c) ((bS m).length * (L.length+1))):=by
 have H:Hid (ArgR w v L/\Fit L):=⟨h,hF⟩
 have hc:=cF m
 have HM:Hid ((bS m).length * (L.length+1)+1<=8796093022208):=aC (by have:=Nat.mul_le_mul hc (Nat.add_le_add_right hl 1);omega)
 clear h hF
 go_enter Tryz.func125,Tryz.ntmps125
 go_wp2_with first
  |(go_at_call 101;refine(xW m _).mono ?_;rintro e w5 ⟨v5,rfl,h1,h2⟩;have X5:Hid (RR w.heap.size w5 v5 (bS m)/\Below w.heap.size w w5):=⟨h1,h2⟩;clear h1 h2)
  |(go_at_call 145;refine(aU1 X5.out.1.arg (H.out.1.kept X5.out.2) (dP m).fit H.out.2 (by omega) (by omega) HM.out).mono ?_;rintro e w6 ⟨v6,C6,rfl,h1,h2,h3,h4⟩;have X6:Hid (RR w5.heap.size w6 v6 C6/\IsC C6 (fun c=>In (bS m) c/\¬ In L c)/\C6.length<=(bS m).length * (L.length+1)/\Below w5.heap.size w5 w6):=⟨h1,h2,h3,h4⟩;clear h1 h2 h3 h4)
 go_ret
 exact⟨_,_,rfl,X6.out.1.mono X5.out.2.size,X6.out.2.1.to fun c=>by rw [(dP m).mem],X6.out.2.2.1,aE X5.out.2 X6.out.2.2.2 lz9⟩
def shL(G:List (Int × Int))(j:Nat)(d:Int):List (Int × Int):=(G.take j).map fun r=>(r.1+d,r.2+d)
theorem uH{G:List (Int × Int)}{j:Nat}{r:Int × Int}(h:G[j]?=some r)(d:Int):shL G (j+1) d=shL G j d ++ [(r.1+d,r.2+d)]:=by
 obtain⟨hk,rfl⟩:=List.getElem?_eq_some_iff.1 h
 unfold shL
 rw [dL G j hk,List.map_append]
 rfl
theorem aA3(W:World)(a b:Int):ArgR (W.alloc (.cells #[.int .i64 a,.int .i64 b] 99)) (.slice (some ⟨W.heap.size,0,none⟩) 1 1) [(a,b)]:=
 RR.arg (base:=W.heap.size) (World.ownsRow_lit W #[.int .i64 a,.int .i64 b] 1 lz9 (by unfold maxLen;omega) rfl)
theorem bC3{C L:List (Int × Int)}{a b:Int}(h:IsC C (fun c=>In L c/\In [(a,b)] c)):∀ (i:Nat) (r:Int × Int),C[i]?=some r->(a<=r.1/\r.1<=b)/\(a<=r.2/\r.2<=b):=fun i r hr=>by
 have hm:=List.mem_of_getElem? hr
 have hs:=h.cls.some r hm
 have p:=((h.mem r.1).1 ⟨r,hm,Int.le_refl _,hs⟩).2
 have q:=((h.mem r.2).1 ⟨r,hm,hs,Int.le_refl _⟩).2
 rw [dI] at p q
 exact⟨p,q⟩
def aF4(w w4:World)(k:Nat):Prop:=w.heap.size<=k/\k < w4.heap.size
theorem lE{w w':World}{k:Nat}(h:w'.heap[k]?=w.heap[k]?)(o:Nat):w'.cell? ⟨k,o,none⟩=w.cell? ⟨k,o,none⟩:=by unfold World.cell?;simp only [h]
structure FW(w w4 W1 wr:World)(ov:Value)(O:List (Int × Int)):Prop where
 own:RR w.heap.size wr ov O
 fr:Fr (aF4 w w4) W1 wr
 at':∀ g,ov.ownBlock=some g->aF4 w w4 g\/W1.heap.size<=g
theorem FW.drew{w w4 W1 wr:World}{ov:Value}{O:List (Int × Int)}(h:FW w w4 W1 wr ov O):FW w w4 W1 wr.drew ov O:=⟨World.ownsRow.drew h.own,h.fr.drew,h.at'⟩
theorem FW.app{w w4 W1 wr w6:World}{q:Option Addr}{co:Nat}{L:List (Int × Int)}{o:Obj}{g6 cap6:Nat}{a b:Int}(h:FW w w4 W1 wr (.slice q L.length co) L)(hg:(wr.alloc o).grownBy w6 (Value.slice q L.length co).ownBlock)
  (ho:w6.ownsRow w.heap.size 99 2 (.slice (some ⟨g6,0,none⟩) (L.length+1) cap6) (L.length+1) (aM L ++ [.int .i64 a,.int .i64 b]))
  (hb:(Value.slice (some ⟨g6,0,none⟩) (L.length+1) cap6).ownBlock=(Value.slice q L.length co).ownBlock\/(Value.slice (some ⟨g6,0,none⟩) (L.length+1) cap6).ownBlock=some (wr.alloc o).heap.size):FW w w4 W1 w6 (.slice (some ⟨g6,0,none⟩) (L.length+1) cap6) (L ++ [(a,b)]):=by
 refine⟨gZ ho,?_,fun g e=>?_⟩
 ·refine⟨hg.os.trans h.fr.os,hg.tape.trans h.fr.tape,hg.output.trans h.fr.output,Nat.le_trans h.fr.size (Nat.le_trans (by simp) hg.size),fun k hk hs=>?_⟩
  have hkr:k < wr.heap.size:=Nat.lt_of_lt_of_le hk h.fr.size
  refine(hg.block k (by simp;omega) (fun e=>?_)).trans ((Below.heap_alloc _ _ _ hkr).trans (h.fr.block k hk hs))
  rcases h.at' k e.symm with q | q
  ·exact hs q
  ·omega
 ·rcases hb with hb | hb
  ·rw [hb] at e;exact h.at' g e
  ·rw [hb] at e
   cases e
   exact .inr (Nat.le_trans h.fr.size (by simp))
theorem rZ{W:World}{q:Option Addr}{n k:Nat}{L:List (Int × Int)}(h:ArgR W (.slice q n k) L){lo:Nat}(hlo:∀ g,(Value.slice q n k).ownBlock=some g->lo<=g):∀ (i:Nat) (r:Int × Int),L[i]?=some r->∃ g off,q=some ⟨g,off,none⟩/\lo<=g/\g < W.heap.size/\W.cell? ⟨g,off+i * 2,none⟩=some (.int .i64 r.1)/\W.cell? ⟨g,off+i * 2+1,none⟩=some (.int .i64 r.2):=fun i r hi=>by
 obtain⟨q',c',e,-,-,hc⟩:=h.slice
 cases e
 obtain⟨g,off,rfl,h1,h2,h3⟩:=hc i r hi
 rw [Nat.mul_comm] at h2 h3
 exact⟨g,off,rfl,hlo g rfl,h1,h2,h3⟩
theorem sW{w:World}{v:Value}{L:List (Int × Int)}(h:ArgR w v L)(hF:Fit L)(hl:L.length<=1048580) :
  Calls Tryz.prog 124 #[v] w (lG w (gF L) (3 * L.length)):=by
 obtain⟨t0,ti,hz0,hz1,hz2⟩:=aS bF
 have H:Hid (ArgR w v L/\Fit L):=⟨h,hF⟩
 clear h hF
 go_enter Tryz.func124,Tryz.ntmps124
 go_upto_region 5 with first
  |(go_at_call 144;refine(fU H.out.1 H.out.2 (by omega)).mono ?_;rintro e w4 ⟨v4,C,rfl,h1,h2,h3,h4⟩;obtain⟨qc,cc,rfl⟩:=h1.shape;have X4:Hid (RR w.heap.size w4 (.slice qc C.length cc) C/\IsC C (In L)/\C.length<=L.length/\Below w.heap.size w w4):=⟨h1,h2,h3,h4⟩;clear h1 h2 h3 h4)
  |(go_at_call 143;have hx:=X5.out;clear hx;have hih:=xV (((H.out.1.kept X4.out.2.2.2).kept X5.out.2.2.2).kept (nC w5 (.cells #[.int .i64 97,.int .i64 122] 99))) (aA3 w5 97 122) H.out.2 (fK (by omega)) (by omega) (by simp) (by simp;omega);(with_reducible refine hih.mono ?_);clear hih;rintro e w6 ⟨v6,S,rfl,h1,h2,h3,h4⟩;obtain⟨qs,cs,rfl⟩:=h1.shape;have X6:Hid (RR w5.heap.size w6 (.slice qs S.length cs) S/\IsC S (fun c=>In L c/\In [(97,122)] c)/\S.length<=L.length/\Below w5.heap.size w5 w6):=⟨h1.mono (by simp),h2,(by simpa using h3),(nC w5 _).trans (h4.mono (by simp))⟩;clear h1 h2 h3 h4)
  |(go_at_call 143;have hih:=xV ((H.out.1.kept X4.out.2.2.2).kept (nC w4 (.cells #[.int .i64 65,.int .i64 90] 99))) (aA3 w4 65 90) H.out.2 (fK (by omega)) (by omega) (by simp) (by simp;omega);(with_reducible refine hih.mono ?_);clear hih;rintro e w5 ⟨v5,G,rfl,h1,h2,h3,h4⟩;obtain⟨qg,cg,rfl⟩:=h1.shape;have X5:Hid (RR w4.heap.size w5 (.slice qg G.length cg) G/\IsC G (fun c=>In L c/\In [(65,90)] c)/\G.length<=L.length/\Below w4.heap.size w4 w5):=⟨h1.mono (by simp),h2,(by simpa using h3),(nC w4 _).trans (h4.mono (by simp))⟩;clear h1 h2 h3 h4)
 rename World=>W1
 have BTW:Hid (Below w.heap.size w W1):=aE (aE X4.out.2.2.2 X5.out.2.2.2 lz9) X6.out.2.2.2 lz9
 have B4W:Hid (Below w4.heap.size w4 W1):=aE X5.out.2.2.2 X6.out.2.2.2 lz9
 have HGG:Hid _:=rZ (X5.out.1.kept X6.out.2.2.2).arg (lo:=w4.heap.size) (fun g e=>(aH X5.out.1 e).1)
 have HGS:Hid _:=rZ X6.out.1.arg (lo:=w4.heap.size) (fun g e=>Nat.le_trans X5.out.2.2.2.size (aH X6.out.1 e).1)
 have BDG:Hid _:=bC3 X5.out.2.1
 have BDS:Hid _:=bC3 X6.out.2.1
 have hcl:=X4.out.2.2.1
 have hgl:=X5.out.2.2.1
 have hsl:=X6.out.2.2.1
 have ST:Hid (FW w w4 W1 W1 (.slice qc C.length cc) C):=⟨X4.out.1.kept B4W.out,Fr.refl _ _,fun g e=>.inl ⟨(aH X4.out.1 e).1,(aH X4.out.1 e).2.1⟩⟩
 go_wp2
 go_loopw [3,6] (fun ov i wr=>∃ j:Nat,j<=G.length/\i=.int .i64 j/\FW w w4 W1 wr ov (C ++ shL G j 32)) (fun _ i _=>G.length - (intOf i).toNat)
 case atStart=>exact⟨0,Nat.zero_le _,rfl,by simpa [shL] using ST.out⟩
 case round=>
  obtain⟨j,hj,rfl,hW⟩:=hrel
  obtain⟨qo,co,e3⟩:=hW.own.shape
  subst e3
  by_cases hlt:j < G.length
  ·obtain⟨O,hO⟩:∃ O,C ++ shL G j 32=O:=⟨_,rfl⟩
   have EO:Hid (C ++ shL G j 32=O):=hO
   rw [hO] at hW ⊢
   have M0:Hid (FW w w4 W1 wr (.slice qo O.length co) O):=hW
   have hol:O.length+1<=8796093022208:=by rw [<- hO];simp [shL];omega
   clear hW hO
   obtain⟨r,er⟩:∃ r,G[j]?=some r:=⟨_,List.getElem?_eq_getElem hlt⟩
   obtain⟨gg,og,rfl,hg4,hgg,z1,z2⟩:=HGG.out j _ er
   have hbd:=BDG.out j r er
   have NXT:Hid (shL G (j+1) (32)=shL G j (32) ++ [(r.1+(32),r.2+(32))]):=uH er (32)
   obtain⟨lo,hi⟩:=r
   dsimp only at z1 z2 hbd NXT
   have wa:IntKind.wrap .i64 (lo+32)=lo+32:=by rw [IntKind.wrap_i64];omega
   have wb:IntKind.wrap .i64 (hi+32)=hi+32:=by rw [IntKind.wrap_i64];omega
   have j0:(0:Int)<=(j:Int):=by omega
   have j1:(j:Int) < (G.length:Int):=by omega
   have QC:Hid (∀ w',Fr (aF4 w w4) W1 w'->w'.cell? ⟨gg,og+j * 2,none⟩=some (.int .i64 lo)/\w'.cell? ⟨gg,og+j * 2+1,none⟩=some (.int .i64 hi)):=fun w' hf=>by
    have hbk:=hf.block gg hgg (fun q=>by have:=q.2;omega)
    exact⟨(lE hbk _).trans z1,(lE hbk _).trans z2⟩
   have MD:Hid (FW w w4 W1 wr.drew (.slice qo O.length co) O):=M0.out.drew
   have hw1:w.heap.size<=wr.heap.size:=Nat.le_trans BTW.out.size M0.out.fr.size
   clear z1 z2 er
   go_wp2
   refine wp_region_held_drew (S:=fun w'=>Fr (aF4 w w4) W1 w') (by kernel_rfl) MD.out.fr (fun hHeld=>?_)
   refine wpAnyH_take (i:=0) (oi:=_) (v:=?_) rfl (by kernel_rfl) (by kernel_rfl) (by kernel_rfl) (fun _ _ _ h=>h) (Or.inl ⟨by rfl,?_⟩) (by assumption) ?_
   rotate_left
   ·intro wz hSw;obtain⟨q1,q2⟩:=QC.out wz hSw;clear hSw;go_simp;try with_reducible rfl
   dsimp only [Act.put,List.getElem_toArray,List.getElem_cons_zero,List.getElem_cons_succ]
   simp only [List.setIfInBounds_toArray,List.set_cons_zero,List.set_cons_succ]
   refine wpAnyH_take (i:=1) (oi:=_) (v:=?_) rfl (by kernel_rfl) (by kernel_rfl) (by kernel_rfl) (fun _ _ _ h=>h) (Or.inl ⟨by rfl,?_⟩) (by assumption) ?_
   rotate_left
   ·intro wz hSw;obtain⟨q1,q2⟩:=QC.out wz hSw;clear hSw;go_simp;try with_reducible rfl
   dsimp only [Act.put,List.getElem_toArray,List.getElem_cons_zero,List.getElem_cons_succ]
   simp only [List.setIfInBounds_toArray,List.set_cons_zero,List.set_cons_succ]
   refine wpAnyH_take (i:=2) (oi:=_) (v:=?_) rfl (by kernel_rfl) (by kernel_rfl) (by kernel_rfl) (fun _ _ _ h=>h) (Or.inl ⟨by rfl,?_⟩) (by assumption) ?_
   rotate_left
   ·intro wz hSw;obtain⟨q1,q2⟩:=QC.out wz hSw;clear hSw;go_simp;try with_reducible rfl
   dsimp only [Act.put,List.getElem_toArray,List.getElem_cons_zero,List.getElem_cons_succ]
   simp only [List.setIfInBounds_toArray,List.set_cons_zero,List.set_cons_succ]
   refine wpAnyH_take (i:=3) (oi:=_) (v:=?_) rfl (by kernel_rfl) (by kernel_rfl) (by kernel_rfl) (fun _ _ _ h=>h) (Or.inl ⟨by rfl,?_⟩) (by assumption) ?_
   rotate_left
   ·intro wz hSw;obtain⟨q1,q2⟩:=QC.out wz hSw;clear hSw;go_simp;try with_reducible rfl
   dsimp only [Act.put,List.getElem_toArray,List.getElem_cons_zero,List.getElem_cons_succ]
   simp only [List.setIfInBounds_toArray,List.set_cons_zero,List.set_cons_succ]
   refine wpAnyH_take (i:=4) (oi:=_) (v:=?_) rfl (by kernel_rfl) (by kernel_rfl) (by kernel_rfl) (fun _ _ _ h=>h) (Or.inl ⟨by rfl,?_⟩) (by assumption) ?_
   rotate_left
   ·intro wz hSw;obtain⟨q1,q2⟩:=QC.out wz hSw;clear hSw;go_simp;try with_reducible rfl
   dsimp only [Act.put,List.getElem_toArray,List.getElem_cons_zero,List.getElem_cons_succ]
   simp only [List.setIfInBounds_toArray,List.set_cons_zero,List.set_cons_succ]
   refine wpAnyH_take (i:=5) (oi:=_) (v:=?_) rfl (by kernel_rfl) (by kernel_rfl) (by kernel_rfl) (fun _ _ _ h=>h) (Or.inl ⟨by rfl,?_⟩) (by assumption) ?_
   rotate_left
   ·intro wz hSw;obtain⟨q1,q2⟩:=QC.out wz hSw;clear hSw;go_simp;try with_reducible rfl
   dsimp only [Act.put,List.getElem_toArray,List.getElem_cons_zero,List.getElem_cons_succ]
   simp only [List.setIfInBounds_toArray,List.set_cons_zero,List.set_cons_succ]
   refine wpAnyH_take (i:=6) (oi:=_) (v:=?_) rfl (by kernel_rfl) (by kernel_rfl) (by kernel_rfl) (fun _ _ _ h=>h) (Or.inl ⟨by rfl,?_⟩) (by assumption) ?_
   rotate_left
   ·intro wz hSw;obtain⟨q1,q2⟩:=QC.out wz hSw;clear hSw;go_simp;try with_reducible rfl
   dsimp only [Act.put,List.getElem_toArray,List.getElem_cons_zero,List.getElem_cons_succ]
   simp only [List.setIfInBounds_toArray,List.set_cons_zero,List.set_cons_succ]
   refine wpAnyH_take (i:=7) (oi:=_) (v:=?_) rfl (by kernel_rfl) (by kernel_rfl) (by kernel_rfl) (fun _ _ _ h=>h) (Or.inl ⟨by rfl,?_⟩) (by assumption) ?_
   rotate_left
   ·intro wz hSw;obtain⟨q1,q2⟩:=QC.out wz hSw;clear hSw;go_simp;try with_reducible rfl
   dsimp only [Act.put,List.getElem_toArray,List.getElem_cons_zero,List.getElem_cons_succ]
   simp only [List.setIfInBounds_toArray,List.set_cons_zero,List.set_cons_succ]
   refine wpAnyH_take (i:=8) (oi:=_) (v:=?_) rfl (by kernel_rfl) (by kernel_rfl) (by kernel_rfl) (fun _ _ _ h=>h) (Or.inl ⟨by rfl,?_⟩) (by assumption) ?_
   rotate_left
   ·intro wz hSw;obtain⟨q1,q2⟩:=QC.out wz hSw;clear hSw;go_simp;try with_reducible rfl
   dsimp only [Act.put,List.getElem_toArray,List.getElem_cons_zero,List.getElem_cons_succ]
   simp only [List.setIfInBounds_toArray,List.set_cons_zero,List.set_cons_succ]
   refine wpAnyH_take (i:=9) (oi:=_) (v:=?_) rfl (by kernel_rfl) (by kernel_rfl) (by kernel_rfl) (fun _ _ _ h=>h) (Or.inl ⟨by rfl,?_⟩) (by assumption) ?_
   rotate_left
   ·intro wz hSw;obtain⟨q1,q2⟩:=QC.out wz hSw;clear hSw;go_simp;try with_reducible rfl
   dsimp only [Act.put,List.getElem_toArray,List.getElem_cons_zero,List.getElem_cons_succ]
   simp only [List.setIfInBounds_toArray,List.set_cons_zero,List.set_cons_succ]
   refine wpAnyH_take (i:=10) (oi:=_) (v:=?_) rfl (by kernel_rfl) (by kernel_rfl) (by kernel_rfl) (fun _ _ _ h=>h) (Or.inl ⟨by rfl,?_⟩) (by assumption) ?_
   rotate_left
   ·intro wz hSw;obtain⟨q1,q2⟩:=QC.out wz hSw;clear hSw;go_simp;try with_reducible rfl
   dsimp only [Act.put,List.getElem_toArray,List.getElem_cons_zero,List.getElem_cons_succ]
   simp only [List.setIfInBounds_toArray,List.set_cons_zero,List.set_cons_succ]
   refine wpAnyH_take (i:=11) (oi:=_) (v:=?_) rfl (by kernel_rfl) (by kernel_rfl) (by kernel_rfl) (fun _ _ _ h=>h) (Or.inl ⟨by rfl,?_⟩) (by assumption) ?_
   rotate_left
   ·intro wz hSw;obtain⟨q1,q2⟩:=QC.out wz hSw;clear hSw;go_simp;try with_reducible rfl
   dsimp only [Act.put,List.getElem_toArray,List.getElem_cons_zero,List.getElem_cons_succ]
   simp only [List.setIfInBounds_toArray,List.set_cons_zero,List.set_cons_succ]
   refine wpAnyH_take (i:=12) (oi:=_) (v:=?_) rfl (by kernel_rfl) (by kernel_rfl) (by kernel_rfl) (fun _ _ _ h=>h) (Or.inl ⟨by rfl,?_⟩) (by assumption) ?_
   rotate_left
   ·intro wz hSw;obtain⟨q1,q2⟩:=QC.out wz hSw;clear hSw;go_simp;try with_reducible rfl
   dsimp only [Act.put,List.getElem_toArray,List.getElem_cons_zero,List.getElem_cons_succ]
   simp only [List.setIfInBounds_toArray,List.set_cons_zero,List.set_cons_succ]
   refine wpAnyH_take (i:=13) (oi:=_) (v:=?_) rfl (by kernel_rfl) (by kernel_rfl) (by kernel_rfl) (fun _ _ _ h=>h) (Or.inl ⟨by rfl,?_⟩) (by assumption) ?_
   rotate_left
   ·intro wz hSw;obtain⟨q1,q2⟩:=QC.out wz hSw;clear hSw;go_simp;try with_reducible rfl
   dsimp only [Act.put,List.getElem_toArray,List.getElem_cons_zero,List.getElem_cons_succ]
   simp only [List.setIfInBounds_toArray,List.set_cons_zero,List.set_cons_succ]
   refine wpAnyH_ready (rs:=[14]) (by kernel_rfl) (by simp) ?_
   refine AllReadyH.cons rfl (fun K hK=>?_) AllReadyH.nil
   go_simp
   refine hK.out _ _ (MD.out.fr.alloc _) (fun hHeld2=>?_)
   clear hK K
   refine wpAnyH_ready (rs:=[15]) (by kernel_rfl) (by simp) ?_
   refine AllReadyH.cons rfl (fun K hK=>?_) AllReadyH.nil
   refine dM rfl _ _ 25 rfl w.heap.size 99 t0 (.agg #[.int .i64 0,.int .i64 0]) 2 16 aO ti hz0 hz1 hz2 rfl (by decide) (.slice qo O.length co) O.length (aM O) (by simp [Act.eval]) (World.ownsRow.alloc MD.out.own (.cells #[.int .i64 (lo+32),.int .i64 (hi+32)] 99)) ⟨wr.heap.size,0,none⟩ 1 1 [.int .i64 (lo+32),.int .i64 (hi+32)] (by simp [Act.eval]) rfl (fG _ _ _ _) (by simp [Value.oneCell']) (by unfold maxLen;omega) (by omega) (by simp;omega) ?_
   intro v' w6' hown' hgrow hblk
   obtain⟨g6,cap6,rfl⟩:=aI hown' (Nat.succ_pos _)
   have M6:Hid (FW w w4 W1 w6' (.slice (some ⟨g6,0,none⟩) (O.length+1) cap6) (O ++ [(lo+32,hi+32)])):=MD.out.app hgrow hown' hblk
   clear hown' hgrow hblk
   refine hK.out _ _ M6.out.fr (fun hHeld3=>?_)
   clear hK K
   refine wpAnyH_ready (rs:=[16]) (by kernel_rfl) (by simp) ?_
   refine AllReadyH.cons rfl (fun K hK=>?_) AllReadyH.nil
   go_simp
   refine hK.out _ _ M6.out.fr (fun hHeld4=>?_)
   clear hK K
   refine wpAnyH_done (by kernel_rfl) ?_ _
   go_wp2
   go_roundw
   case rel=>exact⟨j+1,by omega,by go_num,by rw [NXT.out,<- List.append_assoc,EO.out];exact M6.out⟩
   case measure=>simp [intOf];omega
  ·have j1:¬ (j:Int) < (G.length:Int):=by omega
   have EJ:Hid (shL G j 32=shL G G.length 32):=aC (by unfold shL;rw [List.take_of_length_le (by omega),List.take_length])
   rw [EJ.out] at hW ⊢
   obtain⟨C2,hC2⟩:∃ C2,C ++ shL G G.length 32=C2:=⟨_,rfl⟩
   have EC:Hid (C ++ shL G G.length 32=C2):=hC2
   have hc2:C2.length<=2 * L.length:=by rw [<- hC2];simp [shL];omega
   rw [hC2] at hW ⊢
   have ST2:Hid (FW w w4 W1 wr (.slice qo C2.length co) C2):=hW
   clear hW hC2
   rename World=>W5
   go_wp2
   go_loopw [3,7] (fun ov i wr=>∃ j:Nat,j<=S.length/\i=.int .i64 j/\FW w w4 W1 wr ov (C2 ++ shL S j (-32))) (fun _ i _=>S.length - (intOf i).toNat)
   case atStart=>exact⟨0,Nat.zero_le _,rfl,by simpa [shL] using ST2.out⟩
   case round=>
    clear ST2
    obtain⟨j,hj,rfl,hW⟩:=hrel
    obtain⟨qo,co,e3⟩:=hW.own.shape
    subst e3
    by_cases hlt:j < S.length
    ·obtain⟨O,hO⟩:∃ O,C2 ++ shL S j (-32)=O:=⟨_,rfl⟩
     have EO:Hid (C2 ++ shL S j (-32)=O):=hO
     rw [hO] at hW ⊢
     have M0:Hid (FW w w4 W1 wr (.slice qo O.length co) O):=hW
     have hol:O.length+1<=8796093022208:=by rw [<- hO];simp [shL];omega
     clear hW hO
     obtain⟨r,er⟩:∃ r,S[j]?=some r:=⟨_,List.getElem?_eq_getElem hlt⟩
     obtain⟨gg,og,rfl,hg4,hgg,z1,z2⟩:=HGS.out j _ er
     have hbd:=BDS.out j r er
     have NXT:Hid (shL S (j+1) (-32)=shL S j (-32) ++ [(r.1+(-32),r.2+(-32))]):=uH er (-32)
     obtain⟨lo,hi⟩:=r
     dsimp only at z1 z2 hbd NXT
     have wa:IntKind.wrap .i64 (lo - 32)=lo - 32:=by rw [IntKind.wrap_i64];omega
     have wb:IntKind.wrap .i64 (hi - 32)=hi - 32:=by rw [IntKind.wrap_i64];omega
     have j0:(0:Int)<=(j:Int):=by omega
     have j1:(j:Int) < (S.length:Int):=by omega
     have QC:Hid (∀ w',Fr (aF4 w w4) W1 w'->w'.cell? ⟨gg,og+j * 2,none⟩=some (.int .i64 lo)/\w'.cell? ⟨gg,og+j * 2+1,none⟩=some (.int .i64 hi)):=fun w' hf=>by
      have hbk:=hf.block gg hgg (fun q=>by have:=q.2;omega)
      exact⟨(lE hbk _).trans z1,(lE hbk _).trans z2⟩
     have MD:Hid (FW w w4 W1 wr.drew (.slice qo O.length co) O):=M0.out.drew
     have hw1:w.heap.size<=wr.heap.size:=Nat.le_trans BTW.out.size M0.out.fr.size
     clear z1 z2 er
     go_wp2
     refine wp_region_held_drew (S:=fun w'=>Fr (aF4 w w4) W1 w') (by kernel_rfl) MD.out.fr (fun hHeld=>?_)
     refine wpAnyH_take (i:=0) (oi:=_) (v:=?_) rfl (by kernel_rfl) (by kernel_rfl) (by kernel_rfl) (fun _ _ _ h=>h) (Or.inl ⟨by rfl,?_⟩) (by assumption) ?_
     rotate_left
     ·intro wz hSw;obtain⟨q1,q2⟩:=QC.out wz hSw;clear hSw;go_simp;try with_reducible rfl
     dsimp only [Act.put,List.getElem_toArray,List.getElem_cons_zero,List.getElem_cons_succ]
     simp only [List.setIfInBounds_toArray,List.set_cons_zero,List.set_cons_succ]
     refine wpAnyH_take (i:=1) (oi:=_) (v:=?_) rfl (by kernel_rfl) (by kernel_rfl) (by kernel_rfl) (fun _ _ _ h=>h) (Or.inl ⟨by rfl,?_⟩) (by assumption) ?_
     rotate_left
     ·intro wz hSw;obtain⟨q1,q2⟩:=QC.out wz hSw;clear hSw;go_simp;try with_reducible rfl
     dsimp only [Act.put,List.getElem_toArray,List.getElem_cons_zero,List.getElem_cons_succ]
     simp only [List.setIfInBounds_toArray,List.set_cons_zero,List.set_cons_succ]
     refine wpAnyH_take (i:=2) (oi:=_) (v:=?_) rfl (by kernel_rfl) (by kernel_rfl) (by kernel_rfl) (fun _ _ _ h=>h) (Or.inl ⟨by rfl,?_⟩) (by assumption) ?_
     rotate_left
     ·intro wz hSw;obtain⟨q1,q2⟩:=QC.out wz hSw;clear hSw;go_simp;try with_reducible rfl
     dsimp only [Act.put,List.getElem_toArray,List.getElem_cons_zero,List.getElem_cons_succ]
     simp only [List.setIfInBounds_toArray,List.set_cons_zero,List.set_cons_succ]
     refine wpAnyH_take (i:=3) (oi:=_) (v:=?_) rfl (by kernel_rfl) (by kernel_rfl) (by kernel_rfl) (fun _ _ _ h=>h) (Or.inl ⟨by rfl,?_⟩) (by assumption) ?_
     rotate_left
     ·intro wz hSw;obtain⟨q1,q2⟩:=QC.out wz hSw;clear hSw;go_simp;try with_reducible rfl
     dsimp only [Act.put,List.getElem_toArray,List.getElem_cons_zero,List.getElem_cons_succ]
     simp only [List.setIfInBounds_toArray,List.set_cons_zero,List.set_cons_succ]
     refine wpAnyH_take (i:=4) (oi:=_) (v:=?_) rfl (by kernel_rfl) (by kernel_rfl) (by kernel_rfl) (fun _ _ _ h=>h) (Or.inl ⟨by rfl,?_⟩) (by assumption) ?_
     rotate_left
     ·intro wz hSw;obtain⟨q1,q2⟩:=QC.out wz hSw;clear hSw;go_simp;try with_reducible rfl
     dsimp only [Act.put,List.getElem_toArray,List.getElem_cons_zero,List.getElem_cons_succ]
     simp only [List.setIfInBounds_toArray,List.set_cons_zero,List.set_cons_succ]
     refine wpAnyH_take (i:=5) (oi:=_) (v:=?_) rfl (by kernel_rfl) (by kernel_rfl) (by kernel_rfl) (fun _ _ _ h=>h) (Or.inl ⟨by rfl,?_⟩) (by assumption) ?_
     rotate_left
     ·intro wz hSw;obtain⟨q1,q2⟩:=QC.out wz hSw;clear hSw;go_simp;try with_reducible rfl
     dsimp only [Act.put,List.getElem_toArray,List.getElem_cons_zero,List.getElem_cons_succ]
     simp only [List.setIfInBounds_toArray,List.set_cons_zero,List.set_cons_succ]
     refine wpAnyH_take (i:=6) (oi:=_) (v:=?_) rfl (by kernel_rfl) (by kernel_rfl) (by kernel_rfl) (fun _ _ _ h=>h) (Or.inl ⟨by rfl,?_⟩) (by assumption) ?_
     rotate_left
     ·intro wz hSw;obtain⟨q1,q2⟩:=QC.out wz hSw;clear hSw;go_simp;try with_reducible rfl
     dsimp only [Act.put,List.getElem_toArray,List.getElem_cons_zero,List.getElem_cons_succ]
     simp only [List.setIfInBounds_toArray,List.set_cons_zero,List.set_cons_succ]
     refine wpAnyH_take (i:=7) (oi:=_) (v:=?_) rfl (by kernel_rfl) (by kernel_rfl) (by kernel_rfl) (fun _ _ _ h=>h) (Or.inl ⟨by rfl,?_⟩) (by assumption) ?_
     rotate_left
     ·intro wz hSw;obtain⟨q1,q2⟩:=QC.out wz hSw;clear hSw;go_simp;try with_reducible rfl
     dsimp only [Act.put,List.getElem_toArray,List.getElem_cons_zero,List.getElem_cons_succ]
     simp only [List.setIfInBounds_toArray,List.set_cons_zero,List.set_cons_succ]
     refine wpAnyH_take (i:=8) (oi:=_) (v:=?_) rfl (by kernel_rfl) (by kernel_rfl) (by kernel_rfl) (fun _ _ _ h=>h) (Or.inl ⟨by rfl,?_⟩) (by assumption) ?_
     rotate_left
     ·intro wz hSw;obtain⟨q1,q2⟩:=QC.out wz hSw;clear hSw;go_simp;try with_reducible rfl
     dsimp only [Act.put,List.getElem_toArray,List.getElem_cons_zero,List.getElem_cons_succ]
     simp only [List.setIfInBounds_toArray,List.set_cons_zero,List.set_cons_succ]
     refine wpAnyH_take (i:=9) (oi:=_) (v:=?_) rfl (by kernel_rfl) (by kernel_rfl) (by kernel_rfl) (fun _ _ _ h=>h) (Or.inl ⟨by rfl,?_⟩) (by assumption) ?_
     rotate_left
     ·intro wz hSw;obtain⟨q1,q2⟩:=QC.out wz hSw;clear hSw;go_simp;try with_reducible rfl
     dsimp only [Act.put,List.getElem_toArray,List.getElem_cons_zero,List.getElem_cons_succ]
     simp only [List.setIfInBounds_toArray,List.set_cons_zero,List.set_cons_succ]
     refine wpAnyH_take (i:=10) (oi:=_) (v:=?_) rfl (by kernel_rfl) (by kernel_rfl) (by kernel_rfl) (fun _ _ _ h=>h) (Or.inl ⟨by rfl,?_⟩) (by assumption) ?_
     rotate_left
     ·intro wz hSw;obtain⟨q1,q2⟩:=QC.out wz hSw;clear hSw;go_simp;try with_reducible rfl
     dsimp only [Act.put,List.getElem_toArray,List.getElem_cons_zero,List.getElem_cons_succ]
     simp only [List.setIfInBounds_toArray,List.set_cons_zero,List.set_cons_succ]
     refine wpAnyH_take (i:=11) (oi:=_) (v:=?_) rfl (by kernel_rfl) (by kernel_rfl) (by kernel_rfl) (fun _ _ _ h=>h) (Or.inl ⟨by rfl,?_⟩) (by assumption) ?_
     rotate_left
     ·intro wz hSw;obtain⟨q1,q2⟩:=QC.out wz hSw;clear hSw;go_simp;try with_reducible rfl
     dsimp only [Act.put,List.getElem_toArray,List.getElem_cons_zero,List.getElem_cons_succ]
     simp only [List.setIfInBounds_toArray,List.set_cons_zero,List.set_cons_succ]
     refine wpAnyH_take (i:=12) (oi:=_) (v:=?_) rfl (by kernel_rfl) (by kernel_rfl) (by kernel_rfl) (fun _ _ _ h=>h) (Or.inl ⟨by rfl,?_⟩) (by assumption) ?_
     rotate_left
     ·intro wz hSw;obtain⟨q1,q2⟩:=QC.out wz hSw;clear hSw;go_simp;try with_reducible rfl
     dsimp only [Act.put,List.getElem_toArray,List.getElem_cons_zero,List.getElem_cons_succ]
     simp only [List.setIfInBounds_toArray,List.set_cons_zero,List.set_cons_succ]
     refine wpAnyH_take (i:=13) (oi:=_) (v:=?_) rfl (by kernel_rfl) (by kernel_rfl) (by kernel_rfl) (fun _ _ _ h=>h) (Or.inl ⟨by rfl,?_⟩) (by assumption) ?_
     rotate_left
     ·intro wz hSw;obtain⟨q1,q2⟩:=QC.out wz hSw;clear hSw;go_simp;try with_reducible rfl
     dsimp only [Act.put,List.getElem_toArray,List.getElem_cons_zero,List.getElem_cons_succ]
     simp only [List.setIfInBounds_toArray,List.set_cons_zero,List.set_cons_succ]
     refine wpAnyH_ready (rs:=[14]) (by kernel_rfl) (by simp) ?_
     refine AllReadyH.cons rfl (fun K hK=>?_) AllReadyH.nil
     go_simp
     refine hK.out _ _ (MD.out.fr.alloc _) (fun hHeld2=>?_)
     clear hK K
     refine wpAnyH_ready (rs:=[15]) (by kernel_rfl) (by simp) ?_
     refine AllReadyH.cons rfl (fun K hK=>?_) AllReadyH.nil
     refine dM rfl _ _ 25 rfl w.heap.size 99 t0 (.agg #[.int .i64 0,.int .i64 0]) 2 16 aO ti hz0 hz1 hz2 rfl (by decide) (.slice qo O.length co) O.length (aM O) (by simp [Act.eval]) (World.ownsRow.alloc MD.out.own (.cells #[.int .i64 (lo - 32),.int .i64 (hi - 32)] 99)) ⟨wr.heap.size,0,none⟩ 1 1 [.int .i64 (lo - 32),.int .i64 (hi - 32)] (by simp [Act.eval]) rfl (fG _ _ _ _) (by simp [Value.oneCell']) (by unfold maxLen;omega) (by omega) (by simp;omega) ?_
     intro v' w6' hown' hgrow hblk
     obtain⟨g6,cap6,rfl⟩:=aI hown' (Nat.succ_pos _)
     have M6:Hid (FW w w4 W1 w6' (.slice (some ⟨g6,0,none⟩) (O.length+1) cap6) (O ++ [(lo - 32,hi - 32)])):=MD.out.app hgrow hown' hblk
     clear hown' hgrow hblk
     refine hK.out _ _ M6.out.fr (fun hHeld3=>?_)
     clear hK K
     refine wpAnyH_ready (rs:=[16]) (by kernel_rfl) (by simp) ?_
     refine AllReadyH.cons rfl (fun K hK=>?_) AllReadyH.nil
     go_simp
     refine hK.out _ _ M6.out.fr (fun hHeld4=>?_)
     clear hK K
     refine wpAnyH_done (by kernel_rfl) ?_ _
     go_wp2
     go_roundw
     case rel=>exact⟨j+1,by omega,by go_num,by rw [NXT.out,<- List.append_assoc,EO.out];exact M6.out⟩
     case measure=>simp [intOf];omega
    ·have j1:¬ (j:Int) < (S.length:Int):=by omega
     have EJ:Hid (shL S j (-32)=S.map fun r:Int × Int=>(r.1+-32,r.2+-32)):=aC (by unfold shL;rw [List.take_of_length_le (by omega)])
     have EG:Hid (C2=C ++ G.map fun r:Int × Int=>(r.1+32,r.2+32)):=aC (by rw [<- EC.out];unfold shL;rw [List.take_length])
     rw [EJ.out] at hW ⊢
     have MZ:Hid _:=hW
     have FZ:Hid (Fit (C2 ++ S.map fun r:Int × Int=>(r.1+-32,r.2+-32))):=aC (by
      rw [EG.out]
      refine bW (bW X4.out.2.1.fit fun r hr=>?_) fun r hr=>?_
      ·obtain⟨x,hx,e⟩:=List.mem_map.1 hr
       subst e
       obtain⟨i,hi⟩:=List.getElem?_of_mem hx
       have:=BDG.out i x hi
       simp only
       omega
      ·obtain⟨x,hx,e⟩:=List.mem_map.1 hr
       subst e
       obtain⟨i,hi⟩:=List.getElem?_of_mem hx
       have:=BDS.out i x hi
       simp only
       omega)
     have LZ:Hid ((C2 ++ S.map fun r:Int × Int=>(r.1+-32,r.2+-32)).length<=3 * L.length):=aC (by simp;omega)
     have IZ:Hid (∀ c,In (C2 ++ S.map fun r:Int × Int=>(r.1+-32,r.2+-32)) c ↔ gF L c):=fun c=>by
      rw [EG.out,bV,bV,jC,jC,X4.out.2.1.mem,X5.out.2.1.mem,X6.out.2.1.mem,dI,dI]
      unfold gF
      rw [show c - -32=c+32 by omega,or_assoc]
     clear hW
     generalize (C2 ++ S.map fun r:Int × Int=>(r.1+-32,r.2+-32))=Z at *
     go_wp2_with (go_at_call 144;refine(fU MZ.out.own.arg FZ.out (by have:=LZ.out;omega)).mono ?_;rintro e w7 ⟨v7,D,rfl,h1,h2,h3,h4⟩;have X7:Hid (RR wr.heap.size w7 v7 D/\IsC D (In Z)/\D.length<=Z.length/\Below wr.heap.size wr w7):=⟨h1,h2,h3,h4⟩;clear h1 h2 h3 h4)
     go_ret
     have BZ:Below w.heap.size w wr:=bM BTW.out MZ.out.fr lz9 (fun k hk=>hk.1)
     exact⟨_,_,rfl,X7.out.1.mono BZ.size,X7.out.2.1.to IZ.out,Nat.le_trans X7.out.2.2.1 LZ.out,aE BZ X7.out.2.2.2 lz9⟩
section
attribute [local go_sem] aR
theorem aW7{m:Md}{c:Int}(hc:bK m.c c)(hf:m.f=false):IsC [(c,c)] (cP m [(c,c)] false):=by
 refine⟨⟨by simp,by simp⟩,fK ?_,fun x=>?_⟩
 ·have h1:=hc.1
  have h2:=hc.2.1
  unfold top at h2
  split at h2 <;> omega
 ·rw [dI]
  simp only [cP,hf,Bool.false_eq_true,if_false,dI]
  constructor
  ·intro h
   have e:x=c:=by omega
   subst e
   exact⟨hc,h⟩
  ·exact fun h=>h.2
theorem bU(m:Bool)(c:Int)(h0:0<=c)(h1:c<=255):bK m c:=by
 refine⟨h0,?_,fun _=>.inl (by omega)⟩
 unfold top
 split <;> omega
theorem aF2{m:Md}{c:Int}{C:List (Int × Int)}(hc:bK m.c c)(hf:m.f=true)(h:IsC C (gF [(c,c)])):IsC C (cP m [(c,c)] false):=by
 refine h.to fun x=>?_
 simp only [cP,hf,Bool.false_eq_true,if_false,if_true]
 unfold rU gF
 simp only [dI]
 constructor
 ·intro k
  refine⟨?_,k⟩
  rcases k with k | k | k
  ·rw [show x=c by omega];exact hc
  ·exact bU _ _ (by omega) (by omega)
  ·exact bU _ _ (by omega) (by omega)
 ·exact fun k=>k.2
theorem fZ{w:World}{b:Nat}{s:ByteArray}{m:Md}{p:Nat}{tv:Value}{x a:Nat}(h:SX w b s m p tv x a){c:Int}(hc:bK m.c c) :
  Calls Tryz.prog 102 #[.pointer (some ⟨b,0,none⟩),.int .i64 c] w fun e w'=>∃ v C,e=.returned v/\RR w.heap.size w' v C/\IsC C (cP m [(c,c)] false)/\Below w.heap.size w w':=by
 obtain⟨mc,mf⟩:=m
 have W1:Below w.heap.size w (w.alloc (.cells #[.int .i64 c,.int .i64 c] 99)):=bz9
 have c2:=(h.kept W1).c2
 have lb:=h.lt
 simp only at c2
 have R1:Hid (RR w.heap.size (w.alloc (.cells #[.int .i64 c,.int .i64 c] 99)) (.slice (some ⟨w.heap.size,0,none⟩) 1 1) [(c,c)]):=World.ownsRow_lit w #[.int .i64 c,.int .i64 c] 1 lz9 (by unfold maxLen;omega) rfl
 have B1:Hid (Below w.heap.size w (w.alloc (.cells #[.int .i64 c,.int .i64 c] 99))):=W1
 have FT:Hid (Fit [(c,c)]):=aC (fK (by have h1:=hc.1;have h2:=hc.2.1;unfold top at h2;split at h2 <;> omega))
 have HC:Hid (bK mc c):=hc
 clear h W1 hc
 cases mf with
 | true=>
  go_enter Tryz.func102,Tryz.ntmps102
  go_wp2_with (go_at_call 124;(with_reducible refine(sW R1.out.arg FT.out (by simp)).mono ?_);rintro e w5 ⟨v5,C5,rfl,h1,h2,h3,h4⟩;obtain⟨q5,k5,rfl⟩:=h1.shape;have X5:Hid (RR w.heap.size w5 (.slice q5 C5.length k5) C5/\IsC C5 (gF [(c,c)])/\Below w.heap.size w w5):=⟨h1.mono (by simp),h2,aE B1.out h4 lz9⟩;clear h1 h2 h3 h4)
  go_ret
  exact⟨_,C5,rfl,X5.out.1,aF2 (m:=⟨mc,true⟩) HC.out rfl X5.out.2.1,X5.out.2.2⟩
 | false=>
  go_enter Tryz.func102,Tryz.ntmps102
  go_wp2
  go_ret
  exact⟨_,_,rfl,R1.out,aW7 (m:=⟨mc,false⟩) HC.out rfl,B1.out⟩
theorem TL.sx{base:Nat}{w w':World}{v:Value}{D:List Dt}{b:Nat}{s:ByteArray}{m:Md}{p:Nat}{tv:Value}{x a:Nat}(h:TL base w v D)(hr:SX w b s m p tv x a)(hf:Fr (At b) w w'):TL base w' v D:=
 h.fr hf (fun k hk e=>aN h.own hr (by decide) (by rw [hk,show k=b from e])) (fun d hd k hk e=>aN (h.each d hd).1 hr (by decide) (by rw [hk,show k=b from e]))
theorem RR.sx{base:Nat}{w w':World}{v:Value}{L:List (Int × Int)}{b:Nat}{s:ByteArray}{m:Md}{p:Nat}{tv:Value}{x a:Nat}(h:RR base w v L)(hr:SX w b s m p tv x a)(hf:Fr (At b) w w'):RR base w' v L:=
 h.fr hf (fun k hk e=>aN h hr (by decide) (by rw [hk,show k=b from e]))
theorem TL.lastS{base:Nat}{w:World}{v:Value}{D:List Dt}{b:Nat}{s:ByteArray}{m:Md}{p:Nat}{tv:Value}{x a:Nat}{T:List Tp}(h:TL base w v D)(hr:SX w b s m p tv x a)(hT:D.map Prod.fst=T)(hs:Stands s T p)(hp:p<=2000)(hn:D=[]->v=.slice none 0 0):LK w b v (cH T):=by
 cases hD:D.length with
 | zero=>
  have e:=List.eq_nil_of_length_eq_zero hD
  subst e
  subst hT
  exact .inl ⟨hn rfl,rfl⟩
 | succ n=>
  obtain⟨g,c,rfl⟩:=aI h.own (by omega)
  have hl:T.length=n+1:=by rw [<- hT,List.length_map,hD]
  obtain⟨d,hd⟩:∃ d,D[n]?=some d:=⟨_,List.getElem?_eq_getElem (by omega)⟩
  have ht:T[n]?=some d.1:=by rw [<- hT,List.getElem?_map,hd];rfl
  have hk:=rR T n d.1 hl ht
  have hok:=(hs.each n d.1 ht).2.2.2
  have hf:=hs.few
  refine .inr ⟨g,n,c,by rw [hD],fun e=>aN h.own hr (by decide) (by simp [Value.ownBlock,e]),(aH h.own rfl).2.1,by omega,by rw [hk];exact hok.1,?_⟩
  rw [hk]
  exact bC h.own ((oP D n d 0 hd (by omega)).trans rfl)
theorem aR4{base b:Nat}{V V1 w10:World}{s:ByteArray}{m:Md}{p:Nat}{v:Value}{x y:Nat}{D:List Dt}{d:Dt}{g c:Nat}(hr:SX V b s m p v x y)(hT:TL base V v D)(hB:Below V.heap.size V V1)(hRR:RR base V d.2.1 d.2.2)(hI:IsC d.2.2 d.1.1.q)
  (hap:∀ a∈D,∀ k,a.2.1.ownBlock=some k->d.2.1.ownBlock≠some k) (hown:w10.ownsRow base 104 7 (.slice (some ⟨g,0,none⟩) (D.length+1) c) (D.length+1) (tcs D ++ tc d)) (hg:V1.grownBy w10 v.ownBlock) :
  SX w10 b s m p v x y/\TL base w10 (.slice (some ⟨g,0,none⟩) (D.length+1) c) (D ++ [d])/\Fr (fun k=>v.ownBlock=some k) V1 w10:=by
 have hf:Fr (fun k=>v.ownBlock=some k) V1 w10:=Fr.grown (Fr.refl _ _) hg (fun k hk=>hk)
 have hr1:=hr.kept hB
 have hT1:=hT.kept hB
 have nb:v.ownBlock≠some b:=aN hT1.own hr1 (by decide)
 have hne:∀ (x:Value) (X:List (Int × Int)),RR base V1 x X->∀ k,x.ownBlock=some k->¬ v.ownBlock=some k:=fun x X hx k hk hv=>by
  obtain⟨-,-,cur,hc⟩:=aH hT1.own hv
  exact aN hx hc (by decide) hk
 refine⟨(hf.block b hr1.lt nb).trans hr1,⟨?_,?_,?_⟩,hf⟩
 ·rw [List.length_append,List.length_singleton,pC]
  simpa [tcs] using hown
 ·intro a ha
  rcases List.mem_append.1 ha with ha | ha
  ·exact⟨(hT1.each a ha).1.fr hf (hne _ _ (hT1.each a ha).1),(hT1.each a ha).2⟩
  ·simp at ha
   subst ha
   exact⟨(hRR.kept hB).fr hf (hne _ _ (hRR.kept hB)),hI⟩
 ·refine List.pairwise_append.2 ⟨hT.apart,List.pairwise_singleton _ _,fun a ha x hx=>?_⟩
  simp at hx
  subst hx
  exact hap a ha
theorem bE0{base:Nat}{w:World}{b:Nat}{s:ByteArray}{m:Md}{p n q:Nat}{v:Value}{x y:Nat}{D:List Dt}{t:Tk}{rv:Value}{C:List (Int × Int)}(h:SX w b s m p v x y)(hT:TL base w v D)(hR:RR base w rv C)(hI:IsC C t.q)
  (hap:∀ a∈D,∀ k,a.2.1.ownBlock=some k->rv.ownBlock≠some k) (hb:base<=b) (hq:q=p+n) (hq2:q<=4000) (hD:D.length<=2000) :
  Calls Tryz.prog 100 #[.pointer (some ⟨b,0,none⟩),tkV t 0 0 rv,.int .i64 (n:Int)] w fun e w'=>e=.returned (.tuple #[])/\∃ v',SX w' b s m q v' x y/\TL base w' v' (D ++ [((t,p,q),rv,C)])/\Below base w w':=by
 obtain⟨q8,k8,rfl⟩:=hR.shape
 obtain⟨qv,kv,rfl⟩:=aL hT.own
 obtain⟨i0,ti,hz0,hz1,hz2⟩:=aS uF
 have c3:=h.c3
 have lb:=h.lt
 have hw:IntKind.wrap .i64 ((p:Int)+(n:Int))=(q:Int):=by rw [wrap_small _ (by omega) (by omega)];omega
 have H:Hid (SX w b s m p (.slice qv D.length kv) x y/\TL base w (.slice qv D.length kv) D/\RR base w (.slice q8 C.length k8) C/\IsC C t.q/\∀ a∈D,∀ k,a.2.1.ownBlock=some k->(Value.slice q8 C.length k8).ownBlock≠some k):=⟨h,hT,hR,hI,hap⟩
 clear h hT hR hI hap
 unfold tkV
 go_enter Tryz.func100,Tryz.ntmps100
 go_upto_region 3 with fail
 have hpq:(p:Int)+(n:Int)=(q:Int):=by omega
 rw [hpq]
 have B9:Hid (Below w.heap.size w (w.alloc (.cells #[.int .i64 (t.kind:Int),.int .i64 (p:Int),.int .i64 (q:Int),.int .i64 (t.n:Int),.int .i64 t.mn,.int .i64 t.mx,.slice q8 C.length k8] 104))):=bz9
 have N9:=aG w (.cells #[.int .i64 (t.kind:Int),.int .i64 (p:Int),.int .i64 (q:Int),.int .i64 (t.n:Int),.int .i64 t.mn,.int .i64 t.mx,.slice q8 C.length k8] 104)
 have hz9:(w.alloc (.cells #[.int .i64 (t.kind:Int),.int .i64 (p:Int),.int .i64 (q:Int),.int .i64 (t.n:Int),.int .i64 t.mn,.int .i64 t.mx,.slice q8 C.length k8] 104)).heap.size=w.heap.size+1:=by simp
 generalize (w.alloc (.cells #[.int .i64 (t.kind:Int),.int .i64 (p:Int),.int .i64 (q:Int),.int .i64 (t.n:Int),.int .i64 t.mn,.int .i64 t.mx,.slice q8 C.length k8] 104))=V9 at B9 N9 hz9 ⊢
 have X9:Hid (SX V9 b s m p (.slice qv D.length kv) x y/\TL base V9 (.slice qv D.length kv) D/\RR base V9 (.slice q8 C.length k8) C):=⟨H.out.1.kept B9.out,H.out.2.1.kept B9.out,H.out.2.2.1.kept B9.out⟩
 have n0:V9.cell? ⟨w.heap.size,0,none⟩=some (.int .i64 (t.kind:Int)):=aB N9 (i:=0) rfl
 have n1:V9.cell? ⟨w.heap.size,1,none⟩=some (.int .i64 (p:Int)):=aB N9 (i:=1) rfl
 have n2:V9.cell? ⟨w.heap.size,2,none⟩=some (.int .i64 (q:Int)):=aB N9 (i:=2) rfl
 have n3:V9.cell? ⟨w.heap.size,3,none⟩=some (.int .i64 (t.n:Int)):=aB N9 (i:=3) rfl
 have n4:V9.cell? ⟨w.heap.size,4,none⟩=some (.int .i64 t.mn):=aB N9 (i:=4) rfl
 have n5:V9.cell? ⟨w.heap.size,5,none⟩=some (.int .i64 t.mx):=aB N9 (i:=5) rfl
 have n6:V9.cell? ⟨w.heap.size,6,none⟩=some (.slice q8 C.length k8):=aB N9 (i:=6) rfl
 have NN:Hid (V9.heap[w.heap.size]?=some (.cells #[.int .i64 (t.kind:Int),.int .i64 (p:Int),.int .i64 (q:Int),.int .i64 (t.n:Int),.int .i64 t.mn,.int .i64 t.mx,.slice q8 C.length k8] 104 (0,0))):=N9
 have lw:w.heap.size < V9.heap.size:=by omega
 have lb9:b < V9.heap.size:=by omega
 have e4:V9.cell? ⟨b,4,none⟩=some (.slice qv D.length kv):=X9.out.1.c4
 have hb1:base<=V9.heap.size:=by omega
 have HZ9:Hid (V9.heap.size=w.heap.size+1):=hz9
 have OW:Hid ((V9.alloc (.cells #[.int .i64 (t.kind:Int),.int .i64 (p:Int),.int .i64 (q:Int),.int .i64 (t.n:Int),.int .i64 t.mn,.int .i64 t.mx,.slice q8 C.length k8] 104)).drew.ownsRow base 104 7 (.slice qv D.length kv) D.length (tcs D)):=(World.ownsRow.alloc X9.out.2.1.own (.cells #[.int .i64 (t.kind:Int),.int .i64 (p:Int),.int .i64 (q:Int),.int .i64 (t.n:Int),.int .i64 t.mn,.int .i64 t.mx,.slice q8 C.length k8] 104)).drew
 have NW:Hid (∀ j u,[.int .i64 (t.kind:Int),.int .i64 (p:Int),.int .i64 (q:Int),.int .i64 (t.n:Int),.int .i64 t.mn,.int .i64 t.mx,.slice q8 C.length k8][j]?=some u->(V9.alloc (.cells #[.int .i64 (t.kind:Int),.int .i64 (p:Int),.int .i64 (q:Int),.int .i64 (t.n:Int),.int .i64 t.mn,.int .i64 t.mx,.slice q8 C.length k8] 104)).drew.cell? ((⟨V9.heap.size,0,none⟩:Addr).add j)=some u):=bP V9 #[.int .i64 (t.kind:Int),.int .i64 (p:Int),.int .i64 (q:Int),.int .i64 (t.n:Int),.int .i64 t.mn,.int .i64 t.mx,.slice q8 C.length k8] 104
 have O1:Hid (∀ u∈([.int .i64 (t.kind:Int),.int .i64 (p:Int),.int .i64 (q:Int),.int .i64 (t.n:Int),.int .i64 t.mn,.int .i64 t.mx,.slice q8 C.length k8]:List Value),u.oneCell'=true):=aC (by simp [Value.oneCell'])
 have hz10:Hid (base<=(V9.alloc (.cells #[.int .i64 (t.kind:Int),.int .i64 (p:Int),.int .i64 (q:Int),.int .i64 (t.n:Int),.int .i64 t.mn,.int .i64 t.mx,.slice q8 C.length k8] 104)).drew.heap.size):=aC (by simp;omega)
 have AP:Hid (∀ (g c:Nat) (w10:World),w10.ownsRow base 104 7 (.slice (some ⟨g,0,none⟩) (D.length+1) c) (D.length+1) (tcs D ++ [.int .i64 (t.kind:Int),.int .i64 (p:Int),.int .i64 (q:Int),.int .i64 (t.n:Int),.int .i64 t.mn,.int .i64 t.mx,.slice q8 C.length k8])->(V9.alloc (.cells #[.int .i64 (t.kind:Int),.int .i64 (p:Int),.int .i64 (q:Int),.int .i64 (t.n:Int),.int .i64 t.mn,.int .i64 t.mx,.slice q8 C.length k8] 104)).drew.grownBy w10 (Value.slice qv D.length kv).ownBlock ->
   SX w10 b s m p (.slice qv D.length kv) x y/\TL base w10 (.slice (some ⟨g,0,none⟩) (D.length+1) c) (D ++ [((t,p,q),.slice q8 C.length k8,C)])/\Below base w w10/\w10.cell? ⟨w.heap.size,2,none⟩=some (.int .i64 (q:Int))/\w.heap.size < w10.heap.size):=fun g c w10 h1 h2=>by
  have hB:Below V9.heap.size V9 (V9.alloc (.cells #[.int .i64 (t.kind:Int),.int .i64 (p:Int),.int .i64 (q:Int),.int .i64 (t.n:Int),.int .i64 t.mn,.int .i64 t.mx,.slice q8 C.length k8] 104)).drew:=(bz9).drew
  obtain⟨k1,k2,k3⟩:=aR4 (d:=((t,p,q),.slice q8 C.length k8,C)) X9.out.1 X9.out.2.1 hB X9.out.2.2 H.out.2.2.2.1 H.out.2.2.2.2 h1 h2
  have hNB:=(hB.block w.heap.size lw).trans NN.out
  have hnb:¬ (Value.slice qv D.length kv).ownBlock=some w.heap.size:=fun q=>by
   have:=(aH H.out.2.1.own q).2.1
   omega
  have hN10:=(k3.block w.heap.size (aA hNB) hnb).trans hNB
  exact⟨k1,k2,((B9.out.mono (by omega)).trans (hB.mono hb1)).trans (k3.below hz10.out fun k hk=>(aH OW.out hk).1),aB hN10 (i:=2) rfl,aA hN10⟩
 clear N9 hz9 c3 hw hpq lb hq
 go_region_law (refine dM rfl _ _ 51 rfl base 104 i0 (.agg #[.int .i64 0,.int .i64 0,.int .i64 0,.int .i64 0,.int .i64 0,.int .i64 0,.slice none 0 0]) 7 72 tW ti hz0 hz1 hz2 rfl (by decide) (.slice qv D.length kv) D.length (tcs D) (by simp [Act.eval]) OW.out ⟨V9.heap.size,0,none⟩ 1 1 [.int .i64 (t.kind:Int),.int .i64 (p:Int),.int .i64 (q:Int),.int .i64 (t.n:Int),.int .i64 t.mn,.int .i64 t.mx,.slice q8 C.length k8] (by simp [Act.eval]) rfl NW.out O1.out (by unfold maxLen;omega) (by omega) hz10.out ?_;intro v' w10 hown' hgrow hblk;obtain⟨g10,c10,rfl⟩:=aI hown' (Nat.succ_pos _);have X10:=aC (AP.out g10 c10 w10 hown' hgrow);have m4:=X10.out.1.c4;have mf:=X10.out.1.frz 4;have ml:=X10.out.1.lt;clear hown' hgrow hblk)
 all_goals (have R11:Hid (SX (w10.setCell ⟨b,4,none⟩ (.slice (some ⟨g10,0,none⟩) (D.length+1) c10)) b s m p (.slice (some ⟨g10,0,none⟩) (D.length+1) c10) x y):=aK X10.out.1 4 _)
 all_goals (have F11:Hid (Fr (At b) w10 (w10.setCell ⟨b,4,none⟩ (.slice (some ⟨g10,0,none⟩) (D.length+1) c10))):=Fr.setCell (S:=At b) (Fr.refl _ _) (p:=⟨b,4,none⟩) rfl _)
 all_goals (have r3:=R11.out.c3;have rf3:=R11.out.frz 3;have rl:=R11.out.lt;have hne:¬ w.heap.size=b:=(by have:=H.out.1.lt;omega);have rn:(w10.setCell ⟨b,4,none⟩ (.slice (some ⟨g10,0,none⟩) (D.length+1) c10)).cell? ⟨w.heap.size,2,none⟩=some (.int .i64 (q:Int)):=by(have hz:Fr (At b) w10 (w10.setCell ⟨b,4,none⟩ (.slice (some ⟨g10,0,none⟩) (D.length+1) c10)):=F11.out;have:=hz.block w.heap.size X10.out.2.2.2.2 hne;simpa [World.cell?,this] using X10.out.2.2.2.1))
 all_goals go_wp2
 all_goals go_end0
 all_goals exact⟨rfl,_,aK R11.out 3 _,(X10.out.2.1.sx X10.out.1 F11.out).sx R11.out (Fr.setCell (S:=At b) (Fr.refl _ _) (p:=⟨b,3,none⟩) rfl _),(X10.out.2.2.1.trans (F11.out.below (Nat.le_trans (by have:=H.out.1.lt;omega) X10.out.2.2.1.size) (fun k hk=>by have:k=b:=hk;omega))).trans ((Fr.setCell (S:=At b) (Fr.refl _ _) (p:=⟨b,3,none⟩) rfl _).below (Nat.le_trans (Nat.le_trans (by have:=H.out.1.lt;omega) X10.out.2.2.1.size) F11.out.size) (fun k hk=>by have:k=b:=hk;omega))⟩
end
end Go.Proofs.YtpfdapnfkghgkaaGreatDoor
