/-
  Parts of the proof.
-/
import Derived.Test.YtpfdapnfkghgkaaGreatDoorReadsProof9B31
import Derived.Test.YtpfdapnfkghgkaaGreatDoorReadsProof9B32
set_option maxRecDepth 100000
set_option maxHeartbeats 8000000
namespace Go.Proofs.YtpfdapnfkghgkaaGreatDoor
open Go Go.RowKit
theorem kW{D:List Dt}{p g:Nat}{s:Sgn}{r:List Sgn}(hok:∀ d∈D,eD d.1.1/\d.2.2.length<=1000000)(hl:left D p g=s :: r):cZ D p=skd s:=by
 obtain⟨d,h1,h2,-,-⟩:=bR hl
 have:=(hok d (List.mem_of_getElem? h1)).1
 unfold cZ
 rw [h1,h2,xE _ _ this.1 this.2.1]
theorem bA2{lo n c:Nat}{w:World}{q:Option Addr}{l:List Ps}{ts:List Tr}(h:TRow lo w (.slice q n c) l ts)(hn:l.length=n)(hl:∀ x∈l,hZ x=true/\wf x)(h0:l≠[])(hm:n<=100000)(W:World)(hW:Below w.heap.size w W):Calls Tryz.prog 74 #[.slice q n c] W (MkO W ts (te (mkP l))):=by
 subst hn
 have t1:=h.kept hW
 have:=bE4 t1.arg (fun u hu=>(t1.all.2 u hu).1) (fun u hu=>by
  obtain⟨x,hx,he⟩:=(t1.all.2 u hu).2.2
  rw [<- aZ2,he]
  exact bH3 (hl x hx).1 (hl x hx).2) (by rw [t1.len];exact hm)
 rw [t1.all.1,bH9 l h0,t1.len] at this
 exact this
theorem aL2{A:List Ps}(hA:A≠[])(hl:∀ x∈A,BrD x/\hZ x=true/\wf x){base b p g:Nat}{w:World}{tv:Value}{D:List Dt}{r:List Sgn}(h:DB base w b tv D p g)(hle:left D p g=cE A ++ r)(hr:uS r) :
  Calls Tryz.prog 41 #[.pointer (some ⟨b,0,none⟩)] w (kI base w b tv D p g (mkP A)):=by
 obtain⟨t0,hi,hz0,hz1,hz2⟩:=aS fA
 have HL:=aC hl
 have HLE:=aC hle
 have HR:=aC hr
 have B0:Hid (Below w.heap.size w (w.alloc aX)):=bz9
 have Z0:Hid (BoxN (w.alloc aX) w.heap.size (bare 0)):=aG w _
 have HB:=aC (h.kept B0.out)
 have hfw:=h.few
 obtain⟨X,hX⟩:∃ X,kI base w b tv D p g (mkP A)=X:=⟨_,rfl⟩
 have HX:=aC hX
 rw [hX]
 clear hX h hle hr hl
 have HAN:=aC hA
 have HFL:Hid (pfl (mkP A)=cE A):=by
  show pfl (mkP A)=cE A
  rw [<- List.dropLast_concat_getLast hA,mN]
 have HAL:Hid (A.length<=(cE A).length+1):=by
  have h1:∀ m:List Ps,m.length<=(cY m).length:=by
   intro m
   induction m with
   | nil=>simp
   | cons y m ih=>rw [cY];simp;omega
  show A.length<=(cE A).length+1
  cases A with
  | nil=>simp
  | cons z m=>rw [cE];have:=h1 m;simp;omega
 have HAD:Hid (p+(cE A).length<=max p D.length):=(dX HLE.out).2
 clear hA
 go_enter Tryz.func41,Tryz.ntmps41
 go_upto_region 2 with fail
 generalize w.alloc aX=W0 at B0 Z0 HB ⊢
 go_loopw [3] (fun v wr=>∃ l1 y l2 ts P G,A=l1 ++ y :: l2/\TRow (w.heap.size+1) wr v l1 ts/\DB base wr b tv D P G/\Fr (At b) w wr/\BoxN wr w.heap.size (bare 0)/\left D P G=pfl y ++ (cY l2 ++ r)/\P+(cE (y :: l2)).length=p+(cE A).length/\G+nop (cE (y :: l2))=g+nop (cE A)) (fun _ wr=>D.length+1 - atP wr b)
 case atStart=>
  have h1:=HAN.out
  cases A with
  | nil=>exact absurd rfl h1
  | cons y l2=>exact⟨[],y,l2,[],p,g,rfl,TRow.nil _ _,HB.out,Fr.of_below B0.out,Z0.out,by rw [<- List.append_assoc,<- cE];exact HLE.out,rfl,rfl⟩
 case round=>
  clear B0 Z0 HB
  obtain⟨l1,y,l2,ts,P,G,e,g1,g2,g3,g4,g5,g6,g7⟩:=hrel
  obtain⟨q,c,rfl⟩:=aL g1.own
  have hat:=aC g2.atP
  have hle2:=g2.le
  have hym:=HL.out y (by rw [e];simp)
  have BC:=aC (hym.1 base b P G wr tv D _ g2 g5 (pN HR.out))
  have hl3:left D (P+(pfl y).length) (G+nop (pfl y))=cY l2 ++ r:=(dX g5).1
  have hll:l1.length<=2002:=by
   have h1:=HAL.out
   have h2:=HAD.out
   have h3:l1.length<=A.length:=by rw [e];simp
   rw [cE,List.length_append] at g6
   omega
  have R6:=aC g1
  have H6:=aC g2
  have F6:=aC g3
  have Z6:=aC g4
  have HE:=aC e
  have HP:=aC (show P+(pfl y).length+(cY l2).length=p+(cE A).length by rw [cE,List.length_append] at g6;omega)
  have HG:=aC (show G+nop (pfl y)+nop (cY l2)=g+nop (cE A) by rw [cE,dH] at g7;omega)
  have HLO:Hid (w.heap.size+1<=wr.heap.size):=aA g4
  clear g1 g2 g3 g4 g5 g6 g7 e hym
  generalize hP2:P+(pfl y).length=P2 at *
  generalize hG2:G+nop (pfl y)=G2 at *
  cases l2 with
  | nil=>
   have kn:cZ D P2≠5:=by
    rw [cY,List.nil_append] at hl3
    rcases HR.out with rfl | ⟨r',rfl⟩
    ·rw [nQ hl3];decide
    ·rw [kW H6.out.ok hl3];decide
   have j5:((cZ D P2:Int)==5)=false:=by rw [beq_eq_false_iff_ne];omega
   have j6:((cZ D P2:Int) != 5)=true:=by simp;omega
   have j7:¬ (cZ D P2:Int)=5:=by omega
   have e2:=HE.out
   have PQ:Hid (P2=p+(pfl (mkP A)).length/\G2=g+nop (pfl (mkP A))):=by
    have h1:=HP.out
    have h2:=HG.out
    rw [cY] at h1 h2
    show P2=p+(pfl (mkP A)).length/\G2=g+nop (pfl (mkP A))
    rw [HFL.out]
    simp [nop] at h1 h2
    omega
   have HAB:Hid (∀ x∈A,hZ x=true/\wf x):=fun x hx=>(HL.out x hx).2
   clear hl3 kn
   go_wp2_with first
    |(go_at_call 72;(with_reducible refine(BC.out).mono ?_);rintro e w6 ⟨t6,rfl,h1,h2,h3⟩;rw [hP2,hG2] at h2;have V6:=aC h1;have H7:=aC h2;have F7:=aC h3;have B7:=aC (kJ w6 t6.f).1;have N7:=aC (kJ w6 t6.f).2;have R7:=aC ((R6.out.at H6.out F7.out).kept B7.out);clear h1 h2 h3)
    |(at_builtin;refine wpList_append_own_at _ rfl _ _ 26 rfl (w.heap.size+1) 28 t0 (.agg #[.int .i64 0,.int .i64 0,.int .i64 0,.int .i64 0,.slice none 0 0,.slice none 0 0]) 6 80 cR hi hz0 hz1 hz2 rfl (by decide) (.slice q l1.length c) l1.length (bD ts) rfl R7.out.own ⟨w6.heap.size+1,0,none⟩ 1 1 t6.f.cells rfl rfl N7.out (fun v hv=>by simp [Fl.cells] at hv;rcases hv with rfl | rfl | rfl | rfl | rfl | rfl <;> rfl) (by unfold maxLen;omega) (by omega) (by have:=B7.out.size;have:=F7.out.size;have:=HLO.out;omega) ?_;intro v' w8 hown' hgrow _ hblk;obtain⟨q8,c8,rfl⟩:=aL hown';have R8:=aC (R6.out.snoc H6.out HLO.out F7.out rfl V6.out B7.out hown' hgrow hblk);have F8:Hid (Fr (fun k=>(Value.slice q l1.length c).ownBlock=some k) ((w6.alloc (.cells #[.int .i64 t6.f.k,.int .i64 t6.f.n,.int .i64 t6.f.mn,.int .i64 t6.f.mx,.slice t6.f.rq t6.f.rs.length t6.f.rc,.slice t6.f.kq t6.f.kl t6.f.kc] 28)).alloc (.cells #[.int .i64 t6.f.k,.int .i64 t6.f.n,.int .i64 t6.f.mn,.int .i64 t6.f.mx,.slice t6.f.rq t6.f.rs.length t6.f.rc,.slice t6.f.kq t6.f.kl t6.f.kc] 28)) w8):=Fr.grown (Fr.refl _ _) hgrow (fun k hk=>hk);have ROW:=aC (fun k hk=>aH R7.out.own (g:=k) hk);have H8:=aC ((H7.out.kept B7.out).grow F8.out (fun k hk=>(ROW.out k hk).2.2));have Z7:Hid (BoxN w8 w.heap.size (bare 0)):=Fr.box ((Z6.out.at H6.out F7.out).kept B7.out) F8.out (fun e=>by have:=(ROW.out _ e).1;omega);have FF:Hid (Fr (At b) w w8):=((F6.out.trans F7.out).trans (Fr.of_below B7.out)).over F8.out (fun k hk=>.inr (by have:=(ROW.out k hk).1;omega));have KC:=aC (oS H8.out);clear hown' hgrow hblk)
    |(go_at_call 73;(with_reducible refine(KC.out).mono ?_);rintro e w9 ⟨rfl,h1⟩;have B9:=aC h1;have CT:=aC (bA2 (n:=l1.length+1) R8.out (by simp) (fun x hx=>HAB.out x (by rw [HE.out];exact hx)) (by simp) (by omega) _ h1);clear h1)
    |(go_at_call 74;(with_reducible refine(CT.out).mono ?_);rintro e wA ⟨tA,rfl,h1,h2,h3,h4⟩;have BA:=aC (aE B9.out h4 lz9);have Z8:=aC (Z7.out.kept BA.out);have l8:=aA Z8.out;obtain⟨r0,r1,r2,r3,r4,r5⟩:=Z8.out.six;simp only [Nat.zero_add] at r1 r2 r3 r4 r5;have fz:=fun z=>aP Z8.out z;have DE:=tK Z8.out ⟨h1,h2,h3 (fun k=>w.heap.size+1<=k) (fun k hk=>by have:=B9.out.size;have:=aA Z7.out;show w.heap.size+1<=k;omega) (fun u hu=>(R8.out.all.2 u hu).2.1)⟩ (H8.out.kept BA.out) (FF.out.trans (Fr.of_below BA.out));have EA:=aC DE;unfold bH at EA;clear h1 h2 h3 h4 DE)
   refine aL7 EA.out.1 rfl rfl ?_
   rw [<- HX.out]
   refine⟨tA,rfl,?_,?_,EA.out.2.2.2⟩
   ·rw [e2];exact EA.out.2.1
   ·rw [<- PQ.out.1,<- PQ.out.2];exact EA.out.2.2.1
  | cons y2 l2=>
   rw [cY,List.cons_append] at hl3
   have j5:((cZ D P2:Int)==5)=true:=by rw [kW H6.out.ok hl3];rfl
   have j6:((cZ D P2:Int) != 5)=false:=by rw [kW H6.out.ok hl3];rfl
   have j7:(cZ D P2:Int)=5:=by rw [kW H6.out.ok hl3];rfl
   obtain⟨d,-,-,hl4,hp⟩:=bR hl3
   rw [show nop [Sgn.al]=0 from rfl,Nat.add_zero,List.append_assoc] at hl4
   have HL4:=aC hl4
   have HPL:=aC hp
   have hw2:IntKind.wrap .i64 ((P2:Int)+1)=(P2:Int)+1:=wrap_small _ (by omega) (by omega)
   clear hl3 hl4 hp j7
   go_wp2_with first
    |(go_at_call 72;(with_reducible refine(BC.out).mono ?_);rintro e w6 ⟨t6,rfl,h1,h2,h3⟩;rw [hP2,hG2] at h2;have V6:=aC h1;have H7:=aC h2;have F7:=aC h3;have B7:=aC (kJ w6 t6.f).1;have N7:=aC (kJ w6 t6.f).2;have R7:=aC ((R6.out.at H6.out F7.out).kept B7.out);clear h1 h2 h3)
    |(at_builtin;refine wpList_append_own_at _ rfl _ _ 26 rfl (w.heap.size+1) 28 t0 (.agg #[.int .i64 0,.int .i64 0,.int .i64 0,.int .i64 0,.slice none 0 0,.slice none 0 0]) 6 80 cR hi hz0 hz1 hz2 rfl (by decide) (.slice q l1.length c) l1.length (bD ts) rfl R7.out.own ⟨w6.heap.size+1,0,none⟩ 1 1 t6.f.cells rfl rfl N7.out (fun v hv=>by simp [Fl.cells] at hv;rcases hv with rfl | rfl | rfl | rfl | rfl | rfl <;> rfl) (by unfold maxLen;omega) (by omega) (by have:=B7.out.size;have:=F7.out.size;have:=HLO.out;omega) ?_;intro v' w8 hown' hgrow _ hblk;obtain⟨q8,c8,rfl⟩:=aL hown';have R8:=aC (R6.out.snoc H6.out HLO.out F7.out rfl V6.out B7.out hown' hgrow hblk);have F8:Hid (Fr (fun k=>(Value.slice q l1.length c).ownBlock=some k) ((w6.alloc (.cells #[.int .i64 t6.f.k,.int .i64 t6.f.n,.int .i64 t6.f.mn,.int .i64 t6.f.mx,.slice t6.f.rq t6.f.rs.length t6.f.rc,.slice t6.f.kq t6.f.kl t6.f.kc] 28)).alloc (.cells #[.int .i64 t6.f.k,.int .i64 t6.f.n,.int .i64 t6.f.mn,.int .i64 t6.f.mx,.slice t6.f.rq t6.f.rs.length t6.f.rc,.slice t6.f.kq t6.f.kl t6.f.kc] 28)) w8):=Fr.grown (Fr.refl _ _) hgrow (fun k hk=>hk);have ROW:=aC (fun k hk=>aH R7.out.own (g:=k) hk);have H8:=aC ((H7.out.kept B7.out).grow F8.out (fun k hk=>(ROW.out k hk).2.2));have Z7:Hid (BoxN w8 w.heap.size (bare 0)):=Fr.box ((Z6.out.at H6.out F7.out).kept B7.out) F8.out (fun e=>by have:=(ROW.out _ e).1;omega);have FF:Hid (Fr (At b) w w8):=((F6.out.trans F7.out).trans (Fr.of_below B7.out)).over F8.out (fun k hk=>.inr (by have:=(ROW.out k hk).1;omega));have KC:=aC (oS H8.out);clear hown' hgrow hblk)
    |(go_at_call 73;(with_reducible refine(KC.out).mono ?_);rintro e w9 ⟨rfl,h1⟩;have B9:=aC h1;have H9:=aC (H8.out.kept h1);have lb:=H9.out.lt;have c1:=H9.out.c1;have fz:=fun z=>aP H9.out.bd z;clear h1)
   go_roundw
   case rel=>
    obtain⟨s1,s2⟩:=H9.out.step HPL.out
    refine⟨l1 ++ [y],y2,l2,_,P2+1,G2,by rw [HE.out];simp,(R8.out.kept B9.out).at H9.out s2,s1,(FF.out.trans (Fr.of_below B9.out)).trans s2,(Z7.out.kept B9.out).at H9.out s2,HL4.out,?_,?_⟩
    ·have h1:=HP.out
     rw [cY] at h1
     rw [cE,<- h1]
     simp
     omega
    ·have h1:=HG.out
     rw [cY] at h1
     rw [cE,<- h1]
     rfl
   case measure=>
    obtain⟨s1,s2⟩:=H9.out.step HPL.out
    have m1:=s1.atP
    have m2:=hat.out
    have m3:=HPL.out
    have m4:=hP2
    omega
theorem aL3(x:Ps)(hw:wf x):bB1 x:=by
 have key:∀ (m:Nat) (x:Ps),x.sz<=m->wf x->bB1 x:=by
  intro m
  induction m with
  | zero=>intro x hx;have:=iY x;omega
  | succ m ih=>
   intro x hx hw
   have IT:∀ y,y.sz<=m+1->cC y=true->wf y->DIt y:=fun y hy hi hwy=>by
    obtain⟨z,l,e,h1,h2,h3,h4⟩:=rS y hi hwy
    rw [e]
    rcases h1 with⟨k,n,rs,rfl⟩ | ⟨n,u,rfl⟩
    ·rw [wf] at h4
     by_cases hk:k=2\/k=8
     ·exact wK (.inl ⟨k,n,rs,rfl,hk⟩)
     ·rcases h2 with rfl | h2
      ·exact aH0 (by omega)
      ·simp [lM] at h2;omega
    ·rw [wf] at h4
     exact wK (.inr ⟨n,u,rfl,ih u (by simp [Ps.sz] at h3;omega) h4⟩)
   have BR:∀ y,y.sz<=m+1->hZ y=true->wf y->BrD y:=fun y hy hb hwy base b p g w tv D r h hle hr=>by
    by_cases hi:cC y=true
    ·exact rM (l:=[y]) (fun z hz=>by simp at hz;subst hz;exact⟨IT z hy hi hwy,hi,hwy⟩) h (by rw [dF];exact hle) hr
    ·cases y with
     | row l=>
      rw [wf] at hwy
      obtain⟨h1,h2,h3⟩:=hwy
      have:=rM (l:=l) (fun z hz=>by
       obtain⟨i,hi,e⟩:=List.getElem_of_mem hz
       have h4:=h2 i z (by rw [List.getElem?_eq_getElem hi,e])
       have h5:=(dA l).1 h3 z hz
       have h6:=kQ hz
       exact⟨IT z (by simp [Ps.sz] at hy;omega) h4.1 h5,h4.1,h5⟩) h (by rw [pfl] at hle;exact hle) hr
      have e:mkB l=.row l:=by
       unfold mkB
       split
       ·simp at h1
       ·rfl
      rw [e] at this
      exact this
     | alt=>simp [hZ] at hb
     | _=>simp [cC] at hi
   intro base b p g w tv D r h hle hr
   by_cases hb:hZ x=true
   ·exact aL2 (A:=[x]) (by simp) (fun z hz=>by simp at hz;subst hz;exact⟨BR z hx hb hw,hb,hw⟩) h (by rw [cE,cY,List.append_nil];exact hle) hr
   ·cases x with
    | alt l=>
     rw [wf] at hw
     obtain⟨h1,h2,h3⟩:=hw
     match l,h1 with
     | y0 :: y1 :: l,_=>
      exact aL2 (A:=y0 :: y1 :: l) (by simp) (fun z hz=>⟨BR z (by have:=kQ hz;simp [Ps.sz] at hx;omega) (h2 z hz) ((dA _).1 h3 z hz),h2 z hz,(dA _).1 h3 z hz⟩) h (by rw [pfl] at hle;exact hle) hr
    | _=>simp [hZ] at hb
 exact key x.sz x lz9 hw
end Go.Proofs.YtpfdapnfkghgkaaGreatDoor
