/-
  Parts of the proof.
-/
import Derived.Test.YtpfdapnfkghgkaaGreatDoorReadsProof9B44
set_option maxRecDepth 100000
set_option maxHeartbeats 8000000
namespace Go.Proofs.YtpfdapnfkghgkaaGreatDoor
open Go Go.RowKit
attribute [local go_sem] aR
theorem xU{base:Nat}{w:World}{b:Nat}{s:ByteArray}{m:Md}{p:Nat}{v:Value}{D:List Dt}(h:Room base w b s m p v D) :
  Calls Tryz.prog 99 #[.pointer (some ⟨b,0,none⟩)] w (Puts base w b s m p D (brk m s p)):=by
 have hs:=h.len
 have hp:=h.at_
 have c3:=h.sx.c3
 have lb:=h.sx.lt
 obtain⟨t0,ti,hz0,hz1,hz2⟩:=aS bF
 obtain⟨P1,hP1⟩:∃ P1,P1=p+1:=⟨_,rfl⟩
 have hw1:IntKind.wrap .i64 ((p:Int)+1)=(P1:Int):=by rw [wrap_small _ (by omega) (by omega)];omega
 obtain⟨T,hT⟩:∃ T,T=aJ s (p+1) [94]:=⟨_,rfl⟩
 obtain⟨A0,hA0⟩:∃ A0,A0=if T then p+2 else p+1:=⟨_,rfl⟩
 obtain⟨RB,hRB⟩:∃ RB,RB=brk m s p:=⟨_,rfl⟩
 rw [<- hRB]
 have HRB:Hid (brk m s p=RB):=aC hRB.symm
 have HT:Hid (∀ W,SX W b s m p v 0 0->_):=aC (aU2 hs P1 (by omega) 94 (E:=T) (by rw [hP1];exact hT))
 have hBI:Hid (BI m s p T true A0 []):=aC (by rw [hA0,hT];exact BI.start m s p hp)
 have HA:Hid ((T=true->IntKind.wrap .i64 ((P1:Int)+1)=(A0:Int))/\(T=false->P1=A0)):=by
  refine⟨fun q=>?_,fun q=>?_⟩
  ·rw [q] at hA0
   rw [wrap_small _ (by omega) (by omega)]
   simp at hA0
   omega
  ·rw [q] at hA0
   simp at hA0
   omega
 have H:Hid (Room base w b s m p v D):=h
 clear h hP1 hT hA0 hRB
 go_enter Tryz.func99,Tryz.ntmps99
 go_upto_if 24 with (go_at_call 96;(with_reducible refine(HT.out _ H.out.sx).mono ?_);rintro e w0 ⟨rfl,h5⟩;have X0:Hid (St w b s m p v (.slice none 0 0) [] 0 0 w0):=⟨H.out.sx.kept h5,Fr.of_below h5,RR.nil _ _⟩;clear h5)
 go_cut [3] (fun u wx=>u=.int .i64 (A0:Int)/\wx=w0)
 case first=>
  cases T with
  | true=>
   have q:=HA.out.1 rfl
   go_wp2_with fail
   go_meet
   exact⟨rfl,rfl⟩
  | false=>
   have q:=HA.out.2 rfl
   go_wp2_with fail
   go_meet
   exact⟨by rw [<- q],rfl⟩
 case rest=>
  obtain⟨rfl,hwc⟩:=hcut
  subst wc
  go_wp2
  go_loopw [3,5,6] (fun u l f wr=>BR w b s m p v T RB u l f wr) (fun u _ _ wr=>bkM s b u wr)
  case atStart=>exact .inl ⟨true,A0,[],rfl,rfl,X0.out,hBI.out⟩
  case round=>
   rcases hrel with⟨first,K,L,rfl,rfl,hst,hbi⟩ | ⟨c,a,x,L,fb,rfl,rfl,hst,hc,hre⟩
   ·obtain⟨qv,kv,rfl⟩:=hst.rr.shape
    have hK:=hbi.le
    have hKo:=hbi.lt
    have hL4:=hbi.len
    obtain⟨E,hE⟩:∃ E,E=aJ s K [93]:=⟨_,rfl⟩
    obtain⟨M,hM⟩:∃ M,M=aJ s K [45]:=⟨_,rfl⟩
    obtain⟨Q,hQ⟩:∃ Q,Q=aJ s K [45,93]:=⟨_,rfl⟩
    have CE:Hid (∀ W,SX W b s m p v 0 0->_):=aC (aU2 hs K (by omega) 93 hE)
    have CM:Hid (∀ W,SX W b s m p v 0 0->_):=aC (aU2 hs K (by omega) 45 hM)
    have CQ:Hid (∀ W,SX W b s m p v 0 0->_):=aC (fD hs K (by omega) 45 93 hQ)
    have HB:Hid (BI m s p T first K L/\E=aJ s K [93]/\M=aJ s K [45]/\Q=aJ s K [45,93]):=⟨hbi,hE,hM,hQ⟩
    have G:Hid (St w b s m p v (.slice qv L.length kv) L 0 0 wr):=hst
    have GM:Hid (bkM s b (.int .i64 (K:Int)) wr=s.size+2 - K):=aC (by unfold bkM;rw [hst.sx.er];simp [intOf])
    have g5:wr.cell? ⟨b,5,none⟩=some (.int .i64 0):=hst.sx.c5
    have gl:=hst.sx.lt
    clear hst hbi hE hM hQ
    go_upto_region 10 with (go_at_call 96;(with_reducible refine(CE.out _ G.out.sx).mono ?_);rintro e w1 ⟨rfl,h5⟩;have X1:Hid (St w b s m p v (.slice qv L.length kv) L 0 0 w1):=G.out.kept h5;clear h5)
    go_cut [39] (fun c wx=>c=.bool (E && !first)/\wx=w1)
    case first=>
     cases E with
     | false=>go_wp2_with fail;go_meet;exact⟨rfl,rfl⟩
     | true=>cases first <;> (go_wp2_with fail;go_meet;exact⟨rfl,rfl⟩)
    case rest=>
     obtain⟨rfl,hwc⟩:=hcut
     subst wc
     cases hx:(E && !first) with
     | true=>
      have hx1:E=true/\first=false:=by cases E <;> cases first <;> simp_all
      obtain⟨rfl,rfl⟩:=hx1
      clear hx
      have k5:w1.cell? ⟨b,5,none⟩=some (.int .i64 0):=X1.out.sx.c5
      have k1:=X1.out.sx.c1
      have kl:=X1.out.sx.lt
      have HR:Hid (RB=.ok (bB m L T,K+1)):=aC (HRB.out.symm.trans (HB.out.1.ends HB.out.2.1.symm))
      obtain⟨NQ,hNQ⟩:∃ NQ,NQ=K+1 - p:=⟨_,rfl⟩
      have hv1:IntKind.wrap .i64 ((K:Int)+1)=(K:Int)+1:=wrap_small _ (by omega) (by omega)
      have hv2:IntKind.wrap .i64 ((K:Int)+1 - (p:Int))=(NQ:Int):=by rw [wrap_small _ (by omega) (by omega)];omega
      have hKs:=bE HB.out.2.1.symm (by simp)
      simp only [List.length_cons,List.length_nil] at hKs
      have HNQ:Hid (K+1=p+NQ/\NQ<=2000):=aC ⟨by omega,by omega⟩
      clear hNQ
      cases hmf:m.f with
      | true=>
       cases T with
       | true=>
        have k2:w1.cell? ⟨b,2,none⟩=some (.bool true):=by have:=X1.out.sx.c2;rw [hmf] at this;exact this
        have HM:Hid (m.f=true):=hmf
        clear hmf
        go_wp2_with first
         |(go_at_call 123;(with_reducible refine(oR (m:=m.c) X1.out.rr.arg HB.out.1.fit (by omega)).mono ?_);rintro e w4 ⟨v4,C4,rfl,h1,h2,h3,h4⟩;obtain⟨q4,k4,rfl⟩:=h1.shape;have Y4:Hid (St w b s m p v (.slice qv L.length kv) L 0 0 w4/\RR w.heap.size w4 (.slice q4 C4.length k4) C4/\IsC C4 (fun c=>In L c/\bK m.c c)/\C4.length<=20000):=⟨X1.out.kept h4,RR.mono h1 X1.out.fr.size,h2,by have:=cF m.c;have:=Nat.mul_le_mul (show L.length<=8000 by omega) this;omega⟩;have a2:w4.cell? ⟨b,2,none⟩=some (.bool true):=(h4.cell (p:=⟨b,2,none⟩) kl).trans k2;have a1:=Y4.out.1.sx.c1;have al:=Y4.out.1.sx.lt;clear h1 h2 h3 h4)
         |(go_at_call 124;(with_reducible refine(sW Y4.out.2.1.arg Y4.out.2.2.1.fit (by have:=Y4.out.2.2.2;omega)).mono ?_);rintro e w5 ⟨v5,C5,rfl,h1,h2,h3,h4⟩;obtain⟨q5,k5,rfl⟩:=h1.shape;have Y5:Hid (St w b s m p v (.slice qv L.length kv) L 0 0 w5/\RR w.heap.size w5 (.slice q5 C5.length k5) C5/\IsC C5 (cP m L false)/\C5.length<=60000):=⟨Y4.out.1.kept h4,RR.mono h1 Y4.out.1.fr.size,uJ Y4.out.2.2.1 HM.out h2,by have:=Y4.out.2.2.2;omega⟩;have f1:=Y5.out.1.sx.c1;have fl:=Y5.out.1.sx.lt;clear h1 h2 h3 h4)
         |(go_at_call 125;(with_reducible refine(aL4 (m:=m.c) Y5.out.2.1.arg Y5.out.2.2.1.fit (by have:=Y5.out.2.2.2;omega)).mono ?_);rintro e w6 ⟨v6,C6,rfl,h1,h2,h3,h4⟩;obtain⟨q6,k6,rfl⟩:=h1.shape;have Y6:Hid (St w b s m p v (.slice qv L.length kv) L 0 0 w6/\RR w.heap.size w6 (.slice q6 C6.length k6) C6/\IsC C6 (cP m L true)):=⟨Y5.out.1.kept h4,RR.mono h1 Y5.out.1.fr.size,zO Y5.out.2.2.1 h2⟩;clear h1 h2 h3 h4)
         |(go_at_call 100;refine((St.room H.out Y6.out.1).1.put (t:=bB m L true) (rv:=.slice q6 C6.length k6) (C:=C6) (RR.mono Y6.out.2.1 H.out.size) Y6.out.2.2 (H.out.new Y6.out.2.1) (n:=NQ) HNQ.out.1 HNQ.out.2).mono ?_;rintro e w9 h9;have hz:=h9.1;subst hz;have X9:Hid (Puts base w b s m p D (.ok (bB m L true,K+1)) (.returned (.tuple #[])) w9):=h9.from (St.room H.out Y6.out.1).2;clear h9)
        go_end0
        rw [HR.out]
        exact X9.out
       | false=>
        have k2:w1.cell? ⟨b,2,none⟩=some (.bool true):=by have:=X1.out.sx.c2;rw [hmf] at this;exact this
        have HM:Hid (m.f=true):=hmf
        clear hmf
        go_wp2_with first
         |(go_at_call 123;(with_reducible refine(oR (m:=m.c) X1.out.rr.arg HB.out.1.fit (by omega)).mono ?_);rintro e w4 ⟨v4,C4,rfl,h1,h2,h3,h4⟩;obtain⟨q4,k4,rfl⟩:=h1.shape;have Y4:Hid (St w b s m p v (.slice qv L.length kv) L 0 0 w4/\RR w.heap.size w4 (.slice q4 C4.length k4) C4/\IsC C4 (fun c=>In L c/\bK m.c c)/\C4.length<=20000):=⟨X1.out.kept h4,RR.mono h1 X1.out.fr.size,h2,by have:=cF m.c;have:=Nat.mul_le_mul (show L.length<=8000 by omega) this;omega⟩;have a2:w4.cell? ⟨b,2,none⟩=some (.bool true):=(h4.cell (p:=⟨b,2,none⟩) kl).trans k2;have a1:=Y4.out.1.sx.c1;have al:=Y4.out.1.sx.lt;clear h1 h2 h3 h4)
         |(go_at_call 124;(with_reducible refine(sW Y4.out.2.1.arg Y4.out.2.2.1.fit (by have:=Y4.out.2.2.2;omega)).mono ?_);rintro e w5 ⟨v5,C5,rfl,h1,h2,h3,h4⟩;obtain⟨q5,k5,rfl⟩:=h1.shape;have Y5:Hid (St w b s m p v (.slice qv L.length kv) L 0 0 w5/\RR w.heap.size w5 (.slice q5 C5.length k5) C5/\IsC C5 (cP m L false)/\C5.length<=60000):=⟨Y4.out.1.kept h4,RR.mono h1 Y4.out.1.fr.size,uJ Y4.out.2.2.1 HM.out h2,by have:=Y4.out.2.2.2;omega⟩;have f1:=Y5.out.1.sx.c1;have fl:=Y5.out.1.sx.lt;clear h1 h2 h3 h4)
         |(go_at_call 100;refine((St.room H.out Y5.out.1).1.put (t:=bB m L false) (rv:=.slice q5 C5.length k5) (C:=C5) (RR.mono Y5.out.2.1 H.out.size) Y5.out.2.2.1 (H.out.new Y5.out.2.1) (n:=NQ) HNQ.out.1 HNQ.out.2).mono ?_;rintro e w9 h9;have hz:=h9.1;subst hz;have X9:Hid (Puts base w b s m p D (.ok (bB m L false,K+1)) (.returned (.tuple #[])) w9):=h9.from (St.room H.out Y5.out.1).2;clear h9)
        go_end0
        rw [HR.out]
        exact X9.out
      | false=>
       cases T with
       | true=>
        have k2:w1.cell? ⟨b,2,none⟩=some (.bool false):=by have:=X1.out.sx.c2;rw [hmf] at this;exact this
        have HM:Hid (m.f=false):=hmf
        clear hmf
        go_wp2_with first
         |(go_at_call 123;(with_reducible refine(oR (m:=m.c) X1.out.rr.arg HB.out.1.fit (by omega)).mono ?_);rintro e w4 ⟨v4,C4,rfl,h1,h2,h3,h4⟩;obtain⟨q4,k4,rfl⟩:=h1.shape;have Y4:Hid (St w b s m p v (.slice qv L.length kv) L 0 0 w4/\RR w.heap.size w4 (.slice q4 C4.length k4) C4/\IsC C4 (fun c=>In L c/\bK m.c c)/\C4.length<=20000):=⟨X1.out.kept h4,RR.mono h1 X1.out.fr.size,h2,by have:=cF m.c;have:=Nat.mul_le_mul (show L.length<=8000 by omega) this;omega⟩;have a2:w4.cell? ⟨b,2,none⟩=some (.bool false):=(h4.cell (p:=⟨b,2,none⟩) kl).trans k2;have a1:=Y4.out.1.sx.c1;have al:=Y4.out.1.sx.lt;clear h1 h2 h3 h4)
         |(go_at_call 125;(with_reducible refine(aL4 (m:=m.c) Y4.out.2.1.arg Y4.out.2.2.1.fit (by have:=Y4.out.2.2.2;omega)).mono ?_);rintro e w6 ⟨v6,C6,rfl,h1,h2,h3,h4⟩;obtain⟨q6,k6,rfl⟩:=h1.shape;have Y6:Hid (St w b s m p v (.slice qv L.length kv) L 0 0 w6/\RR w.heap.size w6 (.slice q6 C6.length k6) C6/\IsC C6 (cP m L true)):=⟨Y4.out.1.kept h4,RR.mono h1 Y4.out.1.fr.size,zO (uI Y4.out.2.2.1 HM.out) h2⟩;clear h1 h2 h3 h4)
         |(go_at_call 100;refine((St.room H.out Y6.out.1).1.put (t:=bB m L true) (rv:=.slice q6 C6.length k6) (C:=C6) (RR.mono Y6.out.2.1 H.out.size) Y6.out.2.2 (H.out.new Y6.out.2.1) (n:=NQ) HNQ.out.1 HNQ.out.2).mono ?_;rintro e w9 h9;have hz:=h9.1;subst hz;have X9:Hid (Puts base w b s m p D (.ok (bB m L true,K+1)) (.returned (.tuple #[])) w9):=h9.from (St.room H.out Y6.out.1).2;clear h9)
        go_end0
        rw [HR.out]
        exact X9.out
       | false=>
        have k2:w1.cell? ⟨b,2,none⟩=some (.bool false):=by have:=X1.out.sx.c2;rw [hmf] at this;exact this
        have HM:Hid (m.f=false):=hmf
        clear hmf
        go_wp2_with first
         |(go_at_call 123;(with_reducible refine(oR (m:=m.c) X1.out.rr.arg HB.out.1.fit (by omega)).mono ?_);rintro e w4 ⟨v4,C4,rfl,h1,h2,h3,h4⟩;obtain⟨q4,k4,rfl⟩:=h1.shape;have Y4:Hid (St w b s m p v (.slice qv L.length kv) L 0 0 w4/\RR w.heap.size w4 (.slice q4 C4.length k4) C4/\IsC C4 (fun c=>In L c/\bK m.c c)/\C4.length<=20000):=⟨X1.out.kept h4,RR.mono h1 X1.out.fr.size,h2,by have:=cF m.c;have:=Nat.mul_le_mul (show L.length<=8000 by omega) this;omega⟩;have a2:w4.cell? ⟨b,2,none⟩=some (.bool false):=(h4.cell (p:=⟨b,2,none⟩) kl).trans k2;have a1:=Y4.out.1.sx.c1;have al:=Y4.out.1.sx.lt;clear h1 h2 h3 h4)
         |(go_at_call 100;refine((St.room H.out Y4.out.1).1.put (t:=bB m L false) (rv:=.slice q4 C4.length k4) (C:=C4) (RR.mono Y4.out.2.1 H.out.size) (uI Y4.out.2.2.1 HM.out) (H.out.new Y4.out.2.1) (n:=NQ) HNQ.out.1 HNQ.out.2).mono ?_;rintro e w9 h9;have hz:=h9.1;subst hz;have X9:Hid (Puts base w b s m p D (.ok (bB m L false,K+1)) (.returned (.tuple #[])) w9):=h9.from (St.room H.out Y4.out.1).2;clear h9)
        go_end0
        rw [HR.out]
        exact X9.out
     | false=>
      have HX:Hid (first=true\/aJ s K [93]=false):=aC (by rw [<- HB.out.2.1];cases E <;> cases first <;> simp_all)
      clear hx
      go_upto_region 13 with first
       |(go_at_call 96;(with_reducible refine(CM.out _ X1.out.sx).mono ?_);rintro e w2 ⟨rfl,h5⟩;have X2:Hid (St w b s m p v (.slice qv L.length kv) L 0 0 w2):=X1.out.kept h5;clear h5)
       |(go_at_call 96;(with_reducible refine(CQ.out _ X2.out.sx).mono ?_);rintro e w3 ⟨rfl,h5⟩;have X3:Hid (St w b s m p v (.slice qv L.length kv) L 0 0 w3):=X2.out.kept h5;clear h5)
      go_cut [54] (fun c wx=>c=.bool (M && !first && !Q)/\wx=w3)
      case first=>
       cases M with
       | false=>go_wp2_with fail;go_meet;exact⟨rfl,rfl⟩
       | true=>
        cases first with
        | true=>go_wp2_with fail;go_meet;exact⟨rfl,rfl⟩
        | false=>cases Q <;> (go_wp2_with fail;go_meet;exact⟨rfl,rfl⟩)
      case rest=>as_aux_lemma=>
       obtain⟨rfl,hwc⟩:=hcut
       subst wc
       cases hx:(M && !first && !Q) with
       | true=>
        have hx1:M=true/\first=false/\Q=false:=by cases M <;> cases first <;> cases Q <;> simp_all
        obtain⟨rfl,rfl,rfl⟩:=hx1
        clear hx
        have HN:Hid (nxt m s p K false=if K+1=s.size then .error (33,p) else .error (34,K)):=aC (aX5 HB.out.2.2.1.symm HB.out.2.2.2.symm)
        have k0:=X3.out.sx.c0
        have kl:=X3.out.sx.lt
        have hv1:IntKind.wrap .i64 ((K:Int)+1)=(K:Int)+1:=wrap_small _ (by omega) (by omega)
        have hKs:K < s.size:=by
         have:=bE HB.out.2.2.1.symm (by simp)
         simp only [List.length_cons,List.length_nil] at this
         omega
        by_cases hz:K+1=s.size
        ·have i1:(s.size:Int)<=(K:Int)+1:=by omega
         have HR:Hid (RB=.error (33,p)):=aC (HRB.out.symm.trans (HB.out.1.err HX.out (by rw [HN.out,if_pos hz])))
         have C33:Calls Tryz.prog 97 #[.pointer (some ⟨b,0,none⟩),.int .i64 33,.int .i64 (p:Int)] w3 (fun r w'=>r=.returned (.tuple #[])/\SX w' b s m p v 33 p/\Fr (At b) w3 w'):=dR X3.out.sx 33 p
         go_wp2_with first
          |(go_at_call 97;(with_reducible refine C33.mono ?_);rintro e w4 ⟨rfl,h6,g6⟩;have X4:Hid (St w b s m p v (.slice qv L.length kv) L 33 p w4):=X3.out.at g6 h6;have n5:w4.cell? ⟨b,5,none⟩=some (.int .i64 33):=X4.out.sx.c5;have nl:=X4.out.sx.lt;clear h6 g6)
          |(go_at_call 97;(with_reducible refine(aT9 X4.out.sx (by decide) 34 (K:Int)).mono ?_);rintro e w5 ⟨rfl,h6⟩;subst w5)
         go_end0
         exact jR H.out X4.out HR.out
        ·have i1:¬ (s.size:Int)<=(K:Int)+1:=by omega
         have HR:Hid (RB=.error (34,K)):=aC (HRB.out.symm.trans (HB.out.1.err HX.out (by rw [HN.out,if_neg hz])))
         have C34:Calls Tryz.prog 97 #[.pointer (some ⟨b,0,none⟩),.int .i64 34,.int .i64 (K:Int)] w3 (fun r w'=>r=.returned (.tuple #[])/\SX w' b s m p v 34 K/\Fr (At b) w3 w'):=dR X3.out.sx 34 K
         go_wp2_with (go_at_call 97;(with_reducible refine C34.mono ?_);rintro e w4 ⟨rfl,h6,g6⟩;have X4:Hid (St w b s m p v (.slice qv L.length kv) L 34 K w4):=X3.out.at g6 h6;have n5:w4.cell? ⟨b,5,none⟩=some (.int .i64 34):=X4.out.sx.c5;have nl:=X4.out.sx.lt;clear h6 g6)
         go_end0
         exact jR H.out X4.out HR.out
       | false=>
        have HN:Hid (nxt m s p K first=sgl m s p K):=aC (aW8 (by rw [<- HB.out.2.2.1,<- HB.out.2.2.2];cases M <;> cases first <;> cases Q <;> simp_all))
        clear hx
        have CI:Hid (∀ W,SX W b s m p v 0 0->_):=aC (fun W hW=>zP hW hs p K (by omega))
        cases hr:hJ m s p K with
        | error x=>
         obtain⟨c,a⟩:=x
         rw [hr] at CI
         have HR:Hid (RB=.error (c,a)):=aC (HRB.out.symm.trans (HB.out.1.err HX.out (HN.out.trans (zN hK hr))))
         have hc:=wC (by omega) hK hr
         have d1:((c:Int) != 0)=true:=by simp;omega
         clear hr
         go_upto_region 18 with (go_at_call 122;(with_reducible refine(CI.out _ X3.out.sx).mono ?_);rintro e w4 h4;obtain⟨ev,cv,q4,n4,k4,tv,rfl,gg⟩:=h4.val;have X4:Hid (ItV w3 b s m p v (.error (c,a)) ev cv (.slice q4 n4 k4) tv w4):=gg;clear h4 gg)
         have Z4:=X3.out.item X4.out
         generalize w4.alloc (.cells #[.bool ev,.int .i64 cv,.slice q4 n4 k4,.int .i64 tv] 172)=W4 at Z4 ⊢
         have Z5:Hid (St w b s m p v (.slice qv L.length kv) L c a W4):=Z4.2.2
         have n5:=Z5.out.sx.c5
         have nl:=Z5.out.sx.lt
         clear Z4 X4
         go_wp2
         go_end0
         exact jR H.out Z5.out HR.out
        | ok x=>
         obtain⟨e0,c0,L1,q⟩:=x
         rw [hr] at CI
         obtain⟨o1,o2,o3,o4,o5,o6⟩:=aA5 (by omega) hK hr
         have HI:Hid (hJ m s p K=.ok (e0,c0,L1,q)/\Fit L1/\0<=c0/\c0<=1114111):=⟨hr,o3,o6⟩
         clear hr o3 o6
         go_upto_region 18 with (go_at_call 122;(with_reducible refine(CI.out _ X3.out.sx).mono ?_);rintro e w4 h4;obtain⟨ev,cv,q4,n4,k4,tv,rfl,gg⟩:=h4.val;have X4:Hid (ItV w3 b s m p v (.ok (e0,c0,L1,q)) ev cv (.slice q4 n4 k4) tv w4):=gg;clear h4 gg)
         have Z4:=X3.out.item X4.out
         generalize w4.alloc (.cells #[.bool ev,.int .i64 cv,.slice q4 n4 k4,.int .i64 tv] 172)=W4 at Z4 ⊢
         obtain⟨a1,-,rfl,rfl,rfl,a5,a6⟩:=Z4
         obtain⟨ad4,c4,e4⟩:=aI a5 o4
         cases e4
         have Z5:Hid (St w b s m p v (.slice qv L.length kv) L 0 0 W4/\IA W4 w4.heap.size ev cv (.slice (some ⟨ad4,0,none⟩) L1.length k4) (q:Int)/\RR w.heap.size W4 (.slice (some ⟨ad4,0,none⟩) L1.length k4) L1):=⟨a6,a1,a5⟩
         have n5:W4.cell? ⟨b,5,none⟩=some (.int .i64 0):=Z5.out.1.sx.c5
         have nl:=Z5.out.1.sx.lt
         obtain⟨m0,m1,m2,m3⟩:=Z5.out.2.1.all
         have ml:=Z5.out.2.1.lt
         clear X4 a1 a5 a6
         obtain⟨M2,hM2⟩:∃ M2,M2=aJ s q [45]:=⟨_,rfl⟩
         obtain⟨Q2,hQ2⟩:∃ Q2,Q2=aJ s q [45,93]:=⟨_,rfl⟩
         have CM2:Hid (∀ W,SX W b s m p v 0 0->_):=aC (aU2 hs q (by omega) 45 hM2)
         have CQ2:Hid (∀ W,SX W b s m p v 0 0->_):=aC (fD hs q (by omega) 45 93 hQ2)
         have HM2:Hid (M2=aJ s q [45]/\Q2=aJ s q [45,93]):=⟨hM2,hQ2⟩
         clear hM2 hQ2
         go_upto_region 21 with first
          |(go_at_call 96;(with_reducible refine(CM2.out _ Z5.out.1.sx).mono ?_);rintro e w5 ⟨rfl,h5⟩;have X5:Hid (St w b s m p v (.slice qv L.length kv) L 0 0 w5/\IA w5 w4.heap.size ev cv (.slice (some ⟨ad4,0,none⟩) L1.length k4) (q:Int)/\RR w.heap.size w5 (.slice (some ⟨ad4,0,none⟩) L1.length k4) L1):=⟨Z5.out.1.kept h5,Z5.out.2.1.kept h5,Z5.out.2.2.kept h5⟩;obtain⟨j0,j1,j2,j3⟩:=X5.out.2.1.all;have jl:=X5.out.2.1.lt;clear h5)
          |(go_at_call 96;(with_reducible refine(CQ2.out _ X5.out.1.sx).mono ?_);rintro e w6 ⟨rfl,h5⟩;have X6:Hid (St w b s m p v (.slice qv L.length kv) L 0 0 w6/\IA w6 w4.heap.size ev cv (.slice (some ⟨ad4,0,none⟩) L1.length k4) (q:Int)/\RR w.heap.size w6 (.slice (some ⟨ad4,0,none⟩) L1.length k4) L1):=⟨X5.out.1.kept h5,X5.out.2.1.kept h5,X5.out.2.2.kept h5⟩;obtain⟨j0,j1,j2,j3⟩:=X6.out.2.1.all;have jl:=X6.out.2.1.lt;clear h5)
         go_cut [95] (fun c wx=>c=.bool (!ev || !M2 || Q2)/\wx=w6)
         case first=>
          cases ev with
          | false=>go_wp2_with fail;go_meet;exact⟨rfl,rfl⟩
          | true=>
           cases M2 with
           | false=>go_wp2_with fail;go_meet;exact⟨rfl,rfl⟩
           | true=>cases Q2 <;> (go_wp2_with fail;go_meet;exact⟨rfl,rfl⟩)
         case rest=>as_aux_lemma=>
          obtain⟨rfl,hwc⟩:=hcut
          subst wc
          cases hx:(!ev || !M2 || Q2) with
          | true=>
           have HS:Hid (sgl m s p K=.ok (L1,q)):=aC (aT6 hK HI.out.1 (by rw [<- HM2.out.1,<- HM2.out.2];cases ev <;> cases M2 <;> cases Q2 <;> simp_all))
           clear hx
           have NW:Hid (∀ j u,(aM L1)[j]?=some u->w6.cell? ((⟨ad4,0,none⟩:Addr).add j)=some u):=X6.out.2.2.arg.news
           have hbs:w.heap.size<=w6.heap.size:=X6.out.1.fr.size
           go_wp2_with (at_builtin;refine wpList_append_own_at _ rfl _ _ 25 rfl w.heap.size 99 t0 (.agg #[.int .i64 0,.int .i64 0]) 2 16 aO ti hz0 hz1 hz2 rfl (by decide) (.slice qv L.length kv) L.length (aM L) rfl X6.out.1.rr ⟨ad4,0,none⟩ L1.length k4 (aM L1) rfl (cO L1) NW.out (eX L1) (by unfold maxLen;omega) (by omega) hbs ?_;intro v' w7 hown' hgrow _ hblk;obtain⟨q7,k7,rfl⟩:=aL hown';have A7:=X6.out.1.app (Below.refl _ _) hgrow (gI hown');have X7:Hid (St w b s m p v (.slice q7 (L.length+L1.length) k7) (L ++ L1) 0 0 w7/\IA w7 w4.heap.size ev cv (.slice (some ⟨ad4,0,none⟩) L1.length k4) (q:Int)):=⟨A7.1,A7.2 _ _ _ _ _ X6.out.2.1⟩;obtain⟨i0,i1,i2,i3⟩:=X7.out.2.all;have il:=X7.out.2.lt;clear hown' hgrow hblk A7)
           go_roundw
           case rel=>exact .inl ⟨false,q,L ++ L1,rfl,rfl,X7.out.1,HB.out.1.next HX.out (HN.out.trans HS.out) HI.out.2.1 o5⟩
           case measure=>
            rw [GM.out]
            unfold bkM
            rw [X7.out.1.sx.er]
            simp [intOf]
            omega
          | false=>
           have HS:Hid (Spn m s p K q cv):=by
            have h1:ev=true/\M2=true/\Q2=false:=by cases ev <;> cases M2 <;> cases Q2 <;> simp_all
            obtain⟨rfl,rfl,rfl⟩:=h1
            exact⟨⟨L1,HI.out.1⟩,HM2.out.1.symm,HM2.out.2.symm⟩
           clear hx
           have hq1:q+1<=s.size:=by
            have:=bE HS.out.min (by simp)
            simp only [List.length_cons,List.length_nil] at this
            omega
           obtain⟨q0,hq0⟩:∃ q0,q0=q+1:=⟨_,rfl⟩
           have hv3:IntKind.wrap .i64 ((q:Int)+1)=(q0:Int):=by rw [wrap_small _ (by omega) (by omega)];omega
           obtain⟨A2,hA2⟩:∃ A2,A2=aJ s q0 [91,58]:=⟨_,rfl⟩
           obtain⟨B2,hB2⟩:∃ B2,B2=aJ s q0 [91,61]:=⟨_,rfl⟩
           have CA2:Hid (∀ W,SX W b s m p v 0 0->_):=aC (fD hs q0 (by omega) 91 58 hA2)
           have CB2:Hid (∀ W,SX W b s m p v 0 0->_):=aC (fD hs q0 (by omega) 91 61 hB2)
           have HAB:Hid (A2=aJ s q0 [91,58]/\B2=aJ s q0 [91,61]/\q0=q+1):=⟨hA2,hB2,hq0⟩
           have hq0s:q0<=s.size:=by omega
           clear hA2 hB2 hq0
           obtain⟨i0,i1,i2,i3⟩:=X6.out.2.1.all
           have il:=X6.out.2.1.lt
           go_upto_region 27 with first
            |(go_at_call 96;(with_reducible refine(CA2.out _ X6.out.1.sx).mono ?_);rintro e w7 ⟨rfl,h5⟩;have X7:Hid (St w b s m p v (.slice qv L.length kv) L 0 0 w7/\IA w7 w4.heap.size ev cv (.slice (some ⟨ad4,0,none⟩) L1.length k4) (q:Int)/\RR w.heap.size w7 (.slice (some ⟨ad4,0,none⟩) L1.length k4) L1):=⟨X6.out.1.kept h5,X6.out.2.1.kept h5,X6.out.2.2.kept h5⟩;obtain⟨j0,j1,j2,j3⟩:=X7.out.2.1.all;have jl:=X7.out.2.1.lt;clear h5)
            |(go_at_call 96;(with_reducible refine(CB2.out _ X7.out.1.sx).mono ?_);rintro e w8 ⟨rfl,h5⟩;have X8:Hid (St w b s m p v (.slice qv L.length kv) L 0 0 w8/\IA w8 w4.heap.size ev cv (.slice (some ⟨ad4,0,none⟩) L1.length k4) (q:Int)/\RR w.heap.size w8 (.slice (some ⟨ad4,0,none⟩) L1.length k4) L1):=⟨X7.out.1.kept h5,X7.out.2.1.kept h5,X7.out.2.2.kept h5⟩;obtain⟨j0,j1,j2,j3⟩:=X8.out.2.1.all;have jl:=X8.out.2.1.lt;clear h5)
           go_cut [114] (fun c wx=>c=.bool (A2 || B2)/\wx=w8)
           case first=>
            cases A2 with
            | true=>go_wp2_with fail;go_meet;exact⟨rfl,rfl⟩
            | false=>cases B2 <;> (go_wp2_with fail;go_meet;exact⟨rfl,rfl⟩)
           case rest=>as_aux_lemma=>
            obtain⟨rfl,hwc⟩:=hcut
            subst wc
            cases hx:(A2 || B2) with
            | true=>
             have HR:Hid (RB=.error (34,K)):=aC (HRB.out.symm.trans (HB.out.1.err HX.out (HN.out.trans (HS.out.cls hK (by rw [<- HAB.out.2.2,<- HAB.out.1,<- HAB.out.2.1];cases A2 <;> cases B2 <;> simp_all)))))
             clear hx
             have C34:Calls Tryz.prog 97 #[.pointer (some ⟨b,0,none⟩),.int .i64 34,.int .i64 (K:Int)] w8 (fun r w'=>r=.returned (.tuple #[])/\SX w' b s m p v 34 K/\Fr (At b) w8 w'):=dR X8.out.1.sx 34 K
             go_wp2_with (go_at_call 97;(with_reducible refine C34.mono ?_);rintro e w9 ⟨rfl,h6,g6⟩;have X9:Hid (St w b s m p v (.slice qv L.length kv) L 34 K w9):=X8.out.1.at g6 h6;have n9:w9.cell? ⟨b,5,none⟩=some (.int .i64 34):=X9.out.sx.c5;have nl9:=X9.out.sx.lt;clear h6 g6)
             go_end0
             exact jR H.out X9.out HR.out
            | false=>
             have HC:Hid (aJ s (q+1) [91,58]=false/\aJ s (q+1) [91,61]=false):=aC (by rw [<- HAB.out.2.2,<- HAB.out.1,<- HAB.out.2.1];cases A2 <;> cases B2 <;> simp_all)
             clear hx
             have CJ:Hid (∀ W,SX W b s m p v 0 0->_):=aC (fun W hW=>zP hW hs p q0 (by omega))
             cases hr:hJ m s p q0 with
             | error x=>
              obtain⟨c,a⟩:=x
              rw [hr] at CJ
              have hc:=wC (by omega) (by omega) hr
              have HR:Hid (RB=.error (c,a)):=aC (HRB.out.symm.trans (HB.out.1.err HX.out (HN.out.trans (HS.out.err hK hq1 HC.out.1 HC.out.2 (by rw [<- HAB.out.2.2];exact hr)))))
              have d0:((c:Int)==0)=false:=by simp;omega
              clear hr
              go_upto_region 30 with (go_at_call 122;(with_reducible refine(CJ.out _ X8.out.1.sx).mono ?_);rintro e w9 h4;obtain⟨ev9,cv9,q9,n9,k9,tv9,rfl,gg⟩:=h4.val;have XJ:Hid (ItV w8 b s m p v (.error (c,a)) ev9 cv9 (.slice q9 n9 k9) tv9 w9):=gg;clear h4 gg)
              have Y9:=X8.out.1.item XJ.out
              generalize w9.alloc (.cells #[.bool ev9,.int .i64 cv9,.slice q9 n9 k9,.int .i64 tv9] 172)=W9 at Y9 ⊢
              have Z9:Hid (St w b s m p v (.slice qv L.length kv) L c a W9/\IA W9 w4.heap.size ev cv (.slice (some ⟨ad4,0,none⟩) L1.length k4) (q:Int)/\IA W9 w9.heap.size ev9 cv9 (.slice q9 n9 k9) tv9):=⟨Y9.2.2,Y9.2.1 _ _ _ _ _ X8.out.2.1,Y9.1⟩
              clear Y9
              obtain⟨f0,f1,f2,f3⟩:=Z9.out.2.1.all
              obtain⟨u0,u1,u2,u3⟩:=Z9.out.2.2.all
              have fl:=Z9.out.2.1.lt
              have ul:=Z9.out.2.2.lt
              have bl9:=Z9.out.1.sx.lt
              have hbs9:w.heap.size<=W9.heap.size:=Z9.out.1.fr.size
              have n9e:=Z9.out.1.sx.c5
              go_wp2_with (at_builtin;refine wpList_append_own_at _ rfl _ _ 25 rfl w.heap.size 99 t0 (.agg #[.int .i64 0,.int .i64 0]) 2 16 aO ti hz0 hz1 hz2 rfl (by decide) (.slice qv L.length kv) L.length (aM L) rfl (World.ownsRow.alloc Z9.out.1.rr (.cells #[.int .i64 cv,.int .i64 cv9] 99)) ⟨W9.heap.size,0,none⟩ 1 1 [.int .i64 cv,.int .i64 cv9] rfl rfl (fG _ _ _ _) (by simp [Value.oneCell']) (by unfold maxLen;omega) (by omega) (by simp;omega) ?_;intro v' w11 hown' hgrow _ hblk;obtain⟨q7,k7,rfl⟩:=aL hown';have A7:=Z9.out.1.app (bz9) hgrow (gI (L:=[(cv,cv9)]) hown');have X10:Hid (St w b s m p v (.slice q7 (L.length+1) k7) (L ++ [(cv,cv9)]) c a w11/\IA w11 w9.heap.size ev9 cv9 (.slice q9 n9 k9) tv9):=⟨A7.1,A7.2 _ _ _ _ _ Z9.out.2.2⟩;obtain⟨x0,x1,x2,x3⟩:=X10.out.2.all;have xl:=X10.out.2.lt;clear hown' hgrow hblk A7)
              go_roundw
              case rel=>exact .inr ⟨c,a,tv9,L ++ [(cv,cv9)],false,rfl,rfl,X10.out.1,hc,HR.out⟩
              case measure=>
               rw [GM.out]
               unfold bkM
               rw [X10.out.1.sx.er,if_neg hc]
               omega
             | ok x=>
              obtain⟨e2,hi,L2,r2⟩:=x
              rw [hr] at CJ
              obtain⟨p1,p2,p3,p4,p5,p6⟩:=aA5 (by omega) (by omega) hr
              have HJ:Hid (0<=hi/\hi<=1114111):=p6
              have HSP:Hid (sgl m s p K=if hi < cv then .error (34,K) else .ok ([(cv,hi)],r2)):=aC (HS.out.ok hK hq1 HC.out.1 HC.out.2 (by rw [<- HAB.out.2.2];exact hr))
              clear hr p3 p4 p5 p6
              have hqr:q < r2:=by have:=HAB.out.2.2;omega
              clear p1
              go_upto_region 30 with (go_at_call 122;(with_reducible refine(CJ.out _ X8.out.1.sx).mono ?_);rintro e w9 h4;obtain⟨ev9,cv9,q9,n9,k9,tv9,rfl,gg⟩:=h4.val;have XJ:Hid (ItV w8 b s m p v (.ok (e2,hi,L2,r2)) ev9 cv9 (.slice q9 n9 k9) tv9 w9):=gg;clear h4 gg)
              have Y9:=X8.out.1.item XJ.out
              generalize w9.alloc (.cells #[.bool ev9,.int .i64 cv9,.slice q9 n9 k9,.int .i64 tv9] 172)=W9 at Y9 ⊢
              obtain⟨a1,a2,rfl,rfl,rfl,-,a6⟩:=Y9
              have Z9:Hid (St w b s m p v (.slice qv L.length kv) L 0 0 W9/\IA W9 w4.heap.size ev cv (.slice (some ⟨ad4,0,none⟩) L1.length k4) (q:Int)/\IA W9 w9.heap.size ev9 cv9 (.slice q9 n9 k9) (r2:Int)):=⟨a6,a2 _ _ _ _ _ X8.out.2.1,a1⟩
              clear a1 a2 a6
              by_cases hlt:cv9 < cv
              ·have HR:Hid (RB=.error (34,K)):=aC (HRB.out.symm.trans (HB.out.1.err HX.out (HN.out.trans (by rw [HSP.out,if_pos hlt]))))
               have n9':W9.cell? ⟨b,5,none⟩=some (.int .i64 0):=Z9.out.1.sx.c5
               obtain⟨f0,f1,f2,f3⟩:=Z9.out.2.1.all
               obtain⟨u0,u1,u2,u3⟩:=Z9.out.2.2.all
               have fl:=Z9.out.2.1.lt
               have ul:=Z9.out.2.2.lt
               have bl9:=Z9.out.1.sx.lt
               have C34:Calls Tryz.prog 97 #[.pointer (some ⟨b,0,none⟩),.int .i64 34,.int .i64 (K:Int)] W9 (fun r w'=>r=.returned (.tuple #[])/\SX w' b s m p v 34 K/\Fr (At b) W9 w'):=dR Z9.out.1.sx 34 K
               go_wp2_with first
                |(go_at_call 97;(with_reducible refine C34.mono ?_);rintro e w10 ⟨rfl,h6,g6⟩;have Y10:Hid (St w b s m p v (.slice qv L.length kv) L 34 K w10/\IA w10 w4.heap.size ev cv (.slice (some ⟨ad4,0,none⟩) L1.length k4) (q:Int)/\IA w10 w9.heap.size ev9 cv9 (.slice q9 n9 k9) (r2:Int)):=⟨Z9.out.1.at g6 h6,Z9.out.2.1.sx Z9.out.1.sx g6,Z9.out.2.2.sx Z9.out.1.sx g6⟩;obtain⟨f0,f1,f2,f3⟩:=Y10.out.2.1.all;obtain⟨u0,u1,u2,u3⟩:=Y10.out.2.2.all;have fl:=Y10.out.2.1.lt;have ul:=Y10.out.2.2.lt;have hbs10:w.heap.size<=w10.heap.size:=Y10.out.1.fr.size;clear h6 g6)
                |(at_builtin;refine wpList_append_own_at _ rfl _ _ 25 rfl w.heap.size 99 t0 (.agg #[.int .i64 0,.int .i64 0]) 2 16 aO ti hz0 hz1 hz2 rfl (by decide) (.slice qv L.length kv) L.length (aM L) rfl (World.ownsRow.alloc Y10.out.1.rr (.cells #[.int .i64 cv,.int .i64 cv9] 99)) ⟨w10.heap.size,0,none⟩ 1 1 [.int .i64 cv,.int .i64 cv9] rfl rfl (fG _ _ _ _) (by simp [Value.oneCell']) (by unfold maxLen;omega) (by omega) (by simp;omega) ?_;intro v' w11 hown' hgrow _ hblk;obtain⟨q7,k7,rfl⟩:=aL hown';have A7:=Y10.out.1.app (bz9) hgrow (gI (L:=[(cv,cv9)]) hown');have X10:Hid (St w b s m p v (.slice q7 (L.length+1) k7) (L ++ [(cv,cv9)]) 34 K w11/\IA w11 w9.heap.size ev9 cv9 (.slice q9 n9 k9) (r2:Int)):=⟨A7.1,A7.2 _ _ _ _ _ Y10.out.2.2⟩;obtain⟨x0,x1,x2,x3⟩:=X10.out.2.all;have xl:=X10.out.2.lt;clear hown' hgrow hblk A7)
               go_roundw
               case rel=>exact .inr ⟨34,K,(r2:Int),L ++ [(cv,cv9)],false,rfl,rfl,X10.out.1,by decide,HR.out⟩
               case measure=>
                rw [GM.out]
                unfold bkM
                rw [X10.out.1.sx.er,if_neg (by decide)]
                omega
              ·have HSO:Hid (sgl m s p K=.ok ([(cv,cv9)],r2)):=aC (by rw [HSP.out,if_neg hlt])
               have n9':W9.cell? ⟨b,5,none⟩=some (.int .i64 0):=Z9.out.1.sx.c5
               have HFT:Hid (Fit [(cv,cv9)]):=aC (cW HI.out.2.2 HJ.out)
               obtain⟨f0,f1,f2,f3⟩:=Z9.out.2.1.all
               obtain⟨u0,u1,u2,u3⟩:=Z9.out.2.2.all
               have fl:=Z9.out.2.1.lt
               have ul:=Z9.out.2.2.lt
               have bl9:=Z9.out.1.sx.lt
               have hbs9:w.heap.size<=W9.heap.size:=Z9.out.1.fr.size
               go_wp2_with (at_builtin;refine wpList_append_own_at _ rfl _ _ 25 rfl w.heap.size 99 t0 (.agg #[.int .i64 0,.int .i64 0]) 2 16 aO ti hz0 hz1 hz2 rfl (by decide) (.slice qv L.length kv) L.length (aM L) rfl (World.ownsRow.alloc Z9.out.1.rr (.cells #[.int .i64 cv,.int .i64 cv9] 99)) ⟨W9.heap.size,0,none⟩ 1 1 [.int .i64 cv,.int .i64 cv9] rfl rfl (fG _ _ _ _) (by simp [Value.oneCell']) (by unfold maxLen;omega) (by omega) (by simp;omega) ?_;intro v' w11 hown' hgrow _ hblk;obtain⟨q7,k7,rfl⟩:=aL hown';have A7:=Z9.out.1.app (bz9) hgrow (gI (L:=[(cv,cv9)]) hown');have X10:Hid (St w b s m p v (.slice q7 (L.length+1) k7) (L ++ [(cv,cv9)]) 0 0 w11/\IA w11 w9.heap.size ev9 cv9 (.slice q9 n9 k9) (r2:Int)):=⟨A7.1,A7.2 _ _ _ _ _ Z9.out.2.2⟩;obtain⟨x0,x1,x2,x3⟩:=X10.out.2.all;have xl:=X10.out.2.lt;clear hown' hgrow hblk A7)
               go_roundw
               case rel=>exact .inl ⟨false,r2,L ++ [(cv,cv9)],rfl,rfl,X10.out.1,HB.out.1.next HX.out (HN.out.trans HSO.out) HFT.out (by simp)⟩
               case measure=>
                rw [GM.out]
                unfold bkM
                rw [X10.out.1.sx.er]
                simp [intOf]
                omega
   ·obtain⟨qv,kv,rfl⟩:=hst.rr.shape
    have G:Hid (St w b s m p v (.slice qv L.length kv) L c a wr/\RB=.error (c,a)):=⟨hst,hre⟩
    have g5:=hst.sx.c5
    have gl:=hst.sx.lt
    have d0:((c:Int)==0)=false:=by simp;omega
    have d1:((c:Int) != 0)=true:=by simp;omega
    clear hst hre
    go_wp2
    go_end0
    exact jR H.out G.out.1 G.out.2
end Go.Proofs.YtpfdapnfkghgkaaGreatDoor
