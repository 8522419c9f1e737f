/-
  Parts of the proof.
-/
import Derived.Test.YtlamifbjklpdbaaGreatSameProofA0
import Derived.Test.YtlamifbjklpdbaaGreatSameProofA1
import Derived.Test.YtlamifbjklpdbaaGreatSameProofB18
import Derived.Test.YtlamifbjklpdbaaGreatSameProofB4
import Derived.Test.YtlamifbjklpdbaaGreatSameProofB8
import Derived.Laws.MakeOwn
import Derived.Test.YtlamifbjklpdbaaGreatSameProofB11
import Derived.Test.YtlamifbjklpdbaaGreatSameProofB0
set_option maxRecDepth 100000
set_option maxHeartbeats 8000000
namespace Go.Proofs.YtlamifbjklpdbaaGreat
open Go Go.RowKit
section
attribute [local go_sem] aU
theorem kC{base:Nat}{w:World}{v:Value}{A B:lIi}(e:A=B)(h:RR base w v A):RR base w v B:=e ▸ h
theorem jI{w:World}{v:Value}{L:lIi}(h:ArgR w v L)(hF:Fit L)(hl:L.length+1<=8796093022208) :
  Calls Tryz.prog 58 #[v] w (qW w (In L) L.length):=by
 obtain⟨t0,ti,hz0,hz1,hz2⟩:=aR cL;have H:Hid (ArgR w v L/\Fit L):=⟨h,hF⟩;clear h hF;go_enter Tryz.func58,Tryz.ntmps58;go_wp2_with (go_at_call 81;refine(aK4 L.length w v L lz9 hl H.out.1 H.out.2).mono ?_;rintro e w5 ⟨v5,S,rfl,h1,h2,h3,h4,h5,h6⟩;obtain⟨qs,cs,rfl⟩:=h1.shape;have X5:Hid (RR w.heap.size w5 (.slice qs S.length cs) S/\Srt S/\Fit S/\(∀ c,In S c↔In L c)/\S.length<=L.length/\wBl w w5):=⟨h1,h2,h3,h4,h5,h6⟩;clear h1 h2 h3 h4 h5 h6)
 rename World=>W1;have hsl:=X5.out.2.2.2.2.1;have HC:Hid (∀ (i:Nat) (r:Int×Int),S[i]?=some r->∃ g off,qs=some (aDr g off)/\g<W1.heap.size/\W1.cell? ⟨g,off+2*i,none⟩=some (.I r.1)/\W1.cell? ⟨g,off+2*i+1,none⟩=some (.I r.2)):=by
  obtain⟨q',cap',e,-,-,hc⟩:=X5.out.1.arg.slice;cases e;exact hc
 have SP:Hid (∀ k,k<=S.length->Cls ((S.take k).foldl bM [])/\Fit ((S.take k).foldl bM [])/\((S.take k).foldl bM []).length<=k/\∀ c,In ((S.take k).foldl bM []) c↔In (S.take k) c):=fun k hk=>by
  have:=kI X5.out.2.1.rise X5.out.2.2.1 k hk;exact⟨this.1,this.2.1,this.2.2.1,this.2.2.2.1⟩
 go_loopw [3,5] (fun ov i wr=>∃ k:Nat,k<=S.length/\i=.I k/\RR W1.heap.size wr ov ((S.take k).foldl bM [])/\wBl W1 wr) (fun _ i _=>S.length-(intOf i).toNat)
 case atStart=>exact⟨0,o9 _,rfl,RR.nil _ _,Below.refl _ _⟩
 case round=>
  obtain⟨k,hk,rfl,hrr,hb⟩:=hrel;have RC:Hid (RR W1.heap.size wr u3 ((S.take k).foldl bM [])):=hrr;have BB:Hid (wBl W1 wr):=hb;have hbs:=hb.size;clear hb hrr;by_cases hlt:k<S.length
  ·obtain⟨r,hr⟩:∃ r,S[k]?=some r:=⟨_,g9 hlt⟩;obtain⟨g,off,rfl,hg,x1,x2⟩:=HC.out k _ hr;rw [aBB] at x1 x2;have NX:Hid ((S.take (k+1)).foldl bM []=bM ((S.take k).foldl bM []) r):=aA (by
    obtain⟨h1,h2⟩:=m8.1 hr;rw [dK _ _ h1,List.foldl_append,h2];rfl)
   have hne:¬ r.2<r.1:=by have:=X5.out.2.1.some r (n8 hr);omega
   have hfr:=X5.out.2.2.1 r (n8 hr);have SPk:=SP.out k hk;have FC:Hid (Fit ((S.take k).foldl bM [])):=SPk.2.1;have hcl:=SPk.2.2.1;obtain⟨lo,hi⟩:=r;dsimp only at x1 x2 hne hfr;have XS:Hid (W1.cell? ⟨g,off+k*2,none⟩=some (.I lo)/\W1.cell? ⟨g,off+k*2+1,none⟩=some (.I hi)/\g<W1.heap.size):=⟨x1,x2,hg⟩;have cs1:=(BB.out.cell (p:=⟨g,off+k*2,none⟩) hg).trans x1;have sg:g<wr.heap.size:=o8 hg hbs;have i0:(0:Int)<=(k:Int):=(by omega);have i1:(k:Int)<(S.length:Int):=(by omega);clear x1 x2 hr SPk hg;generalize (S.take k).foldl bM []=C at *;rcases fV C with e | ⟨D,x,e⟩
   ·subst e;obtain⟨qo,co,e3⟩:=RC.out.shape;subst e3;have LD:Hid ((0:Nat)=0):=rfl;have NX2:Hid ((S.take (k+1)).foldl bM []=[(lo,hi)]):=aA (by rw [NX.out,jW hne]);simp only [List.length_nil] at RC ⊢;have wn:IntKind.wrap .i64 ((0:Int)-1)=-1:=(by decide);have d0:decide ((0:Int)<=-1)=false:=by decide
    ··
      go_wp2;refine wx9 ?_
      repeat (go_big_quiet_step (first | exact rfl))
      refine wpQuiet_nil ?_;intro w7 hw7;have B7:Hid (wBl W1 w7):=aG BB.out (aM hw7) lz9;have e1:=(B7.out.cell (p:=⟨g,off+k*2,none⟩) XS.out.2.2).trans XS.out.1;have e2:=(B7.out.cell (p:=⟨g,off+k*2+1,none⟩) XS.out.2.2).trans XS.out.2.1;have hz7:=B7.out.size;have R7:Hid (RR W1.heap.size w7 (.slice qo 0 co) []):=RC.out.kept (aM hw7);clear hw7 cs1;go_wp2_with (at_builtin;refine wpList_append_own_at _ rfl _ _ 22 rfl W1.heap.size 53 t0 (.agg #[.I 0,.I 0]) 2 16 aY ti hz0 hz1 hz2 rfl (by decide) (.slice qo 0 co) 0 (aL []) rfl (aAB R7.out (.cells #[.I lo,.I hi] 53)) (aDr w7.heap.size 0) 1 1 [.I lo,.I hi] rfl rfl (jA _ _ _ _) (by simp [Value.oneCell']) (by unfold maxLen;omega) (by omega) (by simp;omega) ?_;intro v' w6 hown' hgrow _ hblk;obtain⟨g6,cap6,rfl⟩:=aO hown' (aBK _);have A6:Hid (RR W1.heap.size w6 (.slice (some (aDr g6 0)) (0+1) cap6) ([(lo,hi)])):=mC (F:=[]) (L:=[(lo,hi)]) hown';have B6:Hid (wBl W1 w6):=bZ (B7.out.alloc hz7 _) (aAB R7.out _) hgrow;clear hown' hgrow hblk)
      go_roundw
      case rel=>exact⟨k+1,by omega,by go_num,kC NX2.out.symm A6.out,B6.out⟩
      case measure=>simp [intOf];omega
   ·subst e;have fx:=FC.out x (by simp);obtain⟨nd,hnd⟩:∃ nd,D.length=nd:=⟨_,rfl⟩;have LD:Hid (D.length=nd):=hnd;have OW0:Hid (wr.ownsRow W1.heap.size 53 2 u3 (nd+1) (aL (D++[x]))):=aA (by have:=RC.out;unfold RR at this;rwa [o5,aBP,hnd] at this);obtain⟨go,co,e3⟩:=aO OW0.out (by omega);subst e3;have OW:Hid (wr.ownsRow W1.heap.size 53 2 (.slice (some (aDr go 0)) (nd+1) co) (nd+1) (aL (D++[x]))):=OW0.out;have hgo:go<wr.heap.size:=(aF OW.out rfl).2.1;have hgb:W1.heap.size<=go:=(aF OW.out rfl).1;have hcell:=(nR OW.out hnd).2;rw [o5,aBP,hnd] at hcl;clear RC OW0 hnd;obtain⟨y,hy⟩:∃ y,x.2=y:=⟨_,rfl⟩;rw [hy] at hcell fx;have HY:Hid (x.2=y):=hy;clear hy;have wn:IntKind.wrap .i64 ((nd:Int)+1-1)=(nd:Int):=(by rw [IntKind.wrap_i64];omega);have j0:(0:Int)<=(nd:Int):=(by omega);have j1:(nd:Int)<(nd:Int)+1:=(by omega);have d0:decide ((0:Int)<=(nd:Int))=true:=aAM j0;by_cases hf:y+1<lo
    ·have d1:decide (lo<=y)=false:=r9 (by omega);have wl:IntKind.wrap .i64 (lo-1)=lo-1:=(by rw [IntKind.wrap_i64];omega);have d2:(lo-1==y)=false:=beq_false_of_ne (by omega);have NX2:Hid ((S.take (k+1)).foldl bM []=D++[x]++[(lo,hi)]):=aA (by rw [NX.out,jY hne (by rw [HY.out];exact hf)])
     ·
      go_wp2;refine wx9 ?_
      repeat (go_big_quiet_step (first | exact rfl))
      refine wpQuiet_nil ?_;intro w7 hw7;have B7:Hid (wBl W1 w7):=aG BB.out (aM hw7) lz9;have e1:=(B7.out.cell (p:=⟨g,off+k*2,none⟩) XS.out.2.2).trans XS.out.1;have e2:=(B7.out.cell (p:=⟨g,off+k*2+1,none⟩) XS.out.2.2).trans XS.out.2.1;have hz7:=B7.out.size;have R7:Hid (w7.ownsRow W1.heap.size 53 2 (.slice (some (aDr go 0)) (nd+1) co) (nd+1) (aL (D++[x]))):=aH (S:=fun _=>False) OW.out (Fr.of_below (aM hw7)) (fun _ _ q=>q);clear hw7 cs1 hcell;go_wp2_with (at_builtin;refine wpList_append_own_at _ rfl _ _ 22 rfl W1.heap.size 53 t0 (.agg #[.I 0,.I 0]) 2 16 aY ti hz0 hz1 hz2 rfl (by decide) (.slice (some (aDr go 0)) (nd+1) co) (nd+1) (aL (D++[x])) rfl (aAB R7.out (.cells #[.I lo,.I hi] 53)) (aDr w7.heap.size 0) 1 1 [.I lo,.I hi] rfl rfl (jA _ _ _ _) (by simp [Value.oneCell']) (by unfold maxLen;omega) (by omega) (by simp;omega) ?_;intro v' w6 hown' hgrow _ hblk;obtain⟨g6,cap6,rfl⟩:=aO hown' (aBK _);have A6:Hid (RR W1.heap.size w6 (.slice (some (aDr g6 0)) ((nd+1)+1) cap6) (D++[x]++[(lo,hi)])):=mC (F:=(D++[x])) (L:=[(lo,hi)]) hown';have B6:Hid (wBl W1 w6):=bZ (B7.out.alloc hz7 _) (aAB R7.out _) hgrow;clear hown' hgrow hblk)
      go_roundw
      case rel=>exact⟨k+1,by omega,by go_num,kC NX2.out.symm A6.out,B6.out⟩
      case measure=>simp [intOf];omega
    ·obtain⟨M,hM⟩:∃ M,max x.2 hi=M:=⟨_,rfl⟩;have HM:Hid (max x.2 hi=M):=hM;have hmx:∀ t ty w,(Builtin.max_ t ty #[.I y,.I hi]).run Tryz.prog w=.ok (.I M) w:=fun t ty w=>by rw [mL,<- HY.out,HM.out]
     have NR:Hid (¬ hi<lo->bM (D++[x]) (lo,hi)=D++[(x.1,max x.2 hi)]):=fun q=>iI q (by rw [HY.out];exact hf);clear hM;by_cases hq:lo<=y
     ·have d1:decide (lo<=y)=true:=aAM hq;have d2:True:=trivial;go_wp2;refine wx9 ?_
      repeat (go_big_quiet_step (first | exact rfl))
      refine wpQuiet_nil ?_;intro w7 hw7;have B7:Hid (wBl W1 w7):=aG BB.out (aM hw7) lz9;have e1:=(B7.out.cell (p:=⟨g,off+k*2,none⟩) XS.out.2.2).trans XS.out.1;have e2:=(B7.out.cell (p:=⟨g,off+k*2+1,none⟩) XS.out.2.2).trans XS.out.2.1;have hz7:=B7.out.size;have O7:Hid (w7.drew.ownsRow W1.heap.size 53 2 (.slice (some (aDr go 0)) (nd+1) co) (nd+1) (aL (D++[x]))):=(aH (S:=fun _=>False) OW.out (Fr.of_below (aM hw7)) (fun _ _ q=>q)).drew;have c7:=((aM hw7).cell (p:=⟨go,nd*2+1,none⟩) hgo).trans hcell;have f7:w7.frozen? ⟨go,nd*2+1,none⟩=false:=O7.out.frozenAt (nd*2+1);clear hw7 hcell d1 d2;go_wp2
      go_region_with fail
      all_goals (
       go_wp2;go_roundw
       case rel=>exact⟨k+1,by omega,by go_num,kC (NX.out.trans (NR.out hne)).symm (by rw [HM.out];exact aL9 (lZ O7.out LD.out M) (by have:=LD.out;simp;omega)),B7.out.drew.setCell (p:=⟨go,nd*2+1,none⟩) hgb _⟩
       case measure=>simp [intOf];omega)
     ·have d1:decide (lo<=y)=false:=r9 hq;have wl:IntKind.wrap .i64 (lo-1)=lo-1:=(by rw [IntKind.wrap_i64];omega);have d2:(lo-1==y)=true:=(by rw [beq_iff_eq];omega);go_wp2;refine wx9 ?_
      repeat (go_big_quiet_step (first | exact rfl))
      refine wpQuiet_nil ?_;intro w7 hw7;have B7:Hid (wBl W1 w7):=aG BB.out (aM hw7) lz9;have e1:=(B7.out.cell (p:=⟨g,off+k*2,none⟩) XS.out.2.2).trans XS.out.1;have e2:=(B7.out.cell (p:=⟨g,off+k*2+1,none⟩) XS.out.2.2).trans XS.out.2.1;have hz7:=B7.out.size;have O7:Hid (w7.drew.ownsRow W1.heap.size 53 2 (.slice (some (aDr go 0)) (nd+1) co) (nd+1) (aL (D++[x]))):=(aH (S:=fun _=>False) OW.out (Fr.of_below (aM hw7)) (fun _ _ q=>q)).drew;have c7:=((aM hw7).cell (p:=⟨go,nd*2+1,none⟩) hgo).trans hcell;have f7:w7.frozen? ⟨go,nd*2+1,none⟩=false:=O7.out.frozenAt (nd*2+1);clear hw7 hcell d1 d2;go_wp2
      go_region_with fail
      all_goals (
       go_wp2;go_roundw
       case rel=>exact⟨k+1,by omega,by go_num,kC (NX.out.trans (NR.out hne)).symm (by rw [HM.out];exact aL9 (lZ O7.out LD.out M) (by have:=LD.out;simp;omega)),B7.out.drew.setCell (p:=⟨go,nd*2+1,none⟩) hgb _⟩
       case measure=>simp [intOf];omega)
  ·have i1:¬ (k:Int)<(S.length:Int):=by omega
   have E:Hid (S.take k=S):=aA (o4 (by omega));have SPn:=SP.out k hk;rw [E.out] at RC SPn;have SS:Hid _:=SPn;have hcl:=SPn.2.2.1;clear SPn;go_wp2;go_ret;exact⟨_,_,rfl,RC.out.mono X5.out.2.2.2.2.2.size,⟨SS.out.1,SS.out.2.1,fun c=>(SS.out.2.2.2 c).trans (X5.out.2.2.2.1 c)⟩,by omega,aG X5.out.2.2.2.2.2 BB.out lz9⟩
end
section
attribute [local go_sem] aU
theorem tL{w:World}{va vb:Value}{A B:lIi}(ha:ArgR w va A)(hb:ArgR w vb B) :
  Calls Tryz.prog 31 #[va,vb] w fun e w'=>e=.returned (.bool (decide (A=B)))/\wBl w w':=by
 obtain⟨q1,cap1,rfl,hl1,-,hc1⟩:=ha.slice;obtain⟨q2,cap2,rfl,hl2,-,hc2⟩:=hb.slice;have HC1:Hid (∀ (i:Nat) (r:Int×Int),A[i]?=some r->∃ g off,q1=some (aDr g off)/\g<w.heap.size/\w.cell? ⟨g,off+2*i,none⟩=some (.I r.1)/\w.cell? ⟨g,off+2*i+1,none⟩=some (.I r.2)):=hc1;have HC2:Hid (∀ (i:Nat) (r:Int×Int),B[i]?=some r->∃ g off,q2=some (aDr g off)/\g<w.heap.size/\w.cell? ⟨g,off+2*i,none⟩=some (.I r.1)/\w.cell? ⟨g,off+2*i+1,none⟩=some (.I r.2)):=hc2;clear hc1 hc2 ha hb;unfold maxLen at hl1 hl2;by_cases hne:A.length=B.length
 ·have HNE:Hid (A.length=B.length):=hne;rw [<- hne];have b1:(((A.length:Nat):Int) != ((A.length:Nat):Int))=false:=by simp
  clear hne hl2;go_enter Tryz.func31,Tryz.ntmps31;go_wp2;go_loopw [5] (fun i wr=>∃ k:Nat,k<=A.length/\i=.I k/\A.take k=B.take k/\wBl w wr) (fun i _=>A.length-(intOf i).toNat)
  case atStart=>exact⟨0,o9 _,rfl,by simp,Below.refl _ _⟩
  case round=>
   obtain⟨k,hk,rfl,ht,hbl⟩:=hrel;have HT:Hid (A.take k=B.take k):=ht;have BW:Hid (wBl w wr):=hbl;clear ht hbl;by_cases hlt:k<A.length
   ·obtain⟨a,ea⟩:∃ r,A[k]?=some r:=⟨_,g9 hlt⟩;obtain⟨b,eb⟩:∃ r,B[k]?=some r:=⟨_,g9 (by have:=HNE.o;omega)⟩;obtain⟨g1,o1,rfl,hg1,x1,x2⟩:=HC1.o k _ ea;obtain⟨g2,o2,rfl,hg2,y1,y2⟩:=HC2.o k _ eb;have d1:=(BW.o.cell (p:=⟨g1,o1+2*k,none⟩) hg1).trans x1;have d2:=(BW.o.cell (p:=⟨g1,o1+2*k+1,none⟩) hg1).trans x2;have d3:=(BW.o.cell (p:=⟨g2,o2+2*k,none⟩) hg2).trans y1;have d4:=(BW.o.cell (p:=⟨g2,o2+2*k+1,none⟩) hg2).trans y2;rw [aBB] at d1 d2 d3 d4;have s1:g1<wr.heap.size:=o8 hg1 BW.o.size;have s2:g2<wr.heap.size:=o8 hg2 BW.o.size;have NX:Hid (A.take (k+1)=B.take (k+1)↔a=b):=lT ea eb HT.o;have NE:Hid (a≠b->¬ A=B):=fun q e=>by subst e;rw [ea] at eb;exact q (aAE eb)
    have i0:(0:Int)<=(k:Int):=(by omega);have i1:(k:Int)<(A.length:Int):=(by omega);obtain⟨a1,a2⟩:=a;obtain⟨b1',b2⟩:=b;dsimp only at d1 d2 d3 d4;clear x1 x2 y1 y2 ea eb;by_cases e1:a1=b1'
    ·by_cases e2:a2=b2
     ·subst e1 e2;have f1:(a1==a1)=true:=(by simp);have f2:(a2==a2)=true:=(by simp);have NX2:Hid (A.take (k+1)=B.take (k+1)):=NX.o.2 rfl;clear NX NE;go_wp2;refine wx9 ?_
      repeat (go_big_quiet_step (first | exact rfl))
      refine wpQuiet_nil ?_;intro w7 hw7;have B7:Hid (wBl wr w7):=aM hw7;clear hw7;go_wp2;go_roundw
      case rel=>exact⟨k+1,by omega,by go_num,NX2.o,aG BW.o B7.o lz9⟩
      case measure=>simp [intOf];omega
     ·subst e1;have f1:(a1==a1)=true:=(by simp);have f2:(a2==b2)=false:=(by simp [e2]);have N2:Hid (decide (A=B)=false):=r9 (NE.o (fun q=>e2 (Prod.mk.inj q).2));clear NX NE;go_wp2;refine wx9 ?_
      repeat (go_big_quiet_step (first | exact rfl))
      refine wpQuiet_nil ?_;intro w7 hw7;have B7:Hid (wBl wr w7):=aM hw7;clear hw7;go_wp2;go_ret;exact⟨by rw [N2.o];rfl,aG BW.o B7.o lz9⟩
    ·have f1:(a1==b1')=false:=by simp [e1]
     have N2:Hid (decide (A=B)=false):=r9 (NE.o (fun q=>e1 (Prod.mk.inj q).1));clear NX NE;go_wp2;refine wx9 ?_
     repeat (go_big_quiet_step (first | exact rfl))
     refine wpQuiet_nil ?_;intro w7 hw7;have B7:Hid (wBl wr w7):=aM hw7;clear hw7;go_wp2;go_ret;exact⟨by rw [N2.o];rfl,aG BW.o B7.o lz9⟩
   ·have i1:¬ (k:Int)<(A.length:Int):=by omega
    have EE:Hid (decide (A=B)=true):=aAM (by
     have e:=HT.o;rw [o4 (by omega),o4 (by have:=HNE.o;omega)] at e;exact e)
    go_wp2;go_ret;exact⟨by rw [EE.o];rfl,BW.o⟩
 ·have EE:Hid (decide (A=B)=false):=r9 (fun e=>hne (by rw [e]));have b1:(((A.length:Nat):Int) != ((B.length:Nat):Int))=true:=by simp;omega
  go_enter Tryz.func31,Tryz.ntmps31;go_wp2;go_ret;exact⟨by rw [EE.o];rfl,Below.refl _ _⟩
end
section
attribute [local go_sem] aU
def eE(A B:lIi):lIi:=A.flatMap fun a=>B.map (eC a)
theorem xO{A B:lIi}{i:Nat}{a:Int×Int}(h:A[i]?=some a):eE (A.take (i+1)) B=eE (A.take i) B++B.map (eC a):=by
 obtain⟨hk,rfl⟩:=m8.1 h;rw [dK A i hk];unfold eE;rw [aBM];simp only [aAN,List.flatMap_nil,t9]
theorem aP1{B:lIi}{j:Nat}{b a:Int×Int}(h:B[j]?=some b):(B.take (j+1)).map (eC a)=(B.take j).map (eC a)++[eC a b]:=by
 obtain⟨hk,rfl⟩:=m8.1 h;rw [dK B j hk,aAK]
 rfl
theorem aQ6(A B:lIi)(c:Int):In (eE A B) c↔In A c/\In B c:=by
 unfold eE In eC;constructor
 ·rintro ⟨r,hr,h1,h2⟩;obtain⟨a,ha,hr⟩:=aBJ.1 hr;obtain⟨b,hb,rfl⟩:=s4.1 hr;simp only at h1 h2;exact⟨⟨a,ha,by omega,by omega⟩,b,hb,by omega,by omega⟩
 ·rintro ⟨⟨a,ha,h1,h2⟩,b,hb,h3,h4⟩;exact⟨_,aBJ.2 ⟨a,ha,s4.2 ⟨b,hb,rfl⟩⟩,by simp only;omega,by simp only;omega⟩
theorem aF7{A B:lIi}(fa:Fit A)(fb:Fit B):Fit (eE A B):=fun r hr=>by
 obtain⟨a,ha,hr⟩:=aBJ.1 hr;obtain⟨b,hb,rfl⟩:=s4.1 hr;have h1:=fa a ha;have h2:=fb b hb;simp only [eC];omega
theorem mJ(A B:lIi):(eE A B).length=A.length*B.length:=by
 induction A with
 | nil=>simp [eE]
 | cons a A ih=>simp only [eE,aAN,o5,aAC,o7,Nat.succ_mul] at *;omega
theorem xC{w:World}{va vb:Value}{A0 B0:lIi}(ha:ArgR w va A0)(hb:ArgR w vb B0)(fa:Fit A0)(fb:Fit B0)(hl1:A0.length+1<=8796093022208)(hl2:B0.length+1<=8796093022208)(hl:A0.length*B0.length+1<=8796093022208) :
  Calls Tryz.prog 59 #[va,vb] w (qW w (fun c=>In A0 c/\In B0 c) (A0.length*B0.length)):=by
 obtain⟨t0,ti,hz0,hz1,hz2⟩:=aR cL;have H:Hid ((ArgR w va A0/\Fit A0)/\ArgR w vb B0/\Fit B0):=⟨⟨ha,fa⟩,hb,fb⟩;clear ha hb fa fb;go_enter Tryz.func59,Tryz.ntmps59;go_upto_region 5 with first
  |(go_at_call 58;have hx:=X5.out;clear hx;have hih:=jI (H.out.2.1.kept X5.out.2.2.2) H.out.2.2 hl2;(with_reducible refine hih.mono ?_);clear hih;rintro e w6 ⟨v6,B,rfl,h1,h2,h3,h4⟩;obtain⟨qb,cb,rfl⟩:=h1.shape;have X6:Hid (RR w5.heap.size w6 (.slice qb B.length cb) B/\IsC B (In B0)/\B.length<=B0.length/\wBl w5 w6):=⟨h1,h2,h3,h4⟩;clear h1 h2 h3 h4)
  |(go_at_call 58;have hih:=jI H.out.1.1 H.out.1.2 hl1;(with_reducible refine hih.mono ?_);clear hih;rintro e w5 ⟨v5,A,rfl,h1,h2,h3,h4⟩;obtain⟨qa,ca,rfl⟩:=h1.shape;have X5:Hid (RR w.heap.size w5 (.slice qa A.length ca) A/\IsC A (In A0)/\A.length<=A0.length/\wBl w w5):=⟨h1,h2,h3,h4⟩;clear h1 h2 h3 h4)
 rename World=>W1;have hla:=X5.out.2.2.1;have hlb:=X6.out.2.2.1;have HA:Hid (∀ (i:Nat) (r:Int×Int),A[i]?=some r->∃ g off,qa=some (aDr g off)/\g<W1.heap.size/\W1.cell? ⟨g,off+2*i,none⟩=some (.I r.1)/\W1.cell? ⟨g,off+2*i+1,none⟩=some (.I r.2)):=by
  obtain⟨q',cap',e,-,-,hc⟩:=(X5.out.1.kept X6.out.2.2.2).arg.slice;cases e;exact hc
 have HB:Hid (∀ (i:Nat) (r:Int×Int),B[i]?=some r->∃ g off,qb=some (aDr g off)/\g<W1.heap.size/\W1.cell? ⟨g,off+2*i,none⟩=some (.I r.1)/\W1.cell? ⟨g,off+2*i+1,none⟩=some (.I r.2)):=by
  obtain⟨q',cap',e,-,-,hc⟩:=X6.out.1.arg.slice;cases e;exact hc
 have LP:Hid (∀ i,(eE (A.take i) B).length+B.length*(A.length-i)<=A0.length*B0.length\/A.length<i):=fun i=>by
  rcases Nat.lt_or_ge A.length i with h | h
  ·exact .inr h
  ·left
   rw [mJ,aAG,Nat.min_eq_left h,aBB B.length,<- Nat.add_mul,Nat.add_sub_cancel' h];exact Nat.mul_le_mul hla hlb
 have BW:Hid (wBl w W1):=aG X5.out.2.2.2 X6.out.2.2.2 lz9;go_loopw [7,8] (fun ov i wr=>∃ k:Nat,k<=A.length/\i=.I k/\RR W1.heap.size wr ov (eE (A.take k) B)/\wBl W1 wr) (fun _ i _=>A.length-(intOf i).toNat)
 case atStart=>exact⟨0,o9 _,rfl,RR.nil _ _,Below.refl _ _⟩
 case round=>
  obtain⟨k,hk,rfl,hrr,hb⟩:=hrel;have RO:Hid (RR W1.heap.size wr u7 (eE (A.take k) B)):=hrr;have BB:Hid (wBl W1 wr):=hb;clear hrr hb;by_cases hlt:k<A.length
  ·obtain⟨a,ea⟩:∃ r,A[k]?=some r:=⟨_,g9 hlt⟩;obtain⟨ga,oa,rfl,hga,xa1,xa2⟩:=HA.out k _ ea;have PN:Hid (eE (A.take (k+1)) B=eE (A.take k) B++B.map (eC a)):=xO ea;rw [aBB] at xa1 xa2;have XA:Hid (W1.cell? ⟨ga,oa+k*2,none⟩=some (.I a.1)/\W1.cell? ⟨ga,oa+k*2+1,none⟩=some (.I a.2)/\ga<W1.heap.size):=⟨xa1,xa2,hga⟩;have LK:Hid ((eE (A.take k) B).length+B.length+1<=8796093022208):=aA (by
    rcases LP.out (k+1) with h | h
    ·have:=PN.out;rw [this,o5,aAC] at h;omega
    ·omega)
   have i0:(0:Int)<=(k:Int):=by omega
   have i1:(k:Int)<(A.length:Int):=by omega
   clear xa1 xa2 hga ea;rename World=>W2;generalize eE (A.take k) B=P at *;go_wp2;go_loopw [7,9] (fun ov i wr=>∃ j:Nat,j<=B.length/\i=.I j/\RR W1.heap.size wr ov (P++(B.take j).map (eC a))/\wBl W1 wr) (fun _ i _=>B.length-(intOf i).toNat)
   case atStart=>exact⟨0,o9 _,rfl,by simpa using RO.out,BB.out⟩
   case round=>
    clear RO BB;obtain⟨j,hj,rfl,hrr,hb⟩:=hrel;obtain⟨qo,co,e3⟩:=hrr.shape;subst e3;obtain⟨O,hO⟩:∃ O,P++(B.take j).map (eC a)=O:=⟨_,rfl⟩;have EO:Hid (P++(B.take j).map (eC a)=O):=hO;rw [hO] at hrr ⊢;have RO:Hid (RR W1.heap.size wr (.slice qo O.length co) O):=hrr;have BB:Hid (wBl W1 wr):=hb;have hbs:=hb.size;have hol:O.length+1<=8796093022208:=(by have:=LK.out;rw [<- hO,o5,aAC,aAG];omega);clear hrr hb hO;by_cases hjlt:j<B.length
    ·obtain⟨b,eb⟩:∃ r,B[j]?=some r:=⟨_,g9 hjlt⟩;obtain⟨gb,ob,rfl,hgb,xb1,xb2⟩:=HB.out j _ eb;have MN:Hid (P++(B.take (j+1)).map (eC a)=O++[eC a b]):=aA (by rw [aP1 eb,<- r8,EO.out]);rw [aBB] at xb1 xb2;have c1:=(BB.out.cell (p:=⟨ga,oa+k*2,none⟩) XA.out.2.2).trans XA.out.1;have c2:=(BB.out.cell (p:=⟨ga,oa+k*2+1,none⟩) XA.out.2.2).trans XA.out.2.1;have c3:=(BB.out.cell (p:=⟨gb,ob+j*2,none⟩) hgb).trans xb1;have c4:=(BB.out.cell (p:=⟨gb,ob+j*2+1,none⟩) hgb).trans xb2;have s1:ga<wr.heap.size:=o8 XA.out.2.2 hbs;have s2:gb<wr.heap.size:=o8 hgb hbs;obtain⟨a1,ha1⟩:∃ x,a.1=x:=⟨_,rfl⟩;obtain⟨a2,ha2⟩:∃ x,a.2=x:=⟨_,rfl⟩;obtain⟨b1,hb1⟩:∃ x,b.1=x:=⟨_,rfl⟩;obtain⟨b2,hb2⟩:∃ x,b.2=x:=⟨_,rfl⟩;rw [ha1] at c1;rw [ha2] at c2;rw [hb1] at c3;rw [hb2] at c4;obtain⟨cr,hcr⟩:∃ cr,eC a b=cr:=⟨_,rfl⟩;have hmx:∀ t ty w,(Builtin.max_ t ty #[.I a1,.I b1]).run Tryz.prog w=.ok (.I cr.1) w:=fun t ty w=>by rw [mL,<- hcr,<- ha1,<- hb1];rfl
     have hmn:∀ t ty w,(Builtin.min_ t ty #[.I a2,.I b2]).run Tryz.prog w=.ok (.I cr.2) w:=fun t ty w=>by rw [zM,<- hcr,<- ha2,<- hb2];rfl
     have MN2:Hid (P++(B.take (j+1)).map (eC a)=O++[(cr.1,cr.2)]):=aA (by rw [MN.out,hcr]);have j0:(0:Int)<=(j:Int):=(by omega);have j1:(j:Int)<(B.length:Int):=(by omega);have RD:Hid (RR W1.heap.size wr.drew (.slice qo O.length co) O):=World.ownsRow.drew RO.out;have BD:Hid (wBl W1 wr.drew):=BB.out.drew;have ne1:=World.new_ne wr _ c1;have ne3:=World.new_ne wr _ c3;have XK:Hid (W1.cell? ⟨ga,oa+k*2,none⟩=some (.I a1)/\W1.cell? ⟨ga,oa+k*2+1,none⟩=some (.I a2)/\W1.cell? ⟨gb,ob+j*2,none⟩=some (.I b1)/\W1.cell? ⟨gb,ob+j*2+1,none⟩=some (.I b2)/\gb<W1.heap.size):=⟨by rw [<- ha1];exact XA.out.1,by rw [<- ha2];exact XA.out.2.1,by rw [<- hb1];exact xb1,by rw [<- hb2];exact xb2,hgb⟩;clear xb1 xb2 eb hgb MN ha1 ha2 hb1 hb2 hcr;have QC:Hid (∀ w',wBl W1 w'->w'.cell? ⟨ga,oa+k*2,none⟩=some (.I a1)/\w'.cell? ⟨ga,oa+k*2+1,none⟩=some (.I a2)/\w'.cell? ⟨gb,ob+j*2,none⟩=some (.I b1)/\w'.cell? ⟨gb,ob+j*2+1,none⟩=some (.I b2)):=fun w' hb=>⟨(hb.cell (p:=⟨ga,oa+k*2,none⟩) XA.out.2.2).trans XK.out.1,(hb.cell (p:=⟨ga,oa+k*2+1,none⟩) XA.out.2.2).trans XK.out.2.1,(hb.cell (p:=⟨gb,ob+j*2,none⟩) XK.out.2.2.2.2).trans XK.out.2.2.1,(hb.cell (p:=⟨gb,ob+j*2+1,none⟩) XK.out.2.2.2.2).trans XK.out.2.2.2.1⟩;clear c1 c2 c3 c4;go_wp2;refine wp_region_held_drew (S:=fun w'=>wBl W1 w') (by kernel_rfl) BD.out (fun hHeld=>?_);refine aCD (v:=?_) 0 ?_ ?_;rotate_left
     ·intro wz hSw;obtain⟨q1,q2,q3,q4⟩:=QC.out wz hSw;clear hSw;go_simp;try with_reducible rfl
     dsimp only [Act.put,i7,g7,g8];simp only [f8,i8,i9];refine aCD (v:=?_) 1 ?_ ?_;rotate_left
     ·intro wz hSw;obtain⟨q1,q2,q3,q4⟩:=QC.out wz hSw;clear hSw;go_simp;try with_reducible rfl
     dsimp only [Act.put,i7,g7,g8];simp only [f8,i8,i9];refine aCD (v:=?_) 2 ?_ ?_;rotate_left
     ·intro wz hSw;obtain⟨q1,q2,q3,q4⟩:=QC.out wz hSw;clear hSw;go_simp;try with_reducible rfl
     dsimp only [Act.put,i7,g7,g8];simp only [f8,i8,i9];refine aCD (v:=?_) 3 ?_ ?_;rotate_left
     ·intro wz hSw;obtain⟨q1,q2,q3,q4⟩:=QC.out wz hSw;clear hSw;go_simp;try with_reducible rfl
     dsimp only [Act.put,i7,g7,g8];simp only [f8,i8,i9];refine aCD (v:=?_) 4 ?_ ?_;rotate_left
     ·intro wz hSw;obtain⟨q1,q2,q3,q4⟩:=QC.out wz hSw;clear hSw;go_simp;try with_reducible rfl
     dsimp only [Act.put,i7,g7,g8];simp only [f8,i8,i9];refine aCD (v:=?_) 5 ?_ ?_;rotate_left
     ·intro wz hSw;obtain⟨q1,q2,q3,q4⟩:=QC.out wz hSw;clear hSw;go_simp;try with_reducible rfl
     dsimp only [Act.put,i7,g7,g8];simp only [f8,i8,i9];refine aCD (v:=?_) 6 ?_ ?_;rotate_left
     ·intro wz hSw;obtain⟨q1,q2,q3,q4⟩:=QC.out wz hSw;clear hSw;go_simp;try with_reducible rfl
     dsimp only [Act.put,i7,g7,g8];simp only [f8,i8,i9];refine aCD (v:=?_) 7 ?_ ?_;rotate_left
     ·intro wz hSw;obtain⟨q1,q2,q3,q4⟩:=QC.out wz hSw;clear hSw;go_simp;try with_reducible rfl
     dsimp only [Act.put,i7,g7,g8];simp only [f8,i8,i9];refine aCD (v:=?_) 8 ?_ ?_;rotate_left
     ·intro wz hSw;obtain⟨q1,q2,q3,q4⟩:=QC.out wz hSw;clear hSw;go_simp;try with_reducible rfl
     dsimp only [Act.put,i7,g7,g8];simp only [f8,i8,i9];refine aCD (v:=?_) 9 ?_ ?_;rotate_left
     ·intro wz hSw;obtain⟨q1,q2,q3,q4⟩:=QC.out wz hSw;clear hSw;go_simp;try with_reducible rfl
     dsimp only [Act.put,i7,g7,g8];simp only [f8,i8,i9];refine aCD (v:=?_) 10 ?_ ?_;rotate_left
     ·intro wz hSw;obtain⟨q1,q2,q3,q4⟩:=QC.out wz hSw;clear hSw;go_simp;try with_reducible rfl
     dsimp only [Act.put,i7,g7,g8];simp only [f8,i8,i9];refine aCD (v:=?_) 11 ?_ ?_;rotate_left
     ·intro wz hSw;obtain⟨q1,q2,q3,q4⟩:=QC.out wz hSw;clear hSw;go_simp;try with_reducible rfl
     dsimp only [Act.put,i7,g7,g8];simp only [f8,i8,i9];refine aCD (v:=?_) 12 ?_ ?_;rotate_left
     ·intro wz hSw;obtain⟨q1,q2,q3,q4⟩:=QC.out wz hSw;clear hSw;go_simp;try with_reducible rfl
     dsimp only [Act.put,i7,g7,g8];simp only [f8,i8,i9];refine aCD (v:=?_) 13 ?_ ?_;rotate_left
     ·intro wz hSw;obtain⟨q1,q2,q3,q4⟩:=QC.out wz hSw;clear hSw;go_simp;try with_reducible rfl
     dsimp only [Act.put,i7,g7,g8];simp only [f8,i8,i9];refine aCD (v:=?_) 14 ?_ ?_;rotate_left
     ·intro wz hSw;obtain⟨q1,q2,q3,q4⟩:=QC.out wz hSw;clear hSw;go_simp;try with_reducible rfl
     dsimp only [Act.put,i7,g7,g8];simp only [f8,i8,i9];refine aCD (v:=?_) 15 ?_ ?_;rotate_left
     ·intro wz hSw;obtain⟨q1,q2,q3,q4⟩:=QC.out wz hSw;clear hSw;go_simp;try with_reducible rfl
     dsimp only [Act.put,i7,g7,g8];simp only [f8,i8,i9];refine aCD (v:=?_) 16 ?_ ?_;rotate_left
     ·intro wz hSw;obtain⟨q1,q2,q3,q4⟩:=QC.out wz hSw;clear hSw;go_simp;try with_reducible rfl
     dsimp only [Act.put,i7,g7,g8];simp only [f8,i8,i9];refine aCD (v:=?_) 17 ?_ ?_;rotate_left
     ·intro wz hSw;obtain⟨q1,q2,q3,q4⟩:=QC.out wz hSw;clear hSw;go_simp;try with_reducible rfl
     dsimp only [Act.put,i7,g7,g8];simp only [f8,i8,i9];refine aCD (v:=?_) 18 ?_ ?_;rotate_left
     ·intro wz hSw;obtain⟨q1,q2,q3,q4⟩:=QC.out wz hSw;clear hSw;go_simp;try with_reducible rfl
     dsimp only [Act.put,i7,g7,g8];simp only [f8,i8,i9];refine aCD (v:=?_) 19 ?_ ?_;rotate_left
     ·intro wz hSw;obtain⟨q1,q2,q3,q4⟩:=QC.out wz hSw;clear hSw;go_simp;try with_reducible rfl
     dsimp only [Act.put,i7,g7,g8];simp only [f8,i8,i9];refine aCD (v:=?_) 20 ?_ ?_;rotate_left
     ·intro wz hSw;obtain⟨q1,q2,q3,q4⟩:=QC.out wz hSw;clear hSw;go_simp;try with_reducible rfl
     dsimp only [Act.put,i7,g7,g8];simp only [f8,i8,i9];refine aCD (v:=?_) 21 ?_ ?_;rotate_left
     ·intro wz hSw;obtain⟨q1,q2,q3,q4⟩:=QC.out wz hSw;clear hSw;go_simp;try with_reducible rfl
     dsimp only [Act.put,i7,g7,g8];simp only [f8,i8,i9];refine aCD (v:=?_) 22 ?_ ?_;rotate_left
     ·intro wz hSw;obtain⟨q1,q2,q3,q4⟩:=QC.out wz hSw;clear hSw;go_simp;try with_reducible rfl
     dsimp only [Act.put,i7,g7,g8];simp only [f8,i8,i9];refine aCD (v:=?_) 23 ?_ ?_;rotate_left
     ·intro wz hSw;obtain⟨q1,q2,q3,q4⟩:=QC.out wz hSw;clear hSw;go_simp;try with_reducible rfl
     dsimp only [Act.put,i7,g7,g8];simp only [f8,i8,i9];refine wpAnyH_ready (rs:=[24]) (by kernel_rfl) (by simp) ?_;refine AllReadyH.cons rfl (fun K hK=>?_) AllReadyH.nil;go_simp;refine hK.out _ _ (BD.out.alloc (by simp;omega) _) (fun hHeld2=>?_);clear hK K;refine wpAnyH_ready (rs:=[25]) (by kernel_rfl) (by simp) ?_;refine AllReadyH.cons rfl (fun K hK=>?_) AllReadyH.nil;refine fS rfl _ _ 22 rfl W1.heap.size 53 t0 (.agg #[.I 0,.I 0]) 2 16 aY ti hz0 hz1 hz2 rfl (by decide) (.slice qo O.length co) O.length (aL O) (by simp [Act.eval]) (aAB RD.out (.cells #[.I cr.1,.I cr.2] 53)) (aDr wr.heap.size 0) 1 1 [.I cr.1,.I cr.2] (by simp [Act.eval]) rfl (jA _ _ _ _) (by simp [Value.oneCell']) (by unfold maxLen;omega) (by omega) (by simp;omega) ?_;intro v' w6 hown' hgrow hblk;obtain⟨g6,cap6,rfl⟩:=aO hown' (aBK _);have A6:Hid (RR W1.heap.size w6 (.slice (some (aDr g6 0)) (O.length+1) cap6) (O++[(cr.1,cr.2)])):=nM hown';have B6:Hid (wBl W1 w6):=bZ (BD.out.alloc (by simp;omega) _) (aAB RD.out _) hgrow;clear hown' hgrow hblk;refine hK.out _ _ B6.out (fun hHeld3=>?_);clear hK K;refine wpAnyH_ready (rs:=[26]) (by kernel_rfl) (by simp) ?_;refine AllReadyH.cons rfl (fun K hK=>?_) AllReadyH.nil;go_simp;refine hK.out _ _ B6.out (fun hHeld4=>?_);clear hK K;refine wpAnyH_done (by kernel_rfl) ?_ _
     all_goals (
      go_wp2;go_roundw
      case rel=>exact⟨j+1,by omega,by go_num,kC MN2.out.symm A6.out,B6.out⟩
      case measure=>simp [intOf];omega)
    ·have j1:¬ (j:Int)<(B.length:Int):=by omega
     have EE:Hid (eE (A.take (k+1)) B=O):=aA (by rw [PN.out,<- EO.out,o4 (by omega)]);go_wp2;go_roundw
     case rel=>exact⟨k+1,by omega,by go_num,kC EE.out.symm RO.out,BB.out⟩
     case measure=>simp [intOf];omega
  ·have i1:¬ (k:Int)<(A.length:Int):=by omega
   have E:Hid (A.take k=A):=aA (o4 (by omega));rw [E.out] at RO;have LN:Hid ((eE A B).length<=A0.length*B0.length):=aA (by rw [mJ];exact Nat.mul_le_mul hla hlb);go_wp2_with (go_at_call 58;refine(jI RO.out.arg (aF7 X5.out.2.1.fit X6.out.2.1.fit) (by have:=LN.out;omega)).mono ?_;rintro e w7 ⟨v7,C,rfl,h1,h2,h3,h4⟩;have X7:Hid (RR wr.heap.size w7 v7 C/\IsC C (In (eE A B))/\C.length<=(eE A B).length/\wBl wr w7):=⟨h1,h2,h3,h4⟩;clear h1 h2 h3 h4)
   go_ret;have BZ:=aG BW.out BB.out lz9;refine⟨_,_,rfl,X7.out.1.mono BZ.size,X7.out.2.1.to fun c=>?_,o0 X7.out.2.2.1 LN.out,aG BZ X7.out.2.2.2 lz9⟩;rw [aQ6,X5.out.2.1.mem,X6.out.2.1.mem]
end
section
attribute [local go_sem] aU
structure LW(W1 wr:World)(rb:Nat)(l hi:Int)(ov:Value)(L:lIi):Prop where
 own:RR W1.heap.size wr ov L
 box:wr.heap[rb]?=some (.cells #[.I l,.I hi] 53 (0,0))
 ne:ov.ownBlock≠some rb
 bel:wBl W1 wr
 new:W1.heap.size<=rb
end
theorem nB(W:World)(o:Obj):wBl W (W.alloc o):=bz9
theorem bJ4(m:Bool)(w:World):Calls Tryz.prog 80 #[.bool m] w fun e w'=>∃ v,e=.returned v/\RR w.heap.size w' v (cV m)/\wBl w w':=by
 cases m with
 | true=>
  go_enter Tryz.func80,Tryz.ntmps80;go_wp2;go_ret;exact⟨_,rfl,World.ownsRow_lit w #[.I 0,.I 55295,.I 57344,.I 1114111] 2 lz9 (by unfold maxLen;omega) rfl,bz9⟩
 | false=>
  go_enter Tryz.func80,Tryz.ntmps80;go_wp2;go_ret;exact⟨_,rfl,World.ownsRow_lit w #[.I 0,.I 255] 1 lz9 (by unfold maxLen;omega) rfl,bz9⟩
theorem aY2{w:World}{v:Value}{L:lIi}{m:Bool}(h:ArgR w v L)(hF:Fit L)(hl:L.length<=1048580) :
  Calls Tryz.prog 57 #[v,.bool m] w (qW w (fun c=>In L c/\eB m c) (L.length*(cV m).length)):=by
 have H:Hid (ArgR w v L/\Fit L):=⟨h,hF⟩;have hc:=gN m;have HM:Hid (L.length*(cV m).length+1<=8796093022208):=aA (by have:=Nat.mul_le_mul hl hc;omega);clear h hF;go_enter Tryz.func57,Tryz.ntmps57;go_wp2_with first
  |(go_at_call 80;refine(bJ4 m _).mono ?_;rintro e w5 ⟨v5,rfl,h1,h2⟩;have X5:Hid (RR w.heap.size w5 v5 (cV m)/\wBl w w5):=⟨h1,h2⟩;clear h1 h2)
  |(go_at_call 59;refine(xC (H.out.1.kept X5.out.2) X5.out.1.arg H.out.2 (iF m).fit (by omega) (by omega) HM.out).mono ?_;rintro e w6 ⟨v6,C6,rfl,h1,h2,h3,h4⟩;have X6:Hid (RR w5.heap.size w6 v6 C6/\IsC C6 (fun c=>In L c/\In (cV m) c)/\C6.length<=L.length*(cV m).length/\wBl w5 w6):=⟨h1,h2,h3,h4⟩;clear h1 h2 h3 h4)
 go_ret;exact⟨_,_,rfl,X6.out.1.mono X5.out.2.size,X6.out.2.1.to fun c=>by rw [(iF m).mem],X6.out.2.2.1,aG X5.out.2 X6.out.2.2.2 lz9⟩
theorem aL8{w:World}{v:Value}{L:lIi}{m:Bool}(h:ArgR w v L)(hF:Fit L)(hl:L.length<=1048580) :
  Calls Tryz.prog 35 #[v,.bool m] w fun e w'=>∃ b:Bool,e=.returned (.bool b)/\(b=true↔IsC L (fun c=>In L c/\eB m c))/\wBl w w':=by
 have H:Hid (ArgR w v L/\Fit L):=⟨h,hF⟩;clear h hF;go_enter Tryz.func35,Tryz.ntmps35;go_wp2_with first
  |(go_at_call 57;refine(aY2 H.out.1 H.out.2 hl).mono ?_;rintro e w5 ⟨v5,C5,rfl,h1,h2,h3,h4⟩;have X5:Hid (RR w.heap.size w5 v5 C5/\IsC C5 (fun c=>In L c/\eB m c)/\wBl w w5):=⟨h1,h2,h4⟩;clear h1 h2 h3 h4)
  |(go_at_call 31;refine(tL (H.out.1.kept X5.out.2.2) X5.out.1.arg).mono ?_;obtain⟨bb,hbb⟩:∃ bb,decide (L=C5)=bb:=⟨_,rfl⟩;rw [hbb];have EB:Hid (decide (L=C5)=bb):=hbb;clear hbb;rintro e w7 ⟨rfl,h1⟩;have X7:Hid (wBl w5 w7):=h1;clear h1)
 go_ret;refine⟨bb,rfl,?_,aG X5.out.2.2 X7.out lz9⟩;rw [<- EB.out,decide_eq_true_iff];constructor
 ·intro e;have h2:=X5.out.2.1;rw [<- e] at h2;exact h2
 ·intro e;exact e.one X5.out.2.1 fun _=>Iff.rfl
def shL(G:lIi)(j:Nat)(d:Int):lIi:=(G.take j).map fun r=>(r.1+d,r.2+d)
theorem tU{G:lIi}{j:Nat}{r:Int×Int}(h:G[j]?=some r)(d:Int):shL G (j+1) d=shL G j d++[(r.1+d,r.2+d)]:=by
 obtain⟨hk,rfl⟩:=m8.1 h;unfold shL;rw [dK G j hk,aAK]
 rfl
theorem zN(W:World)(a b:Int):ArgR (W.alloc (.cells #[.I a,.I b] 53)) (.slice (some (aDr W.heap.size 0)) 1 1) [(a,b)]:=
 RR.arg (base:=W.heap.size) (World.ownsRow_lit W #[.I a,.I b] 1 lz9 (by unfold maxLen;omega) rfl)
theorem bF2{C L:lIi}{a b:Int}(h:IsC C (fun c=>In L c/\In [(a,b)] c)):∀ (i:Nat) (r:Int×Int),C[i]?=some r->(a<=r.1/\r.1<=b)/\(a<=r.2/\r.2<=b):=fun i r hr=>by
 have hm:=n8 hr;have hs:=h.cls.some r hm;have p:=((h.mem r.1).1 ⟨r,hm,aAW _,hs⟩).2;have q:=((h.mem r.2).1 ⟨r,hm,hs,aAW _⟩).2;rw [dZ] at p q;exact⟨p,q⟩
def aE2(w w4:World)(k:Nat):Prop:=w.heap.size<=k/\k<w4.heap.size
theorem kL{w w':World}{k:Nat}(h:w'.heap[k]?=w.heap[k]?)(o:Nat):w'.cell? (aDr k o)=w.cell? (aDr k o):=by unfold World.cell?;simp only [h]
structure FW(w w4 W1 wr:World)(ov:Value)(O:lIi):Prop where
 own:RR w.heap.size wr ov O
 fr:Fr (aE2 w w4) W1 wr
 at':∀ g,ov.ownBlock=some g->aE2 w w4 g\/W1.heap.size<=g
theorem FW.drew{w w4 W1 wr:World}{ov:Value}{O:lIi}(h:FW w w4 W1 wr ov O):FW w w4 W1 wr.drew ov O:=⟨World.ownsRow.drew h.own,h.fr.drew,h.at'⟩
theorem FW.app{w w4 W1 wr w6:World}{q:Option Addr}{co:Nat}{L:lIi}{o:Obj}{g6 cap6:Nat}{a b:Int}(h:FW w w4 W1 wr (.slice q L.length co) L)(hg:(wr.alloc o).grownBy w6 (Value.slice q L.length co).ownBlock)
  (ho:w6.ownsRow w.heap.size 53 2 (.slice (some (aDr g6 0)) (L.length+1) cap6) (L.length+1) (aL L++[.I a,.I b]))
  (hb:(Value.slice (some (aDr g6 0)) (L.length+1) cap6).ownBlock=(Value.slice q L.length co).ownBlock\/(Value.slice (some (aDr g6 0)) (L.length+1) cap6).ownBlock=some (wr.alloc o).heap.size):FW w w4 W1 w6 (.slice (some (aDr g6 0)) (L.length+1) cap6) (L++[(a,b)]):=by
 refine⟨nM ho,?_,fun g e=>?_⟩
 ·refine⟨hg.os.trans h.fr.os,hg.tape.trans h.fr.tape,hg.output.trans h.fr.output,o0 h.fr.size (o0 (by simp) hg.size),fun k hk hs=>?_⟩;have hkr:k<wr.heap.size:=o8 hk h.fr.size;refine(hg.block k (by simp;omega) (fun e=>?_)).trans ((Below.heap_alloc _ _ _ hkr).trans (h.fr.block k hk hs));rcases h.at' k e.symm with q | q
  ·exact hs q
  ·omega
 ·rcases hb with hb | hb
  ·rw [hb] at e;exact h.at' g e
  ·rw [hb] at e;cases e;exact .inr (o0 h.fr.size (by simp))
theorem rP{W:World}{q:Option Addr}{n k:Nat}{L:lIi}(h:ArgR W (.slice q n k) L){lo:Nat}(hlo:∀ g,(Value.slice q n k).ownBlock=some g->lo<=g):∀ (i:Nat) (r:Int×Int),L[i]?=some r->∃ g off,q=some (aDr g off)/\lo<=g/\g<W.heap.size/\W.cell? ⟨g,off+i*2,none⟩=some (.I r.1)/\W.cell? ⟨g,off+i*2+1,none⟩=some (.I r.2):=fun i r hi=>by
 obtain⟨q',c',e,-,-,hc⟩:=h.slice;cases e;obtain⟨g,off,rfl,h1,h2,h3⟩:=hc i r hi;rw [aBB] at h2 h3;exact⟨g,off,rfl,hlo g rfl,h1,h2,h3⟩
theorem aY5{w:World}{v:Value}{L:lIi}(h:ArgR w v L)(hF:Fit L)(hl:L.length<=1048580) :
  Calls Tryz.prog 36 #[v] w (qW w (kX L) (3*L.length)):=by
 obtain⟨t0,ti,hz0,hz1,hz2⟩:=aR cL;have H:Hid (ArgR w v L/\Fit L):=⟨h,hF⟩;clear h hF;go_enter Tryz.func36,Tryz.ntmps36;go_upto_region 5 with first
  |(go_at_call 58;refine(jI H.out.1 H.out.2 (by omega)).mono ?_;rintro e w4 ⟨v4,C,rfl,h1,h2,h3,h4⟩;obtain⟨qc,cc,rfl⟩:=h1.shape;have X4:Hid (RR w.heap.size w4 (.slice qc C.length cc) C/\IsC C (In L)/\C.length<=L.length/\wBl w w4):=⟨h1,h2,h3,h4⟩;clear h1 h2 h3 h4)
  |(go_at_call 59;have hx:=X5.out;clear hx;have hih:=xC (((H.out.1.kept X4.out.2.2.2).kept X5.out.2.2.2).kept (nB w5 (.cells #[.int .i64 97,.int .i64 122] 53))) (zN w5 97 122) H.out.2 (gJ (by omega)) (by omega) (by simp) (by simp;omega);(with_reducible refine hih.mono ?_);clear hih;rintro e w6 ⟨v6,S,rfl,h1,h2,h3,h4⟩;obtain⟨qs,cs,rfl⟩:=h1.shape;have X6:Hid (RR w5.heap.size w6 (.slice qs S.length cs) S/\IsC S (fun c=>In L c/\In [(97,122)] c)/\S.length<=L.length/\wBl w5 w6):=⟨h1.mono (by simp),h2,(by simpa using h3),(nB w5 _).trans (h4.mono (by simp))⟩;clear h1 h2 h3 h4)
  |(go_at_call 59;have hih:=xC ((H.out.1.kept X4.out.2.2.2).kept (nB w4 (.cells #[.int .i64 65,.int .i64 90] 53))) (zN w4 65 90) H.out.2 (gJ (by omega)) (by omega) (by simp) (by simp;omega);(with_reducible refine hih.mono ?_);clear hih;rintro e w5 ⟨v5,G,rfl,h1,h2,h3,h4⟩;obtain⟨qg,cg,rfl⟩:=h1.shape;have X5:Hid (RR w4.heap.size w5 (.slice qg G.length cg) G/\IsC G (fun c=>In L c/\In [(65,90)] c)/\G.length<=L.length/\wBl w4 w5):=⟨h1.mono (by simp),h2,(by simpa using h3),(nB w4 _).trans (h4.mono (by simp))⟩;clear h1 h2 h3 h4)
 rename World=>W1;have BTW:Hid (wBl w W1):=aG (aG X4.out.2.2.2 X5.out.2.2.2 lz9) X6.out.2.2.2 lz9;have B4W:Hid (wBl w4 W1):=aG X5.out.2.2.2 X6.out.2.2.2 lz9;have HGG:Hid _:=rP (X5.out.1.kept X6.out.2.2.2).arg (lo:=w4.heap.size) (fun g e=>(aF X5.out.1 e).1);have HGS:Hid _:=rP X6.out.1.arg (lo:=w4.heap.size) (fun g e=>o0 X5.out.2.2.2.size (aF X6.out.1 e).1);have BDG:Hid _:=bF2 X5.out.2.1;have BDS:Hid _:=bF2 X6.out.2.1;have hcl:=X4.out.2.2.1;have hgl:=X5.out.2.2.1;have hsl:=X6.out.2.2.1;have ST:Hid (FW w w4 W1 W1 (.slice qc C.length cc) C):=⟨X4.out.1.kept B4W.out,Fr.refl _ _,fun g e=>.inl ⟨(aF X4.out.1 e).1,(aF X4.out.1 e).2.1⟩⟩;go_wp2;go_loopw [3,6] (fun ov i wr=>∃ j:Nat,j<=G.length/\i=.I j/\FW w w4 W1 wr ov (C++shL G j 32)) (fun _ i _=>G.length-(intOf i).toNat)
 case atStart=>exact⟨0,o9 _,rfl,by simpa [shL] using ST.out⟩
 case round=>
  obtain⟨j,hj,rfl,hW⟩:=hrel;obtain⟨qo,co,e3⟩:=hW.own.shape;subst e3;by_cases hlt:j<G.length
  ·obtain⟨O,hO⟩:∃ O,C++shL G j 32=O:=⟨_,rfl⟩;have EO:Hid (C++shL G j 32=O):=hO;rw [hO] at hW ⊢;have M0:Hid (FW w w4 W1 wr (.slice qo O.length co) O):=hW;have hol:O.length+1<=8796093022208:=(by rw [<- hO];simp [shL];omega);clear hW hO;obtain⟨r,er⟩:∃ r,G[j]?=some r:=⟨_,g9 hlt⟩;obtain⟨gg,og,rfl,hg4,hgg,z1,z2⟩:=HGG.out j _ er;have hbd:=BDG.out j r er;have NXT:Hid (shL G (j+1) (32)=shL G j (32)++[(r.1+(32),r.2+(32))]):=tU er (32);obtain⟨lo,hi⟩:=r;dsimp only at z1 z2 hbd NXT;have wa:IntKind.wrap .i64 (lo+32)=lo+32:=(by rw [IntKind.wrap_i64];omega);have wb:IntKind.wrap .i64 (hi+32)=hi+32:=(by rw [IntKind.wrap_i64];omega);have j0:(0:Int)<=(j:Int):=(by omega);have j1:(j:Int)<(G.length:Int):=(by omega);have QC:Hid (∀ w',Fr (aE2 w w4) W1 w'->w'.cell? ⟨gg,og+j*2,none⟩=some (.I lo)/\w'.cell? ⟨gg,og+j*2+1,none⟩=some (.I hi)):=fun w' hf=>by
    have hbk:=hf.block gg hgg (fun q=>by have:=q.2;omega);exact⟨(kL hbk _).trans z1,(kL hbk _).trans z2⟩
   have MD:Hid (FW w w4 W1 wr.drew (.slice qo O.length co) O):=M0.out.drew;have hw1:w.heap.size<=wr.heap.size:=o0 BTW.out.size M0.out.fr.size;clear z1 z2 er;go_wp2;refine wp_region_held_drew (S:=fun w'=>Fr (aE2 w w4) W1 w') (by kernel_rfl) MD.out.fr (fun hHeld=>?_);refine aCD (v:=?_) 0 ?_ ?_;rotate_left
   ·intro wz hSw;obtain⟨q1,q2⟩:=QC.out wz hSw;clear hSw;go_simp;try with_reducible rfl
   dsimp only [Act.put,i7,g7,g8];simp only [f8,i8,i9];refine aCD (v:=?_) 1 ?_ ?_;rotate_left
   ·intro wz hSw;obtain⟨q1,q2⟩:=QC.out wz hSw;clear hSw;go_simp;try with_reducible rfl
   dsimp only [Act.put,i7,g7,g8];simp only [f8,i8,i9];refine aCD (v:=?_) 2 ?_ ?_;rotate_left
   ·intro wz hSw;obtain⟨q1,q2⟩:=QC.out wz hSw;clear hSw;go_simp;try with_reducible rfl
   dsimp only [Act.put,i7,g7,g8];simp only [f8,i8,i9];refine aCD (v:=?_) 3 ?_ ?_;rotate_left
   ·intro wz hSw;obtain⟨q1,q2⟩:=QC.out wz hSw;clear hSw;go_simp;try with_reducible rfl
   dsimp only [Act.put,i7,g7,g8];simp only [f8,i8,i9];refine aCD (v:=?_) 4 ?_ ?_;rotate_left
   ·intro wz hSw;obtain⟨q1,q2⟩:=QC.out wz hSw;clear hSw;go_simp;try with_reducible rfl
   dsimp only [Act.put,i7,g7,g8];simp only [f8,i8,i9];refine aCD (v:=?_) 5 ?_ ?_;rotate_left
   ·intro wz hSw;obtain⟨q1,q2⟩:=QC.out wz hSw;clear hSw;go_simp;try with_reducible rfl
   dsimp only [Act.put,i7,g7,g8];simp only [f8,i8,i9];refine aCD (v:=?_) 6 ?_ ?_;rotate_left
   ·intro wz hSw;obtain⟨q1,q2⟩:=QC.out wz hSw;clear hSw;go_simp;try with_reducible rfl
   dsimp only [Act.put,i7,g7,g8];simp only [f8,i8,i9];refine aCD (v:=?_) 7 ?_ ?_;rotate_left
   ·intro wz hSw;obtain⟨q1,q2⟩:=QC.out wz hSw;clear hSw;go_simp;try with_reducible rfl
   dsimp only [Act.put,i7,g7,g8];simp only [f8,i8,i9];refine aCD (v:=?_) 8 ?_ ?_;rotate_left
   ·intro wz hSw;obtain⟨q1,q2⟩:=QC.out wz hSw;clear hSw;go_simp;try with_reducible rfl
   dsimp only [Act.put,i7,g7,g8];simp only [f8,i8,i9];refine aCD (v:=?_) 9 ?_ ?_;rotate_left
   ·intro wz hSw;obtain⟨q1,q2⟩:=QC.out wz hSw;clear hSw;go_simp;try with_reducible rfl
   dsimp only [Act.put,i7,g7,g8];simp only [f8,i8,i9];refine aCD (v:=?_) 10 ?_ ?_;rotate_left
   ·intro wz hSw;obtain⟨q1,q2⟩:=QC.out wz hSw;clear hSw;go_simp;try with_reducible rfl
   dsimp only [Act.put,i7,g7,g8];simp only [f8,i8,i9];refine aCD (v:=?_) 11 ?_ ?_;rotate_left
   ·intro wz hSw;obtain⟨q1,q2⟩:=QC.out wz hSw;clear hSw;go_simp;try with_reducible rfl
   dsimp only [Act.put,i7,g7,g8];simp only [f8,i8,i9];refine aCD (v:=?_) 12 ?_ ?_;rotate_left
   ·intro wz hSw;obtain⟨q1,q2⟩:=QC.out wz hSw;clear hSw;go_simp;try with_reducible rfl
   dsimp only [Act.put,i7,g7,g8];simp only [f8,i8,i9];refine aCD (v:=?_) 13 ?_ ?_;rotate_left
   ·intro wz hSw;obtain⟨q1,q2⟩:=QC.out wz hSw;clear hSw;go_simp;try with_reducible rfl
   dsimp only [Act.put,i7,g7,g8];simp only [f8,i8,i9];refine wpAnyH_ready (rs:=[14]) (by kernel_rfl) (by simp) ?_;refine AllReadyH.cons rfl (fun K hK=>?_) AllReadyH.nil;go_simp;refine hK.out _ _ (MD.out.fr.alloc _) (fun hHeld2=>?_);clear hK K;refine wpAnyH_ready (rs:=[15]) (by kernel_rfl) (by simp) ?_;refine AllReadyH.cons rfl (fun K hK=>?_) AllReadyH.nil;refine fS rfl _ _ 22 rfl w.heap.size 53 t0 (.agg #[.I 0,.I 0]) 2 16 aY ti hz0 hz1 hz2 rfl (by decide) (.slice qo O.length co) O.length (aL O) (by simp [Act.eval]) (aAB MD.out.own (.cells #[.I (lo+32),.I (hi+32)] 53)) (aDr wr.heap.size 0) 1 1 [.I (lo+32),.I (hi+32)] (by simp [Act.eval]) rfl (jA _ _ _ _) (by simp [Value.oneCell']) (by unfold maxLen;omega) (by omega) (by simp;omega) ?_;intro v' w6' hown' hgrow hblk;obtain⟨g6,cap6,rfl⟩:=aO hown' (aBK _);have M6:Hid (FW w w4 W1 w6' (.slice (some (aDr g6 0)) (O.length+1) cap6) (O++[(lo+32,hi+32)])):=MD.out.app hgrow hown' hblk;clear hown' hgrow hblk;refine hK.out _ _ M6.out.fr (fun hHeld3=>?_);clear hK K;refine wpAnyH_ready (rs:=[16]) (by kernel_rfl) (by simp) ?_;refine AllReadyH.cons rfl (fun K hK=>?_) AllReadyH.nil;go_simp;refine hK.out _ _ M6.out.fr (fun hHeld4=>?_);clear hK K;refine wpAnyH_done (by kernel_rfl) ?_ _;go_wp2;go_roundw
   case rel=>exact⟨j+1,by omega,by go_num,by rw [NXT.out,<- r8,EO.out];exact M6.out⟩
   case measure=>simp [intOf];omega
  ·have j1:¬ (j:Int)<(G.length:Int):=by omega
   have EJ:Hid (shL G j 32=shL G G.length 32):=aA (by unfold shL;rw [o4 (by omega),aBQ]);rw [EJ.out] at hW ⊢;obtain⟨C2,hC2⟩:∃ C2,C++shL G G.length 32=C2:=⟨_,rfl⟩;have EC:Hid (C++shL G G.length 32=C2):=hC2;have hc2:C2.length<=2*L.length:=(by rw [<- hC2];simp [shL];omega);rw [hC2] at hW ⊢;have ST2:Hid (FW w w4 W1 wr (.slice qo C2.length co) C2):=hW;clear hW hC2;rename World=>W5;go_wp2;go_loopw [3,7] (fun ov i wr=>∃ j:Nat,j<=S.length/\i=.I j/\FW w w4 W1 wr ov (C2++shL S j (-32))) (fun _ i _=>S.length-(intOf i).toNat)
   case atStart=>exact⟨0,o9 _,rfl,by simpa [shL] using ST2.out⟩
   case round=>
    clear ST2;obtain⟨j,hj,rfl,hW⟩:=hrel;obtain⟨qo,co,e3⟩:=hW.own.shape;subst e3;by_cases hlt:j<S.length
    ·obtain⟨O,hO⟩:∃ O,C2++shL S j (-32)=O:=⟨_,rfl⟩;have EO:Hid (C2++shL S j (-32)=O):=hO;rw [hO] at hW ⊢;have M0:Hid (FW w w4 W1 wr (.slice qo O.length co) O):=hW;have hol:O.length+1<=8796093022208:=(by rw [<- hO];simp [shL];omega);clear hW hO;obtain⟨r,er⟩:∃ r,S[j]?=some r:=⟨_,g9 hlt⟩;obtain⟨gg,og,rfl,hg4,hgg,z1,z2⟩:=HGS.out j _ er;have hbd:=BDS.out j r er;have NXT:Hid (shL S (j+1) (-32)=shL S j (-32)++[(r.1+(-32),r.2+(-32))]):=tU er (-32);obtain⟨lo,hi⟩:=r;dsimp only at z1 z2 hbd NXT;have wa:IntKind.wrap .i64 (lo-32)=lo-32:=(by rw [IntKind.wrap_i64];omega);have wb:IntKind.wrap .i64 (hi-32)=hi-32:=(by rw [IntKind.wrap_i64];omega);have j0:(0:Int)<=(j:Int):=(by omega);have j1:(j:Int)<(S.length:Int):=(by omega);have QC:Hid (∀ w',Fr (aE2 w w4) W1 w'->w'.cell? ⟨gg,og+j*2,none⟩=some (.I lo)/\w'.cell? ⟨gg,og+j*2+1,none⟩=some (.I hi)):=fun w' hf=>by
      have hbk:=hf.block gg hgg (fun q=>by have:=q.2;omega);exact⟨(kL hbk _).trans z1,(kL hbk _).trans z2⟩
     have MD:Hid (FW w w4 W1 wr.drew (.slice qo O.length co) O):=M0.out.drew;have hw1:w.heap.size<=wr.heap.size:=o0 BTW.out.size M0.out.fr.size;clear z1 z2 er;go_wp2;refine wp_region_held_drew (S:=fun w'=>Fr (aE2 w w4) W1 w') (by kernel_rfl) MD.out.fr (fun hHeld=>?_);refine aCD (v:=?_) 0 ?_ ?_;rotate_left
     ·intro wz hSw;obtain⟨q1,q2⟩:=QC.out wz hSw;clear hSw;go_simp;try with_reducible rfl
     dsimp only [Act.put,i7,g7,g8];simp only [f8,i8,i9];refine aCD (v:=?_) 1 ?_ ?_;rotate_left
     ·intro wz hSw;obtain⟨q1,q2⟩:=QC.out wz hSw;clear hSw;go_simp;try with_reducible rfl
     dsimp only [Act.put,i7,g7,g8];simp only [f8,i8,i9];refine aCD (v:=?_) 2 ?_ ?_;rotate_left
     ·intro wz hSw;obtain⟨q1,q2⟩:=QC.out wz hSw;clear hSw;go_simp;try with_reducible rfl
     dsimp only [Act.put,i7,g7,g8];simp only [f8,i8,i9];refine aCD (v:=?_) 3 ?_ ?_;rotate_left
     ·intro wz hSw;obtain⟨q1,q2⟩:=QC.out wz hSw;clear hSw;go_simp;try with_reducible rfl
     dsimp only [Act.put,i7,g7,g8];simp only [f8,i8,i9];refine aCD (v:=?_) 4 ?_ ?_;rotate_left
     ·intro wz hSw;obtain⟨q1,q2⟩:=QC.out wz hSw;clear hSw;go_simp;try with_reducible rfl
     dsimp only [Act.put,i7,g7,g8];simp only [f8,i8,i9];refine aCD (v:=?_) 5 ?_ ?_;rotate_left
     ·intro wz hSw;obtain⟨q1,q2⟩:=QC.out wz hSw;clear hSw;go_simp;try with_reducible rfl
     dsimp only [Act.put,i7,g7,g8];simp only [f8,i8,i9];refine aCD (v:=?_) 6 ?_ ?_;rotate_left
     ·intro wz hSw;obtain⟨q1,q2⟩:=QC.out wz hSw;clear hSw;go_simp;try with_reducible rfl
     dsimp only [Act.put,i7,g7,g8];simp only [f8,i8,i9];refine aCD (v:=?_) 7 ?_ ?_;rotate_left
     ·intro wz hSw;obtain⟨q1,q2⟩:=QC.out wz hSw;clear hSw;go_simp;try with_reducible rfl
     dsimp only [Act.put,i7,g7,g8];simp only [f8,i8,i9];refine aCD (v:=?_) 8 ?_ ?_;rotate_left
     ·intro wz hSw;obtain⟨q1,q2⟩:=QC.out wz hSw;clear hSw;go_simp;try with_reducible rfl
     dsimp only [Act.put,i7,g7,g8];simp only [f8,i8,i9];refine aCD (v:=?_) 9 ?_ ?_;rotate_left
     ·intro wz hSw;obtain⟨q1,q2⟩:=QC.out wz hSw;clear hSw;go_simp;try with_reducible rfl
     dsimp only [Act.put,i7,g7,g8];simp only [f8,i8,i9];refine aCD (v:=?_) 10 ?_ ?_;rotate_left
     ·intro wz hSw;obtain⟨q1,q2⟩:=QC.out wz hSw;clear hSw;go_simp;try with_reducible rfl
     dsimp only [Act.put,i7,g7,g8];simp only [f8,i8,i9];refine aCD (v:=?_) 11 ?_ ?_;rotate_left
     ·intro wz hSw;obtain⟨q1,q2⟩:=QC.out wz hSw;clear hSw;go_simp;try with_reducible rfl
     dsimp only [Act.put,i7,g7,g8];simp only [f8,i8,i9];refine aCD (v:=?_) 12 ?_ ?_;rotate_left
     ·intro wz hSw;obtain⟨q1,q2⟩:=QC.out wz hSw;clear hSw;go_simp;try with_reducible rfl
     dsimp only [Act.put,i7,g7,g8];simp only [f8,i8,i9];refine aCD (v:=?_) 13 ?_ ?_;rotate_left
     ·intro wz hSw;obtain⟨q1,q2⟩:=QC.out wz hSw;clear hSw;go_simp;try with_reducible rfl
     dsimp only [Act.put,i7,g7,g8];simp only [f8,i8,i9];refine wpAnyH_ready (rs:=[14]) (by kernel_rfl) (by simp) ?_;refine AllReadyH.cons rfl (fun K hK=>?_) AllReadyH.nil;go_simp;refine hK.out _ _ (MD.out.fr.alloc _) (fun hHeld2=>?_);clear hK K;refine wpAnyH_ready (rs:=[15]) (by kernel_rfl) (by simp) ?_;refine AllReadyH.cons rfl (fun K hK=>?_) AllReadyH.nil;refine fS rfl _ _ 22 rfl w.heap.size 53 t0 (.agg #[.I 0,.I 0]) 2 16 aY ti hz0 hz1 hz2 rfl (by decide) (.slice qo O.length co) O.length (aL O) (by simp [Act.eval]) (aAB MD.out.own (.cells #[.I (lo-32),.I (hi-32)] 53)) (aDr wr.heap.size 0) 1 1 [.I (lo-32),.I (hi-32)] (by simp [Act.eval]) rfl (jA _ _ _ _) (by simp [Value.oneCell']) (by unfold maxLen;omega) (by omega) (by simp;omega) ?_;intro v' w6' hown' hgrow hblk;obtain⟨g6,cap6,rfl⟩:=aO hown' (aBK _);have M6:Hid (FW w w4 W1 w6' (.slice (some (aDr g6 0)) (O.length+1) cap6) (O++[(lo-32,hi-32)])):=MD.out.app hgrow hown' hblk;clear hown' hgrow hblk;refine hK.out _ _ M6.out.fr (fun hHeld3=>?_);clear hK K;refine wpAnyH_ready (rs:=[16]) (by kernel_rfl) (by simp) ?_;refine AllReadyH.cons rfl (fun K hK=>?_) AllReadyH.nil;go_simp;refine hK.out _ _ M6.out.fr (fun hHeld4=>?_);clear hK K;refine wpAnyH_done (by kernel_rfl) ?_ _;go_wp2;go_roundw
     case rel=>exact⟨j+1,by omega,by go_num,by rw [NXT.out,<- r8,EO.out];exact M6.out⟩
     case measure=>simp [intOf];omega
    ·have j1:¬ (j:Int)<(S.length:Int):=by omega
     have EJ:Hid (shL S j (-32)=S.map fun r:Int×Int=>(r.1+-32,r.2+-32)):=aA (by unfold shL;rw [o4 (by omega)]);have EG:Hid (C2=C++G.map fun r:Int×Int=>(r.1+32,r.2+32)):=aA (by rw [<- EC.out];unfold shL;rw [aBQ]);rw [EJ.out] at hW ⊢;have MZ:Hid _:=hW;have FZ:Hid (Fit (C2++S.map fun r:Int×Int=>(r.1+-32,r.2+-32))):=aA (by
      rw [EG.out];refine cU (cU X4.out.2.1.fit fun r hr=>?_) fun r hr=>?_
      ·obtain⟨x,hx,e⟩:=s4.1 hr;subst e;obtain⟨i,hi⟩:=List.getElem?_of_mem hx;have:=BDG.out i x hi;simp only;omega
      ·obtain⟨x,hx,e⟩:=s4.1 hr;subst e;obtain⟨i,hi⟩:=List.getElem?_of_mem hx;have:=BDS.out i x hi;simp only;omega)
     have LZ:Hid ((C2++S.map fun r:Int×Int=>(r.1+-32,r.2+-32)).length<=3*L.length):=aA (by simp;omega);have IZ:Hid (∀ c,In (C2++S.map fun r:Int×Int=>(r.1+-32,r.2+-32)) c↔kX L c):=fun c=>by
      rw [EG.out,cA,cA,iQ,iQ,X4.out.2.1.mem,X5.out.2.1.mem,X6.out.2.1.mem,dZ,dZ];unfold kX;rw [show c - -32=c+32 by omega,or_assoc]
     clear hW;generalize (C2++S.map fun r:Int×Int=>(r.1+-32,r.2+-32))=Z at *;go_wp2_with (go_at_call 58;refine(jI MZ.out.own.arg FZ.out (by have:=LZ.out;omega)).mono ?_;rintro e w7 ⟨v7,D,rfl,h1,h2,h3,h4⟩;have X7:Hid (RR wr.heap.size w7 v7 D/\IsC D (In Z)/\D.length<=Z.length/\wBl wr w7):=⟨h1,h2,h3,h4⟩;clear h1 h2 h3 h4)
     go_ret;have BZ:wBl w wr:=bB BTW.out MZ.out.fr lz9 (fun k hk=>hk.1);exact⟨_,_,rfl,X7.out.1.mono BZ.size,X7.out.2.1.to IZ.out,o0 X7.out.2.2.1 LZ.out,aG BZ X7.out.2.2.2 lz9⟩
theorem aX1{c f:Bool}{L C:lIi}(hC:IsC C (kX L)):lC c f L↔(IsC L (fun x=>In L x/\eB c x)/\(f=true->L=C)):=by
 constructor
 ·rintro ⟨h1,h2⟩;refine⟨h1,fun hf=>?_⟩;have h3:IsC L (kX L):=⟨h1.cls,h1.fit,h2 hf⟩;exact h3.one hC (fun _=>Iff.rfl)
 ·rintro ⟨h1,h2⟩;refine⟨h1,fun hf x=>?_⟩;have e:=h2 hf;rw [<- e] at hC;exact hC.mem x
theorem aW2{c f:Bool}{t:Tr}{k:Int}(hk:t.f.k=k):dN c f t↔(if k=1\/k=3\/k=4 then t.f.n=0/\t.f.mn=0/\t.f.mx=0/\t.f.rs.length=0/\t.ks.length=0
 else if k=2 then lC c f t.f.rs/\t.f.n=0/\t.f.mn=0/\t.f.mx=0/\t.ks.length=0
 else if k=5\/k=6 then 1<t.ks.length/\t.f.n=0/\t.f.mn=0/\t.f.mx=0/\t.f.rs.length=0
 else if k=7 then t.ks.length=1/\t.f.mn=0/\t.f.mx=0/\t.f.rs.length=0
 else if k=8 then (1<=t.f.n/\t.f.n<=9)/\t.f.mn=0/\t.f.mx=0/\t.f.rs.length=0/\t.ks.length=0
 else if k=9 then eX t.f.mn t.f.mx=true/\t.ks.length=1/\t.f.n=0/\t.f.rs.length=0
 else False):=by
 unfold dN;rw [hk]
def FormedP(c f:Bool)(p:Way)(t:Tr)(w:World)(e:Ending)(w':World):Prop:=∃ b:Bool,e=.returned (.bool b)/\(b=true↔bJ c f p t)/\wBl w w'
theorem FormedP.mk{c f:Bool}{p:Way}{t:Tr}{w w':World}{e:Ending}(b:Bool)(h1:e=.returned (.bool b))(h2:b=true↔bJ c f p t)(h3:wBl w w'):FormedP c f p t w e w':=⟨b,h1,h2,h3⟩
theorem aY4(p:Way)(t:Tr)(o:Nat)(c f:Bool){w:World}(hn:NB w t)(hrl:t.f.rs.length<=1048580) :
  Calls Tryz.prog 20 #[.agg #[.I t.f.k,.I t.f.n,.I t.f.mn,.I t.f.mx,.slice t.f.rq t.f.rs.length t.f.rc,.slice t.f.kq t.f.kl t.f.kc,.I ((p.length:Int)+1),.I (arP p),.bool (fiP p),.bool (laP p),.bool (brP p),.I (o:Int)],.agg #[.bool c,.bool f]] w fun e w'=>FormedP c f p t w e w':=by
 have HNA:=aA hn;have hkl:=hn.kl;have HKL:=aA hkl;obtain⟨qk,ck,ek,hkm,-,-⟩:=hn.k.slice;have hkm':t.f.kl<=9223372036854775807:=by rw [hkl];exact hkm
 have HF:=aA hn.fit;have B0:Hid (wBl w ((w.alloc (.cells #[.I t.f.k,.I t.f.n,.I t.f.mn,.I t.f.mx,.slice t.f.rq t.f.rs.length t.f.rc,.slice t.f.kq t.f.kl t.f.kc,.I ((p.length:Int)+1),.I (arP p),.bool (fiP p),.bool (laP p),.bool (brP p),.I (o:Int)] 56)).alloc (.cells #[.bool c,.bool f] 27))):=(bz9).alloc (by simp) _;have P0:Hid (((w.alloc (.cells #[.I t.f.k,.I t.f.n,.I t.f.mn,.I t.f.mx,.slice t.f.rq t.f.rs.length t.f.rc,.slice t.f.kq t.f.kl t.f.kc,.I ((p.length:Int)+1),.I (arP p),.bool (fiP p),.bool (laP p),.bool (brP p),.I (o:Int)] 56)).alloc (.cells #[.bool c,.bool f] 27)).heap[w.heap.size]?=some (.cells #[.I t.f.k,.I t.f.n,.I t.f.mn,.I t.f.mx,.slice t.f.rq t.f.rs.length t.f.rc,.slice t.f.kq t.f.kl t.f.kc,.I ((p.length:Int)+1),.I (arP p),.bool (fiP p),.bool (laP p),.bool (brP p),.I (o:Int)] 56 (0,0))):=(Below.heap_alloc _ _ _ (by simp)).trans (aD w _);have M0:Hid (((w.alloc (.cells #[.I t.f.k,.I t.f.n,.I t.f.mn,.I t.f.mx,.slice t.f.rq t.f.rs.length t.f.rc,.slice t.f.kq t.f.kl t.f.kc,.I ((p.length:Int)+1),.I (arP p),.bool (fiP p),.bool (laP p),.bool (brP p),.I (o:Int)] 56)).alloc (.cells #[.bool c,.bool f] 27)).heap[w.heap.size+1]?=some (.cells #[.bool c,.bool f] 27 (0,0))):=(by
  have:=aD (w.alloc (.cells #[.I t.f.k,.I t.f.n,.I t.f.mn,.I t.f.mx,.slice t.f.rq t.f.rs.length t.f.rc,.slice t.f.kq t.f.kl t.f.kc,.I ((p.length:Int)+1),.I (arP p),.bool (fiP p),.bool (laP p),.bool (brP p),.I (o:Int)] 56)) (.cells #[.bool c,.bool f] 27);rwa [v9] at this)
 clear hn hkl ek hkm;go_enter Tryz.func20,Tryz.ntmps20;go_upto_region 1 with fail
 generalize ((w.alloc (.cells #[.I t.f.k,.I t.f.n,.I t.f.mn,.I t.f.mx,.slice t.f.rq t.f.rs.length t.f.rc,.slice t.f.kq t.f.kl t.f.kc,.I ((p.length:Int)+1),.I (arP p),.bool (fiP p),.bool (laP p),.bool (brP p),.I (o:Int)] 56)).alloc (.cells #[.bool c,.bool f] 27))=W0 at B0 P0 M0 ⊢;generalize w.heap.size+1=bm at M0 ⊢;have p0:W0.cell? (aDr w.heap.size 0)=some (.I t.f.k):=aB P0.o (i:=0) rfl;have p1:W0.cell? (aDr w.heap.size 1)=some (.I t.f.n):=aB P0.o (i:=1) rfl;have p2:W0.cell? (aDr w.heap.size 2)=some (.I t.f.mn):=aB P0.o (i:=2) rfl;have p3:W0.cell? (aDr w.heap.size 3)=some (.I t.f.mx):=aB P0.o (i:=3) rfl;have p4:W0.cell? (aDr w.heap.size 4)=some (.slice t.f.rq t.f.rs.length t.f.rc):=aB P0.o (i:=4) rfl;have p5:W0.cell? (aDr w.heap.size 5)=some (.slice t.f.kq t.f.kl t.f.kc):=aB P0.o (i:=5) rfl;have p6:W0.cell? (aDr w.heap.size 6)=some (.I ((p.length:Int)+1)):=aB P0.o (i:=6) rfl;have p7:W0.cell? (aDr w.heap.size 7)=some (.I (arP p)):=aB P0.o (i:=7) rfl;have p8:W0.cell? (aDr w.heap.size 8)=some (.bool (fiP p)):=aB P0.o (i:=8) rfl;have p9:W0.cell? (aDr w.heap.size 9)=some (.bool (laP p)):=aB P0.o (i:=9) rfl;have p10:W0.cell? (aDr w.heap.size 10)=some (.bool (brP p)):=aB P0.o (i:=10) rfl;have p11:W0.cell? (aDr w.heap.size 11)=some (.I (o:Int)):=aB P0.o (i:=11) rfl;go_upto_region 2 with fail
 have K1:wBl W0 (W0.alloc (.cells (nDf t.f) 25)):=bz9;have N1:=aA (aD W0 (.cells (nDf t.f) 25));have P1:=aA ((K1.block _ (aC P0.o)).trans P0.o);have M1:=aA ((K1.block _ (aC M0.o)).trans M0.o);have B1:=aA (aG B0.o K1 lz9);clear K1 B0 P0 M0 p0 p1 p2 p3 p4 p5 p6 p7 p8 p9 p10 p11;generalize (W0.alloc (.cells (nDf t.f) 25))=W1 at N1 P1 M1 B1 ⊢;generalize W0.heap.size=bn at N1 ⊢;have p0:W1.cell? (aDr w.heap.size 0)=some (.I t.f.k):=aB P1.o (i:=0) rfl;have p1:W1.cell? (aDr w.heap.size 1)=some (.I t.f.n):=aB P1.o (i:=1) rfl;have p2:W1.cell? (aDr w.heap.size 2)=some (.I t.f.mn):=aB P1.o (i:=2) rfl;have p3:W1.cell? (aDr w.heap.size 3)=some (.I t.f.mx):=aB P1.o (i:=3) rfl;have p4:W1.cell? (aDr w.heap.size 4)=some (.slice t.f.rq t.f.rs.length t.f.rc):=aB P1.o (i:=4) rfl;have p5:W1.cell? (aDr w.heap.size 5)=some (.slice t.f.kq t.f.kl t.f.kc):=aB P1.o (i:=5) rfl;have p6:W1.cell? (aDr w.heap.size 6)=some (.I ((p.length:Int)+1)):=aB P1.o (i:=6) rfl;have p7:W1.cell? (aDr w.heap.size 7)=some (.I (arP p)):=aB P1.o (i:=7) rfl;have p8:W1.cell? (aDr w.heap.size 8)=some (.bool (fiP p)):=aB P1.o (i:=8) rfl;have p9:W1.cell? (aDr w.heap.size 9)=some (.bool (laP p)):=aB P1.o (i:=9) rfl;have p10:W1.cell? (aDr w.heap.size 10)=some (.bool (brP p)):=aB P1.o (i:=10) rfl;have p11:W1.cell? (aDr w.heap.size 11)=some (.I (o:Int)):=aB P1.o (i:=11) rfl;have ST:=aA (aX9 p t o W1);obtain⟨s,hs⟩:∃ s,kA p t.f.k=s:=⟨_,rfl⟩;rw [hs] at ST;have HS:=aA hs;clear hs;go_upto_region 3 with (go_at_call 33;(with_reducible refine(ST.o).mono ?_);rintro e W2 ⟨rfl,h2⟩;have B2:=aA (aG B1.o h2 lz9);have N2:=aA ((h2.block _ (aC N1.o)).trans N1.o);have M2:=aA ((h2.block _ (aC M1.o)).trans M1.o);clear h2)
 clear p0 p1 p2 p3 p4 p5 p6 p7 p8 p9 p10 p11 N1 P1 M1 B1 ST
 cases s with
 | false=>
  go_wp2;go_ret;exact FormedP.mk false rfl (⟨fun z=>(by cases z),fun z=>by have:=z.1;rw [HS.o] at this;cases this⟩) B2.o
 | true=>
  have FT:Hid (bJ c f p t↔dN c f t):=⟨fun z=>z.2,fun z=>⟨HS.o,z⟩⟩;obtain⟨n0,n1,n2,n3,n4,n5⟩:=(show BoxN W2 bn t.f from N2.o).six;simp only [m7] at n1 n2 n3 n4 n5;have m0:W2.cell? (aDr bm 0)=some (.bool c):=aB M2.o (i:=0) rfl;have m1:W2.cell? (aDr bm 1)=some (.bool f):=aB M2.o (i:=1) rfl;obtain⟨k,hk⟩:∃ k,t.f.k=k:=⟨_,rfl⟩;have TK:=aA (aW2 (c:=c) (f:=f) hk);have HKK:=aA hk;obtain⟨ln,hln⟩:∃ ln,t.f.kl=ln:=⟨_,rfl⟩;have HLN:=aA hln;clear hk hln;by_cases h1:k=1\/k=3\/k=4
  ·have BR:=aA (fun W=>aD3 t.f W);obtain⟨br,hbr⟩:∃ br,decide (t.f.n=0/\t.f.mn=0/\t.f.mx=0/\t.f.rs.length=0/\t.f.kl=0)=br:=⟨_,rfl⟩;rw [hbr] at BR;have HBR:=aA hbr;clear hbr;have HI:=aA (show br=true↔bJ c f p t by
    rw [<- HBR.o,FT.o,TK.o,if_pos h1,aBD,HKL.o])
   rcases h1 with h1 | h1 | h1
   ·have q1:(t.f.k==1)=true:=beq_iff_eq.2 (by rw [HKK.o];omega);clear h1;go_wp2_with (go_at_call 34;(with_reducible refine(BR.o _).mono ?_);rintro e W8 ⟨rfl,h8⟩;have B8:=aA (aG B2.o h8 lz9);clear h8)
    go_ret;exact FormedP.mk br rfl (HI.o) B8.o
   ·have q1:(t.f.k==1)=false:=n7.2 (by rw [HKK.o];omega);have q3:(t.f.k==3)=true:=beq_iff_eq.2 (by rw [HKK.o];omega);clear h1;go_wp2_with (go_at_call 34;(with_reducible refine(BR.o _).mono ?_);rintro e W8 ⟨rfl,h8⟩;have B8:=aA (aG B2.o h8 lz9);clear h8)
    go_ret;exact FormedP.mk br rfl (HI.o) B8.o
   ·have q1:(t.f.k==1)=false:=n7.2 (by rw [HKK.o];omega);have q3:(t.f.k==3)=false:=n7.2 (by rw [HKK.o];omega);have q4:(t.f.k==4)=true:=beq_iff_eq.2 (by rw [HKK.o];omega);clear h1;go_wp2_with (go_at_call 34;(with_reducible refine(BR.o _).mono ?_);rintro e W8 ⟨rfl,h8⟩;have B8:=aA (aG B2.o h8 lz9);clear h8)
    go_ret;exact FormedP.mk br rfl (HI.o) B8.o
  by_cases h2:k=2
  ·have BR:=aA (fun W=>aD1 t.f W);obtain⟨br,hbr⟩:∃ br,decide (t.f.n=0/\t.f.mn=0/\t.f.mx=0/\t.f.kl=0)=br:=⟨_,rfl⟩;rw [hbr] at BR;have HBR:=aA hbr;clear hbr;have q1:(t.f.k==1)=false:=n7.2 (by rw [HKK.o];omega);have q3:(t.f.k==3)=false:=n7.2 (by rw [HKK.o];omega);have q4:(t.f.k==4)=false:=n7.2 (by rw [HKK.o];omega);have q2:(t.f.k==2)=true:=beq_iff_eq.2 (by rw [HKK.o];omega);have RC:=aA (aL8 (m:=c) (HNA.o.ck (CK.of_below B2.o)).r HF.o hrl);go_upto_region 12 with (go_at_call 35;(with_reducible refine(RC.o).mono ?_);rintro e W3 ⟨b3,rfl,hb3,h3⟩;have I3:=aA hb3;have B3:=aA (aG B2.o h3 lz9);have N3:=aA ((h3.block _ (aC N2.o)).trans N2.o);have M3:=aA ((h3.block _ (aC M2.o)).trans M2.o);clear hb3 h3)
   clear n0 n1 n2 n3 n4 n5 m0 m1;have n4:W3.cell? (aDr bn 4)=some (.slice t.f.rq t.f.rs.length t.f.rc):=(show BoxN W3 bn t.f from N3.o).six.2.2.2.2.1;have FC:=aA (aY5 (HNA.o.ck (CK.of_below B3.o)).r HF.o hrl);go_upto_region 13 with (go_at_call 36;(with_reducible refine(FC.o).mono ?_);rintro e W4 ⟨v4,C,rfl,h41,h42,h43,h44⟩;obtain⟨q4,k4,rfl⟩:=h41.shape;have X4:=aA h41;have I4:=aA h42;have B4:=aA (aG B3.o h44 lz9);have N4:=aA ((h44.block _ (aC N3.o)).trans N3.o);have M4:=aA ((h44.block _ (aC M3.o)).trans M3.o);clear h41 h42 h43 h44)
   clear n4;have n4:W4.cell? (aDr bn 4)=some (.slice t.f.rq t.f.rs.length t.f.rc):=(show BoxN W4 bn t.f from N4.o).six.2.2.2.2.1;have AK:=aA (tL (HNA.o.ck (CK.of_below B4.o)).r X4.o.arg);obtain⟨aa,haa⟩:∃ aa,decide (t.f.rs=C)=aa:=⟨_,rfl⟩;rw [haa] at AK;have HAA:=aA haa;clear haa;go_upto_region 14 with (go_at_call 31;(with_reducible refine(AK.o).mono ?_);rintro e W5 ⟨rfl,h5⟩;have B5:=aA (aG B4.o h5 lz9);have N5:=aA ((h5.block _ (aC N4.o)).trans N4.o);have M5:=aA ((h5.block _ (aC M4.o)).trans M4.o);clear h5)
   clear n4;obtain⟨n0,n1,n2,n3,n4,n5⟩:=(show BoxN W5 bn t.f from N5.o).six;simp only [m7] at n1 n2 n3 n4 n5;have m1:W5.cell? (aDr bm 1)=some (.bool f):=aB M5.o (i:=1) rfl;have HI:=aA (show ((b3=true/\(f=true->aa=true))/\br=true)↔bJ c f p t by
    rw [<- HBR.o,FT.o,TK.o,if_neg h1,if_pos h2,aBD,HKL.o,aX1 I4.o,I3.o,<- HAA.o,aBD])
   clear h1 h2 RC FC AK
   cases b3 with
   | false=>
    have HI2:=aA (show false=true↔bJ c f p t from ⟨fun z=>(by cases z),fun z=>(HI.o.2 z).1.1⟩);go_wp2;go_ret;exact FormedP.mk false rfl (HI2.o) B5.o
   | true=>
    cases f with
    | false=>
     have HI2:=aA (show br=true↔bJ c false p t from ⟨fun z=>HI.o.1 ⟨⟨rfl,fun q=>(by cases q)⟩,z⟩,fun z=>(HI.o.2 z).2⟩);go_wp2_with (go_at_call 34;(with_reducible refine(BR.o _).mono ?_);rintro e W8 ⟨rfl,h8⟩;have B8:=aA (aG B5.o h8 lz9);clear h8)
     go_ret;exact FormedP.mk br rfl (HI2.o) B8.o
    | true=>
     cases aa with
     | false=>
      have HI2:=aA (show false=true↔bJ c true p t from ⟨fun z=>(by cases z),fun z=>(HI.o.2 z).1.2 rfl⟩);go_wp2;go_ret;exact FormedP.mk false rfl (HI2.o) B5.o
     | true=>
      have HI2:=aA (show br=true↔bJ c true p t from ⟨fun z=>HI.o.1 ⟨⟨rfl,fun _=>rfl⟩,z⟩,fun z=>(HI.o.2 z).2⟩);go_wp2_with (go_at_call 34;(with_reducible refine(BR.o _).mono ?_);rintro e W8 ⟨rfl,h8⟩;have B8:=aA (aG B5.o h8 lz9);clear h8)
      go_ret;exact FormedP.mk br rfl (HI2.o) B8.o
  by_cases h56:k=5\/k=6
  ·have BR:=aA (fun W=>aD2 t.f W);obtain⟨br,hbr⟩:∃ br,decide (t.f.n=0/\t.f.mn=0/\t.f.mx=0/\t.f.rs.length=0)=br:=⟨_,rfl⟩;rw [hbr] at BR;have HBR:=aA hbr;clear hbr;have HI:=aA (show (1<ln/\br=true)↔bJ c f p t by
    rw [<- HBR.o,FT.o,TK.o,if_neg h1,if_neg h2,if_pos h56,aBD,<- HLN.o,HKL.o])
   by_cases hl:1<ln
   ·have el:(1:Int)<(t.f.kl:Int):=by rw [HLN.o];omega
    have HI2:=aA (show br=true↔bJ c f p t from ⟨fun z=>HI.o.1 ⟨hl,z⟩,fun z=>(HI.o.2 z).2⟩);clear hl;rcases h56 with h5 | h5
    ·have q1:(t.f.k==1)=false:=n7.2 (by rw [HKK.o];omega);have q3:(t.f.k==3)=false:=n7.2 (by rw [HKK.o];omega);have q4:(t.f.k==4)=false:=n7.2 (by rw [HKK.o];omega);have q2:(t.f.k==2)=false:=n7.2 (by rw [HKK.o];omega);have q5:(t.f.k==5)=true:=beq_iff_eq.2 (by rw [HKK.o];omega);clear h5 h1 h2;go_wp2_with (go_at_call 34;(with_reducible refine(BR.o _).mono ?_);rintro e W8 ⟨rfl,h8⟩;have B8:=aA (aG B2.o h8 lz9);clear h8)
     go_ret;exact FormedP.mk br rfl (HI2.o) B8.o
    ·have q1:(t.f.k==1)=false:=n7.2 (by rw [HKK.o];omega);have q3:(t.f.k==3)=false:=n7.2 (by rw [HKK.o];omega);have q4:(t.f.k==4)=false:=n7.2 (by rw [HKK.o];omega);have q2:(t.f.k==2)=false:=n7.2 (by rw [HKK.o];omega);have q5:(t.f.k==5)=false:=n7.2 (by rw [HKK.o];omega);have q6:(t.f.k==6)=true:=beq_iff_eq.2 (by rw [HKK.o];omega);clear h5 h1 h2;go_wp2_with (go_at_call 34;(with_reducible refine(BR.o _).mono ?_);rintro e W8 ⟨rfl,h8⟩;have B8:=aA (aG B2.o h8 lz9);clear h8)
     go_ret;exact FormedP.mk br rfl (HI2.o) B8.o
   ·have el:¬ (1:Int)<(t.f.kl:Int):=by rw [HLN.o];omega
    have HI2:=aA (show false=true↔bJ c f p t from ⟨fun z=>(by cases z),fun z=>absurd (HI.o.2 z).1 hl⟩);clear hl;rcases h56 with h5 | h5
    ·have q1:(t.f.k==1)=false:=n7.2 (by rw [HKK.o];omega);have q3:(t.f.k==3)=false:=n7.2 (by rw [HKK.o];omega);have q4:(t.f.k==4)=false:=n7.2 (by rw [HKK.o];omega);have q2:(t.f.k==2)=false:=n7.2 (by rw [HKK.o];omega);have q5:(t.f.k==5)=true:=beq_iff_eq.2 (by rw [HKK.o];omega);clear h5 h1 h2;go_wp2;go_ret;exact FormedP.mk false rfl (HI2.o) B2.o
    ·have q1:(t.f.k==1)=false:=n7.2 (by rw [HKK.o];omega);have q3:(t.f.k==3)=false:=n7.2 (by rw [HKK.o];omega);have q4:(t.f.k==4)=false:=n7.2 (by rw [HKK.o];omega);have q2:(t.f.k==2)=false:=n7.2 (by rw [HKK.o];omega);have q5:(t.f.k==5)=false:=n7.2 (by rw [HKK.o];omega);have q6:(t.f.k==6)=true:=beq_iff_eq.2 (by rw [HKK.o];omega);clear h5 h1 h2;go_wp2;go_ret;exact FormedP.mk false rfl (HI2.o) B2.o
  by_cases h7:k=7
  ·have BR:=aA (fun W=>aC8 t.f W);obtain⟨br,hbr⟩:∃ br,decide (t.f.mn=0/\t.f.mx=0/\t.f.rs.length=0)=br:=⟨_,rfl⟩;rw [hbr] at BR;have HBR:=aA hbr;clear hbr;have HI:=aA (show (ln=1/\br=true)↔bJ c f p t by
    rw [<- HBR.o,FT.o,TK.o,if_neg h1,if_neg h2,if_neg h56,if_pos h7,aBD,<- HLN.o,HKL.o])
   have q1:(t.f.k==1)=false:=n7.2 (by rw [HKK.o];omega);have q3:(t.f.k==3)=false:=n7.2 (by rw [HKK.o];omega);have q4:(t.f.k==4)=false:=n7.2 (by rw [HKK.o];omega);have q2:(t.f.k==2)=false:=n7.2 (by rw [HKK.o];omega);have q5:(t.f.k==5)=false:=n7.2 (by rw [HKK.o];omega);have q6:(t.f.k==6)=false:=n7.2 (by rw [HKK.o];omega);have q7:(t.f.k==7)=true:=beq_iff_eq.2 (by rw [HKK.o];omega);clear h1 h2 h56 h7;by_cases hl:ln=1
   ·have el:((t.f.kl:Int)==1)=true:=beq_iff_eq.2 (by rw [HLN.o];omega);have HI2:=aA (show br=true↔bJ c f p t from ⟨fun z=>HI.o.1 ⟨hl,z⟩,fun z=>(HI.o.2 z).2⟩);clear hl;go_wp2_with (go_at_call 34;(with_reducible refine(BR.o _).mono ?_);rintro e W8 ⟨rfl,h8⟩;have B8:=aA (aG B2.o h8 lz9);clear h8)
    go_ret;exact FormedP.mk br rfl (HI2.o) B8.o
   ·have el:((t.f.kl:Int)==1)=false:=n7.2 (by rw [HLN.o];omega);have HI2:=aA (show false=true↔bJ c f p t from ⟨fun z=>(by cases z),fun z=>absurd (HI.o.2 z).1 hl⟩);clear hl;go_wp2;go_ret;exact FormedP.mk false rfl (HI2.o) B2.o
  by_cases h8:k=8
  ·have BR:=aA (fun W=>aC9 t.f W);obtain⟨br,hbr⟩:∃ br,decide (t.f.mn=0/\t.f.mx=0/\t.f.rs.length=0/\t.f.kl=0)=br:=⟨_,rfl⟩;rw [hbr] at BR;have HBR:=aA hbr;clear hbr;have HI:=aA (show ((1<=t.f.n/\t.f.n<=9)/\br=true)↔bJ c f p t by
    rw [<- HBR.o,FT.o,TK.o,if_neg h1,if_neg h2,if_neg h56,if_neg h7,if_pos h8,aBD,HKL.o])
   have q1:(t.f.k==1)=false:=n7.2 (by rw [HKK.o];omega);have q3:(t.f.k==3)=false:=n7.2 (by rw [HKK.o];omega);have q4:(t.f.k==4)=false:=n7.2 (by rw [HKK.o];omega);have q2:(t.f.k==2)=false:=n7.2 (by rw [HKK.o];omega);have q5:(t.f.k==5)=false:=n7.2 (by rw [HKK.o];omega);have q6:(t.f.k==6)=false:=n7.2 (by rw [HKK.o];omega);have q7:(t.f.k==7)=false:=n7.2 (by rw [HKK.o];omega);have q8:(t.f.k==8)=true:=beq_iff_eq.2 (by rw [HKK.o];omega);clear h1 h2 h56 h7 h8;by_cases g1:1<=t.f.n
   ·by_cases g2:t.f.n<=9
    ·have HI2:=aA (show br=true↔bJ c f p t from ⟨fun z=>HI.o.1 ⟨⟨g1,g2⟩,z⟩,fun z=>(HI.o.2 z).2⟩);go_wp2_with (go_at_call 34;(with_reducible refine(BR.o _).mono ?_);rintro e W8 ⟨rfl,h8⟩;have B8:=aA (aG B2.o h8 lz9);clear h8)
     go_ret;exact FormedP.mk br rfl (HI2.o) B8.o
    ·have HI2:=aA (show false=true↔bJ c f p t from ⟨fun z=>(by cases z),fun z=>absurd (HI.o.2 z).1.2 g2⟩);go_wp2;go_ret;exact FormedP.mk false rfl (HI2.o) B2.o
   ·have HI2:=aA (show false=true↔bJ c f p t from ⟨fun z=>(by cases z),fun z=>absurd (HI.o.2 z).1.1 g1⟩);go_wp2;go_ret;exact FormedP.mk false rfl (HI2.o) B2.o
  by_cases h9:k=9
  ·have BR:=aA (fun W=>aD0 t.f W);obtain⟨br,hbr⟩:∃ br,decide (t.f.n=0/\t.f.rs.length=0)=br:=⟨_,rfl⟩;rw [hbr] at BR;have HBR:=aA hbr;clear hbr;have BD:=aA (fun W=>aY8 t.f.mn t.f.mx W);obtain⟨bd,hbd⟩:∃ bd,eX t.f.mn t.f.mx=bd:=⟨_,rfl⟩;rw [hbd] at BD;have HBD:=aA hbd;clear hbd;have HI:=aA (show (bd=true/\ln=1/\br=true)↔bJ c f p t by
    rw [<- HBR.o,FT.o,TK.o,if_neg h1,if_neg h2,if_neg h56,if_neg h7,if_neg h8,if_pos h9,aBD,<- HLN.o,HKL.o,HBD.o])
   have q1:(t.f.k==1)=false:=n7.2 (by rw [HKK.o];omega);have q3:(t.f.k==3)=false:=n7.2 (by rw [HKK.o];omega);have q4:(t.f.k==4)=false:=n7.2 (by rw [HKK.o];omega);have q2:(t.f.k==2)=false:=n7.2 (by rw [HKK.o];omega);have q5:(t.f.k==5)=false:=n7.2 (by rw [HKK.o];omega);have q6:(t.f.k==6)=false:=n7.2 (by rw [HKK.o];omega);have q7:(t.f.k==7)=false:=n7.2 (by rw [HKK.o];omega);have q8:(t.f.k==8)=false:=n7.2 (by rw [HKK.o];omega);have q9:(t.f.k==9)=true:=beq_iff_eq.2 (by rw [HKK.o];omega);clear h1 h2 h56 h7 h8 h9
   cases bd with
   | false=>
    have HI2:=aA (show false=true↔bJ c f p t from ⟨fun z=>(by cases z),fun z=>(HI.o.2 z).1⟩);go_wp2_with (go_at_call 37;(with_reducible refine(BD.o _).mono ?_);rintro e w5 ⟨rfl,h5⟩;subst w5)
    go_ret;exact FormedP.mk false rfl (HI2.o) B2.o
   | true=>
    by_cases hl:ln=1
    ·have el:((t.f.kl:Int)==1)=true:=beq_iff_eq.2 (by rw [HLN.o];omega);have HI2:=aA (show br=true↔bJ c f p t from ⟨fun z=>HI.o.1 ⟨rfl,hl,z⟩,fun z=>(HI.o.2 z).2.2⟩);clear hl;go_wp2_with first |(go_at_call 37;(with_reducible refine(BD.o _).mono ?_);rintro e w5 ⟨rfl,h5⟩;subst w5) |(go_at_call 34;(with_reducible refine(BR.o _).mono ?_);rintro e W8 ⟨rfl,h8⟩;have B8:=aA (aG B2.o h8 lz9);clear h8)
     go_ret;exact FormedP.mk br rfl (HI2.o) B8.o
    ·have el:((t.f.kl:Int)==1)=false:=n7.2 (by rw [HLN.o];omega);have HI2:=aA (show false=true↔bJ c f p t from ⟨fun z=>(by cases z),fun z=>absurd (HI.o.2 z).2.1 hl⟩);clear hl;go_wp2_with (go_at_call 37;(with_reducible refine(BD.o _).mono ?_);rintro e w5 ⟨rfl,h5⟩;subst w5)
     go_ret;exact FormedP.mk false rfl (HI2.o) B2.o
  have q1:(t.f.k==1)=false:=n7.2 (by rw [HKK.o];omega);have q3:(t.f.k==3)=false:=n7.2 (by rw [HKK.o];omega);have q4:(t.f.k==4)=false:=n7.2 (by rw [HKK.o];omega);have q2:(t.f.k==2)=false:=n7.2 (by rw [HKK.o];omega);have q5:(t.f.k==5)=false:=n7.2 (by rw [HKK.o];omega);have q6:(t.f.k==6)=false:=n7.2 (by rw [HKK.o];omega);have q7:(t.f.k==7)=false:=n7.2 (by rw [HKK.o];omega);have q8:(t.f.k==8)=false:=n7.2 (by rw [HKK.o];omega);have q9:(t.f.k==9)=false:=n7.2 (by rw [HKK.o];omega);have HI2:=aA (show false=true↔bJ c f p t from ⟨fun z=>(by cases z),fun z=>by
   have:=TK.o.1 (FT.o.1 z);rw [if_neg h1,if_neg h2,if_neg h56,if_neg h7,if_neg h8,if_neg h9] at this;exact this.elim⟩)
  clear h1 h2 h56 h7 h8 h9;go_wp2;go_ret;exact FormedP.mk false rfl (HI2.o) B2.o
section
theorem bO7(W:World)(a:Value)(t:TypeId):∀ (j:Nat) (u:Value),[a][j]?=some u->(W.alloc (.cells #[a] t)).cell? (((aDr W.heap.size 0):Addr).add j)=some u:=by
 intro j u h
 match j,h with
 | 0,h=>simp at h;subst h;simp [Addr.add]
theorem bE2(most:Nat):∀ (a:List El) (k j:Nat) (z:Zl),(tl most k a)[j]?=some z->z.2=min (k+j+z.1.2.sz) most
 | [],k,j,z,h=>by simp [tl] at h
 | x :: a,k,0,z,h=>by
  rw [tl] at h;simp at h;subst h
  rfl
 | x :: a,k,j+1,z,h=>by
  rw [tl,aAP] at h;have:=bE2 most a (k+1) j z h;omega
theorem bA9{t:Tr}{j:Nat}{z:Zl}(h:(gM 2001 t)[j]?=some z):z.2=min (j+z.1.2.sz) 2001:=by
 have h':((tl 2001 0 (pp [] t)).take 2001)[j]?=some z:=by
  unfold gM jM at h;rw [aAI,List.length_nil,Nat.sub_zero] at h;exact h
 have hj:(tl 2001 0 (pp [] t))[j]?=some z:=by
  obtain⟨hl,hv⟩:=m8.1 h';rw [aAG] at hl;rw [List.getElem_take] at hv;exact m8.2 ⟨by omega,hv⟩
 have:=bE2 _ _ _ _ _ hj;omega
theorem aP3{c f:Bool}{p:Way}{t:Tr}{i g:Nat}(h:bR c f p t i g=0)(hk:t.f.k=7):t.f.n=(g:Int)+1:=by
 obtain⟨h1,h2,h3⟩:=iP h;exact(gR.1 ⟨(by rw [hk];rfl),h2,h3⟩).2 hk
def RG(c f:Bool)(pre:List El):Prop:=∀ (j:Nat) (y:El),pre[j]?=some y->bR c f y.1 y.2 j (aN (pre.take j))=0
theorem RG.nil(c f:Bool):RG c f []:=fun j y h=>by simp at h
theorem RG.step{c f:Bool}{pre:List El}{x:El}(h:RG c f pre)(hx:bR c f x.1 x.2 pre.length (aN pre)=0):RG c f (pre++[x]):=fun j y hy=>by
 rcases Nat.lt_or_ge j pre.length with hj | hj
 ·rw [aAH hj] at hy;rw [List.take_append_of_le_length (by omega)];exact h j y hy
 ·rw [aAA hj] at hy;have h0:j-pre.length=0:=by
   rcases Nat.eq_zero_or_pos (j-pre.length) with z | z
   ·exact z
   ·rw [show j-pre.length=(j-pre.length-1)+1 by omega] at hy;simp at hy
  rw [h0] at hy;simp at hy;subst hy;have hj2:j=pre.length:=by omega
  subst hj2;rw [List.take_left];exact hx
theorem lE{c f:Bool}:∀ (a b:List El) (i g:Nat),(∀ (j:Nat) (y:El),a[j]?=some y->bR c f y.1 y.2 (i+j) (g+aN (a.take j))=0)->aZ c f i g (a++b)=aZ c f (i+a.length) (g+aN a) b
 | [],b,i,g,_=>by simp [aN]
 | x :: a,b,i,g,h=>by
  have h0:=h 0 x rfl;rw [aAL,aAJ] at h0;have h0':bR c f x.1 x.2 i g=0:=h0;have ih:=lE a b (i+1) (g+(if x.2.f.k=7 then 1 else 0)) (fun j y hy=>by
   have:=h (j+1) y (by rw [aAP];exact hy);rw [aBN,aN] at this;rw [show i+1+j=i+(j+1) by omega,aAU];exact this)
  rw [t4];simp only [aZ,h0',ne_eq,not_true,if_false];rw [ih,o7,aN,show i+1+a.length=i+(a.length+1) by omega,aAU]
theorem RG.stop{c f:Bool}{t:Tr}{j:Nat}{x:El}{m:Int}(h:RG c f ((pp [] t).take j))(hx:(pp [] t)[j]?=some x)(hm:bR c f x.1 x.2 j (aN ((pp [] t).take j))=m)(h0:m≠0):aZ c f 0 0 (pp [] t)=m:=by
 have hj:=(m8.1 hx).1;have e:pp [] t=(pp [] t).take j++x :: (pp [] t).drop (j+1):=by
  have:=aBG j (pp [] t);rw [aBO hj,(m8.1 hx).2] at this;exact this.symm
 have hl:((pp [] t).take j).length=j:=by rw [aAG];omega
 have hs:=lE ((pp [] t).take j) (x :: (pp [] t).drop (j+1)) 0 0 (fun k y hy=>by rw [m7,m7];exact h k y hy);rw [<- e,m7,m7,hl] at hs;rw [hs];simp only [aZ,hm,ne_eq,h0,not_false_eq_true,if_true]
theorem RG.all{c f:Bool}{t:Tr}(h:RG c f (pp [] t)):aZ c f 0 0 (pp [] t)=0:=by
 have hs:=lE (pp [] t) [] 0 0 (fun k y hy=>by rw [m7,m7];exact h k y hy);rw [t9] at hs;rw [hs]
 rfl
theorem pL{t:Tr}{j:Nat}{x:El}(hx:(pp [] t)[j]?=some x):(pp [] t).take j++[x] <+: pp [] t:=by
 have:(pp [] t).take (j+1)=(pp [] t).take j++[x]:=by rw [s7,hx];rfl
 rw [<- this];exact List.take_prefix _ _
theorem rU{t:Tr}{j k:Nat}{y:El}(h:((pp [] t).take j)[k]?=some y):(pp [] t)[k]?=some y:=by
 obtain⟨hl,hv⟩:=m8.1 h;rw [aAG] at hl;rw [List.getElem_take] at hv;exact m8.2 ⟨by omega,hv⟩
open Classical in
theorem aP5{c f:Bool}{p:Way}{t:Tr}{i g:Nat}(hbr:∀ par i r,p=(par,i) :: r->par.f.k=5->brP r=true):bR c f p t i g=if i=2000 then 42 else if 40<p.length+1 then 43 else if ¬ (bJ c f p t/\(t.f.k=7->t.f.n=(g:Int)+1)) then 50 else if t.f.k=7/\30<t.f.n then 42 else if t.f.k=8/\¬ (fJ p t.f.n=false/\t.f.n<=(g:Int)) then 41 else 0:=by
 unfold bR;simp only [yD hbr]
structure RS(w5:World)(t:Tr)(c f:Bool)(j gr:Nat)(v:Value)(W:World):Prop where
 le:j<=2000
 cnt:aN ((pp [] t).take j)=gr
 row:W.ownsRow w5.heap.size 3 1 v gr (fN ((fO 0 ((pp [] t).take j)).map Int.ofNat))
 bel:wBl w5 W
 ok:RG c f ((pp [] t).take j)
theorem RS.next{w5 W W':World}{t:Tr}{c f:Bool}{j gr:Nat}{v:Value}{x:El}(h:RS w5 t c f j gr v W)(hx:(pp [] t)[j]?=some x)(hj:j<2000)(h0:bR c f x.1 x.2 j gr=0)(hk:x.2.f.k≠7)(hb:wBl W W'):RS w5 t c f (j+1) gr v W':=by
 have hl:=(m8.1 hx).1;have hlen:((pp [] t).take j).length=j:=by rw [aAG];omega
 have e:(pp [] t).take (j+1)=(pp [] t).take j++[x]:=by rw [s7,hx];rfl
 refine⟨by omega,?_,?_,aG h.bel hb lz9,?_⟩
 ·rw [e,fQ,if_neg hk,h.cnt];rfl
 ·rw [e,rJ,if_neg hk,t9];exact aH h.row (Fr.of_below (S:=fun _=>False) hb) (fun _ _ z=>z)
 ·rw [e];refine h.ok.step ?_;rw [hlen,h.cnt];exact h0
theorem RS.group{w5 W W':World}{t:Tr}{c f:Bool}{j gr:Nat}{v v':Value}{x:El}(h:RS w5 t c f j gr v W)(hx:(pp [] t)[j]?=some x)(hj:j<2000)(h0:bR c f x.1 x.2 j gr=0)(hk:x.2.f.k=7)(hr:W'.ownsRow w5.heap.size 3 1 v' (gr+1) (fN ((fO 0 ((pp [] t).take j)).map Int.ofNat)++[.I (j:Int)]))(hb:wBl w5 W'):RS w5 t c f (j+1) (gr+1) v' W':=by
 have hl:=(m8.1 hx).1;have hlen:((pp [] t).take j).length=j:=by rw [aAG];omega
 have e:(pp [] t).take (j+1)=(pp [] t).take j++[x]:=by rw [s7,hx];rfl
 refine⟨by omega,?_,?_,hb,?_⟩
 ·rw [e,fQ,if_pos hk,h.cnt]
 ·rw [e,rJ,if_pos hk,hlen,aAK,vB];exact hr
 ·rw [e];refine h.ok.step ?_;rw [hlen,h.cnt];exact h0
theorem RS.back{w5 W:World}{t:Tr}{c f:Bool}{j gr:Nat}{v:Value}{x:El}(h:RS w5 t c f j gr v W)(hx:(pp [] t)[j]?=some x)(hj:j<2000){N:Nat}(hN:N<gr):∃ jj:Nat,(fO 0 ((pp [] t).take j))[N]?=some jj/\∃ y,(pp [] t)[jj]?=some y/\jj<j/\(fJ x.1 ((N:Int)+1)=false↔min (jj+y.2.sz) 2001<=j):=by
 have hl:=(m8.1 hx).1;have hlen:((pp [] t).take j).length=j:=by rw [aAG];omega
 have hg:N<(fO 0 ((pp [] t).take j)).length:=by rw [mR,h.cnt];exact hN
 obtain⟨jj,hjj⟩:∃ jj,(fO 0 ((pp [] t).take j))[N]?=some jj:=⟨_,g9 hg⟩;obtain⟨y,hy,hiff⟩:=bP2 (pL hx) (fun k z hz hk=>aP3 (h.ok k z hz) hk) (by omega) hjj;rw [hlen] at hiff;have:=(m8.1 hy).1;exact⟨jj,hjj,y,rU hy,by omega,hiff⟩
theorem sH{w:World}{t:Tr}(c f:Bool)(hta:TB w t)(hsm:∀ x∈pp [] t,x.2.f.rs.length<=1048580):Calls Tryz.prog 6 #[.agg (nDf t.f),.agg #[.bool c,.bool f]] w fun e w'=>e=.returned (.I (aZ c f 0 0 (pp [] t)))/\wBl w w':=by
 have B1:Hid (wBl w ((w.alloc (.cells (nDf t.f) 25)).alloc (.cells #[.bool c,.bool f] 27))):=(bz9).alloc (by simp) _;have N1:Hid (BoxN ((w.alloc (.cells (nDf t.f) 25)).alloc (.cells #[.bool c,.bool f] 27)) w.heap.size t.f):=(Below.heap_alloc _ _ _ (by simp)).trans (aD w _);have M1:Hid (((w.alloc (.cells (nDf t.f) 25)).alloc (.cells #[.bool c,.bool f] 27)).heap[w.heap.size+1]?=some (.cells #[.bool c,.bool f] 27 (0,0))):=(by
  have:=aD (w.alloc (.cells (nDf t.f) 25)) (.cells #[.bool c,.bool f] 27);rwa [v9] at this)
 have HTA:=aA hta;have HSM:=aA hsm;obtain⟨R,hR⟩:∃ R,aZ c f 0 0 (pp [] t)=R:=⟨_,rfl⟩;rw [hR];have HR:=aA hR;clear hta hsm hR;go_enter Tryz.func6,Tryz.ntmps6;go_upto_region 1 with fail
 generalize ((w.alloc (.cells (nDf t.f) 25)).alloc (.cells #[.bool c,.bool f] 27))=W1 at B1 N1 M1 ⊢;generalize w.heap.size+1=bm at M1 ⊢;obtain⟨c0,c1,c2,c3,c4,c5⟩:=N1.o.six;simp only [m7] at c1 c2 c3 c4 c5;have LA:=aA (sW (w:=W1) 2001 (by omega) (HTA.o.kept B1.o));have HZL:=aA (jO 2001 t);have HZM:=aA (jN 2001 t);have HTO:=aA (fun (j:Nat) (z:Zl) (h:(gM 2001 t)[j]?=some z)=>bA9 h);have hz:=jO 2001 t;have hzl:(gM 2001 t).length<=2001:=by omega
 clear hz;generalize gM 2001 t=Z at LA HZL HZM HTO hzl;go_upto_region 5 with (go_at_call 19;refine(LA.o).mono ?_;rintro e w5 ⟨q5,k5,rfl,h51,h52⟩;have Z5:=aA h51;have B5:=aA h52;clear h51 h52)
 have M5:=aA ((B5.o.block _ (aC M1.o)).trans M1.o);have B6:=aA (aG B1.o B5.o lz9);clear c0 c1 c2 c3 c4 c5 LA B1 B5 N1 M1;go_loopw [8,7,6] (fun i v g wr=>∃ (j gr:Nat) (q:Option Addr) (ca:Nat),j<=Z.length/\i=.I (j:Int)/\v=.slice q gr ca/\g=.I (gr:Int)/\RS w5 t c f j gr (.slice q gr ca) wr) (fun i _ _ _=>Z.length-(intOf i).toNat)
 case atStart=>exact⟨0,0,none,0,o9 _,rfl,rfl,rfl,⟨o9 _,rfl,aAY _ _ _ _,Below.refl _ _,RG.nil c f⟩⟩
 case round=>
  obtain⟨j,gr,q,ca,hj,rfl,rfl,rfl,hs⟩:=hrel;have HS:=aA hs;have hgr:gr<=2000:=by
   have h1:=hs.cnt;have h2:=tC ((pp [] t).take j);rw [aAG] at h2;have:=hs.le;omega
  have hj2:=hs.le;clear hs;by_cases hjl:j<Z.length
  case neg=>
   have i0:¬ (j:Int)<(Z.length:Int):=by omega
   have HD:=aA (show R=0 by
    rw [<- HR.o];have h1:=HZL.o;have h2:=HS.o.ok;rw [o4 (by omega)] at h2;exact h2.all)
   have BX:=aA (aG B6.o HS.o.bel lz9);clear hjl;go_wp2;go_ret;exact⟨congrArg (fun z=>Ending.returned (.I z)) HD.o.symm,BX.o⟩
  have i0:(j:Int)<(Z.length:Int):=by omega
  obtain⟨⟨x,o⟩,hx⟩:∃ z,Z[j]?=some z:=⟨_,g9 hjl⟩;obtain⟨ga,cz,hq⟩:=aO Z5.o (by omega);injection hq with hq1 _ hq2;subst hq1 hq2;have YA:ZR W1.heap.size wr (.slice (some (aDr ga 0)) Z.length k5) Z:=aH Z5.o (Fr.of_below (S:=fun _=>False) HS.o.bel) (fun _ _ z=>z);have x0:wr.cell? ⟨ga,j*12,none⟩=some (.I x.2.f.k):=YA.cells hx (j:=0) rfl;have x1:wr.cell? ⟨ga,j*12+1,none⟩=some (.I x.2.f.n):=YA.cells hx (j:=1) rfl;have x2:wr.cell? ⟨ga,j*12+2,none⟩=some (.I x.2.f.mn):=YA.cells hx (j:=2) rfl;have x3:wr.cell? ⟨ga,j*12+3,none⟩=some (.I x.2.f.mx):=YA.cells hx (j:=3) rfl;have x4:wr.cell? ⟨ga,j*12+4,none⟩=some (.slice x.2.f.rq x.2.f.rs.length x.2.f.rc):=YA.cells hx (j:=4) rfl;have x5:wr.cell? ⟨ga,j*12+5,none⟩=some (.slice x.2.f.kq x.2.f.kl x.2.f.kc):=YA.cells hx (j:=5) rfl;have x6:wr.cell? ⟨ga,j*12+6,none⟩=some (.I ((x.1.length:Int)+1)):=YA.cells hx (j:=6) rfl;have x7:wr.cell? ⟨ga,j*12+7,none⟩=some (.I (arP x.1)):=YA.cells hx (j:=7) rfl;have x8:wr.cell? ⟨ga,j*12+8,none⟩=some (.bool (fiP x.1)):=YA.cells hx (j:=8) rfl;have x9:wr.cell? ⟨ga,j*12+9,none⟩=some (.bool (laP x.1)):=YA.cells hx (j:=9) rfl;have x10:wr.cell? ⟨ga,j*12+10,none⟩=some (.bool (brP x.1)):=YA.cells hx (j:=10) rfl;have x11:wr.cell? ⟨ga,j*12+11,none⟩=some (.I (o:Int)):=YA.cells hx (j:=11) rfl;have hxt:(pp [] t)[j]?=some x:=rU (j:=2001) (by rw [<- HZM.o,aAO,hx];rfl);have HX:=aA hxt;have HBR:=aA (bP7 (pL hxt) HS.o.ok);have HST:=aA (fun (m:Int) (h:bR c f x.1 x.2 j gr=m) (h0:m≠0)=>HR.o.symm.trans (HS.o.ok.stop hxt (by rw [HS.o.cnt];exact h) h0));have BW:=aA (aG B6.o HS.o.bel lz9);have HNA:=aA ((HTA.o.at (n8 hxt)).node.ck (CK.of_below BW.o));have HSL:=aA (HSM.o x (n8 hxt));have MW:=aA ((HS.o.bel.block _ (aC M5.o)).trans M5.o);have hdp:=qZ (t:=t) (pre:=(pp [] t).take j) (x:=x) (pL hxt);rw [aAG] at hdp;have hdp2:x.1.length<=2001:=by omega
  have lga:ga<wr.heap.size:=(aF YA (g:=ga) rfl).2.1;have HYA:=aA YA;clear hx hxt YA hdp;go_upto_region 8 with fail
  have K2:=aA (show wBl wr (wr.alloc (.cells #[.I x.2.f.k,.I x.2.f.n,.I x.2.f.mn,.I x.2.f.mx,.slice x.2.f.rq x.2.f.rs.length x.2.f.rc,.slice x.2.f.kq x.2.f.kl x.2.f.kc,.I ((x.1.length:Int)+1),.I (arP x.1),.bool (fiP x.1),.bool (laP x.1),.bool (brP x.1),.I (o:Int)] 56)) from bz9);have P2:=aA (aD wr (.cells #[.I x.2.f.k,.I x.2.f.n,.I x.2.f.mn,.I x.2.f.mx,.slice x.2.f.rq x.2.f.rs.length x.2.f.rc,.slice x.2.f.kq x.2.f.kl x.2.f.kc,.I ((x.1.length:Int)+1),.I (arP x.1),.bool (fiP x.1),.bool (laP x.1),.bool (brP x.1),.I (o:Int)] 56));have M2:=aA ((K2.o.block _ (aC MW.o)).trans MW.o);have A2:=aA (HNA.o.ck (CK.of_below K2.o));clear x0 x1 x2 x3 x4 x5 x6 x7 x8 x9 x10 x11;generalize (wr.alloc (.cells #[.I x.2.f.k,.I x.2.f.n,.I x.2.f.mn,.I x.2.f.mx,.slice x.2.f.rq x.2.f.rs.length x.2.f.rc,.slice x.2.f.kq x.2.f.kl x.2.f.kc,.I ((x.1.length:Int)+1),.I (arP x.1),.bool (fiP x.1),.bool (laP x.1),.bool (brP x.1),.I (o:Int)] 56))=W2 at K2 P2 M2 A2 ⊢;obtain⟨b8,hb8⟩:∃ b8,wr.heap.size=b8:=⟨_,rfl⟩;have HNB:=aA (show (Value.slice q gr ca).ownBlock≠some wr.heap.size from fun e=>absurd (aF HS.o.row e).2.1 (Nat.lt_irrefl _));rw [hb8] at P2 HNB ⊢;clear hb8;have B2:=aA (aG BW.o K2.o lz9);have p0:W2.cell? (aDr b8 0)=some (.I x.2.f.k):=aB P2.o (i:=0) rfl;have p1:W2.cell? (aDr b8 1)=some (.I x.2.f.n):=aB P2.o (i:=1) rfl;have p2:W2.cell? (aDr b8 2)=some (.I x.2.f.mn):=aB P2.o (i:=2) rfl;have p3:W2.cell? (aDr b8 3)=some (.I x.2.f.mx):=aB P2.o (i:=3) rfl;have p4:W2.cell? (aDr b8 4)=some (.slice x.2.f.rq x.2.f.rs.length x.2.f.rc):=aB P2.o (i:=4) rfl;have p5:W2.cell? (aDr b8 5)=some (.slice x.2.f.kq x.2.f.kl x.2.f.kc):=aB P2.o (i:=5) rfl;have p6:W2.cell? (aDr b8 6)=some (.I ((x.1.length:Int)+1)):=aB P2.o (i:=6) rfl;have p7:W2.cell? (aDr b8 7)=some (.I (arP x.1)):=aB P2.o (i:=7) rfl;have p8:W2.cell? (aDr b8 8)=some (.bool (fiP x.1)):=aB P2.o (i:=8) rfl;have p9:W2.cell? (aDr b8 9)=some (.bool (laP x.1)):=aB P2.o (i:=9) rfl;have p10:W2.cell? (aDr b8 10)=some (.bool (brP x.1)):=aB P2.o (i:=10) rfl;have p11:W2.cell? (aDr b8 11)=some (.I (o:Int)):=aB P2.o (i:=11) rfl;have m0:W2.cell? (aDr bm 0)=some (.bool c):=aB M2.o (i:=0) rfl;have m1:W2.cell? (aDr bm 1)=some (.bool f):=aB M2.o (i:=1) rfl;by_cases h2000:j=2000
  ·have e1:(2000:Int)<=(j:Int):=by omega
   have HD:=aA (show R=42 from HST.o 42 (by unfold bR;rw [if_pos h2000]) (by decide));clear h2000;go_wp2;go_ret;exact⟨congrArg (fun z=>Ending.returned (.I z)) HD.o.symm,B2.o⟩
  have e1:¬ (2000:Int)<=(j:Int):=by omega
  have hj3:j<2000:=by omega
  by_cases h40:40<x.1.length+1
  ·have e2:(40:Int)<(x.1.length:Int)+1:=by omega
   have HD:=aA (show R=43 from HST.o 43 (by unfold bR;rw [if_neg h2000,if_pos h40]) (by decide));clear h2000 h40;go_wp2;go_ret;exact⟨congrArg (fun z=>Ending.returned (.I z)) HD.o.symm,B2.o⟩
  have e2:¬ (40:Int)<(x.1.length:Int)+1:=by omega
  have FM:=aA (aY4 x.1 x.2 o c f A2.o HSL.o);have HL:=aA (show bR c f x.1 x.2 j gr=_ by rw [aP5 HBR.o,if_neg h2000,if_neg h40]);clear h2000 h40;go_upto_region 13 with (go_at_call 20;(with_reducible refine(FM.o).mono ?_);rintro e W3 ⟨b3,rfl,hb3,h3⟩;have I3:=aA hb3;have B3:=aA h3;clear hb3 h3)
  have K3:=aA (aG K2.o B3.o lz9);have BZ:=aA (aG B2.o B3.o lz9);have P3:=aA ((B3.o.block _ (aC P2.o)).trans P2.o);clear m0 m1 p0 p1 p2 p3 p4 p5 p6 p7 p8 p9 p10 p11 FM e2;have p0:W3.cell? (aDr b8 0)=some (.I x.2.f.k):=aB P3.o (i:=0) rfl;have p1:W3.cell? (aDr b8 1)=some (.I x.2.f.n):=aB P3.o (i:=1) rfl
  cases b3 with
  | false=>
   have HD:=aA (show R=50 from HST.o 50 (by rw [HL.o,if_pos (fun z=>by cases I3.o.2 z.1)]) (by decide));go_wp2;go_ret;exact⟨congrArg (fun z=>Ending.returned (.I z)) HD.o.symm,BZ.o⟩
  | true=>
   have HF:=aA (I3.o.1 rfl);by_cases h7:x.2.f.k=7
   ·have e7:(x.2.f.k==7)=true:=beq_iff_eq.2 h7;have e8:(x.2.f.k==8)=false:=n7.2 (by omega);have H7:=aA h7;clear h7;by_cases hn:x.2.f.n=(gr:Int)+1
    case neg=>
     have en:(x.2.f.n != (gr:Int)+1)=true:=bne_iff_ne.2 hn;have HD:=aA (show R=50 from HST.o 50 (by rw [HL.o,if_pos (fun z=>hn (z.2 H7.o))]) (by decide));clear hn;go_wp2;go_ret;exact⟨congrArg (fun z=>Ending.returned (.I z)) HD.o.symm,BZ.o⟩
    have en:(x.2.f.n != (gr:Int)+1)=false:=(by simpa using hn);have HN:=aA hn;clear hn;have R3:=aA (aH HS.o.row (Fr.of_below (S:=fun _=>False) K3.o) (fun _ _ z=>z));have S3:=aA (show w5.heap.size<=W3.heap.size from o0 HS.o.bel.size K3.o.size);obtain⟨t0,hi,hz0,hz1,hz2⟩:=aR gU;generalize hgp:fN ((fO 0 ((pp [] t).take j)).map Int.ofNat)=GP at R3;have HGP:=aA hgp;clear hgp;go_upto_region 18 with (at_builtin;refine wpList_append_own_at _ rfl _ _ 35 rfl w5.heap.size 3 t0 (.I 0) 1 8 gP hi hz0 hz1 hz2 rfl (by decide) (.slice q gr ca) gr GP rfl (aAB R3.o (.cells #[.I (j:Int)] 3)) (aDr W3.heap.size 0) 1 1 [.I (j:Int)] rfl rfl (bO7 _ _ _) (by simp [Value.oneCell']) (by unfold maxLen;omega) (by omega) (by have:=S3.o;simp;omega) ?_;intro v' w6 hown' hgrow _ hblk;obtain⟨g6,cap6,rfl⟩:=aO hown' (aBK _);have O6:=aA hown';have G6:=aA hgrow;clear hown' hgrow hblk)
    have L6:=aA (show wBl w5 w6 from bB (aG HS.o.bel K3.o lz9) (((Fr.refl (fun z=>(Value.slice q gr ca).ownBlock=some z) W3).alloc (.cells #[.I (j:Int)] 3)).grown G6.o (fun z hz=>hz)) lz9 (fun z hz=>(aF R3.o hz).1));have P6:=aA (show w6.heap[b8]?=some (.cells #[.I x.2.f.k,.I x.2.f.n,.I x.2.f.mn,.I x.2.f.mx,.slice x.2.f.rq x.2.f.rs.length x.2.f.rc,.slice x.2.f.kq x.2.f.kl x.2.f.kc,.I ((x.1.length:Int)+1),.I (arP x.1),.bool (fiP x.1),.bool (laP x.1),.bool (brP x.1),.I (o:Int)] 56 (0,0)) from (G6.o.block _ (by simp;have:=aC P3.o;omega) (fun e=>HNB.o e.symm)).trans ((Below.heap_alloc _ _ _ (aC P3.o)).trans P3.o));have p0':w6.cell? (aDr b8 0)=some (.I x.2.f.k):=aB P6.o (i:=0) rfl;clear p0 p1;by_cases h30:30<gr+1
    ·have e3:(30:Int)<(gr:Int)+1:=by omega
     have HD:=aA (show R=42 from HST.o 42 (by rw [HL.o,if_neg (fun z=>z ⟨HF.o,fun _=>HN.o⟩),if_pos ⟨H7.o,by rw [HN.o];exact e3⟩]) (by decide));have BX:=aA (aG B6.o L6.o lz9);clear h30;go_wp2;go_ret;exact⟨congrArg (fun z=>Ending.returned (.I z)) HD.o.symm,BX.o⟩
    have e3:¬ (30:Int)<(gr:Int)+1:=(by omega);have HD:=aA (show bR c f x.1 x.2 j gr=0 by rw [HL.o,if_neg (fun z=>z ⟨HF.o,fun _=>HN.o⟩),if_neg (fun z=>e3 (by have:=z.2;rw [HN.o] at this;exact this)),if_neg (fun z=>by have:=z.1;rw [H7.o] at this;cases this)]);clear h30;go_wp2;go_roundw
    case rel=>exact⟨j+1,gr+1,_,_,by omega,by go_num,rfl,by go_num,HS.o.group HX.o hj3 HD.o H7.o (by rw [HGP.o];exact O6.o) L6.o⟩
    case measure=>simp only [intOf];omega
   have e7:(x.2.f.k==7)=false:=n7.2 h7;by_cases h8:x.2.f.k=8
   case neg=>
    have e8:(x.2.f.k==8)=false:=n7.2 h8;have HD:=aA (show bR c f x.1 x.2 j gr=0 by rw [HL.o,if_neg (fun z=>z ⟨HF.o,fun q=>absurd q h7⟩),if_neg (fun z=>h7 z.1),if_neg (fun z=>h8 z.1)]);have H7:=aA h7;clear h7 h8;go_wp2;go_roundw
    case rel=>exact⟨j+1,gr,_,_,by omega,by go_num,rfl,rfl,HS.o.next HX.o hj3 HD.o H7.o K3.o⟩
    case measure=>simp only [intOf];omega
   have e8:(x.2.f.k==8)=true:=beq_iff_eq.2 h8;have HL8:=aA (show bR c f x.1 x.2 j gr=_ by rw [HL.o,if_neg (fun z=>z ⟨HF.o,fun q=>absurd q h7⟩),if_neg (fun z=>h7 z.1)]);have hn1:1<=x.2.f.n:=by
    have:=HF.o.2;unfold dN at this;rw [if_neg (by omega),if_neg (by omega),if_neg (by omega),if_neg (by omega),if_pos h8] at this;exact this.1.1
   have H7:=aA h7;have H8:=aA h8;clear h7 h8 HL;by_cases hg:x.2.f.n<=(gr:Int)
   case neg=>
    have eg:(gr:Int)<x.2.f.n:=(by omega);have HD:=aA (show R=41 from HST.o 41 (by rw [HL8.o,if_pos ⟨H8.o,fun z=>hg z.2⟩]) (by decide));clear hg hn1;go_wp2;go_ret;exact⟨congrArg (fun z=>Ending.returned (.I z)) HD.o.symm,BZ.o⟩
   have eg:¬ (gr:Int)<x.2.f.n:=by omega
   obtain⟨N,hN⟩:∃ N:Nat,x.2.f.n=(N:Int)+1:=⟨(x.2.f.n-1).toNat,by omega⟩;have HN:=aA hN;have hNg:N<gr:=(by omega);have p1':W3.cell? (aDr b8 1)=some (.I ((N:Int)+1)):=(by rw [<- hN];exact p1);have eg':¬ (gr:Int)<(N:Int)+1:=(by omega);have hnn:x.2.f.n<=(gr:Int):=hg;have HNN:=aA hnn;clear p1 eg hg hn1 hN hnn;obtain⟨jj,hjj,y,hy,hjj2,hiff⟩:=HS.o.back HX.o hj3 hNg;have R3:=aH HS.o.row (Fr.of_below (S:=fun _=>False) K3.o) (fun _ _ z=>z);obtain⟨gb,cb,hqb⟩:=aO R3 (by omega);injection hqb with hqb1 _ hqb2;subst hqb1 hqb2;have a0:W3.cell? (aDr gb N)=some (.I (jj:Int)):=by
    have:=aP R3 (j:=N) (u:=.I (jj:Int)) (aQ3 (by rw [aAO,hjj];rfl));exact this
   obtain⟨zz,hzz⟩:∃ zz,Z[jj]?=some zz:=⟨_,g9 (by omega)⟩;have hyz:zz.1=y:=by
    have h1:(pp [] t)[jj]?=some zz.1:=rU (j:=2001) (by rw [<- HZM.o,aAO,hzz];rfl);rw [hy] at h1;exact(aAE h1).symm
   have hto:=HTO.o jj zz hzz;rw [hyz] at hto;rw [<- hto] at hiff;have Y3:ZR W1.heap.size W3 (.slice (some (aDr ga 0)) Z.length k5) Z:=aH HYA.o (Fr.of_below (S:=fun _=>False) K3.o) (fun _ _ z=>z);have a1:W3.cell? ⟨ga,jj*12+11,none⟩=some (.I (zz.2:Int)):=Y3.cells hzz (j:=11) rfl;generalize zz.2=tt at a1 hto hiff;have lgb:gb<W3.heap.size:=(aF R3 (g:=gb) rfl).2.1;have HIF:=aA hiff;have hjz:jj<Z.length:=(by omega);clear R3 Y3 hjj hy hzz hyz hto hiff;by_cases hto:tt<=j
   ·have et:¬ (j:Int)<(tt:Int):=by omega
    have HD:=aA (show bR c f x.1 x.2 j gr=0 by rw [HL8.o,if_neg (fun z=>z.2 ⟨by rw [HN.o];exact HIF.o.2 hto,HNN.o⟩)]);clear hto;go_wp2;go_roundw
    case rel=>exact⟨j+1,gr,_,_,by omega,by go_num,rfl,rfl,HS.o.next HX.o hj3 HD.o H7.o K3.o⟩
    case measure=>simp only [intOf];omega
   ·have et:(j:Int)<(tt:Int):=by omega
    have HD:=aA (show R=41 from HST.o 41 (by rw [HL8.o,if_pos ⟨H8.o,fun z=>hto (HIF.o.1 (by rw [<- HN.o];exact z.1))⟩]) (by decide));clear hto;go_wp2;go_ret;exact⟨congrArg (fun z=>Ending.returned (.I z)) HD.o.symm,BZ.o⟩
end
section
attribute [local go_sem] Oper.semAt_some aU
def Sm(t:Tr):Prop:=∀ x∈pp [] t,x.2.f.rs.length<=1048580
theorem aC6{w:World}{t:Tr}(c o:Bool)(hta:TB w t)(hsm:Sm t):Calls Tryz.prog 24 #[.agg (nDf t.f),.agg #[.bool c,.bool o]] w fun e w'=>e=.returned (.bool (decide (aZ c o 0 0 (pp [] t)=0)))/\wBl w w':=by
 have B1:Hid (wBl w ((w.alloc (.cells (nDf t.f) 25)).alloc (.cells #[.bool c,.bool o] 27))):=(bz9).alloc (by simp) _;have X1:Hid (BoxN ((w.alloc (.cells (nDf t.f) 25)).alloc (.cells #[.bool c,.bool o] 27)) w.heap.size t.f):=(Below.heap_alloc _ _ _ (by simp)).trans (aD w _);have X2:Hid (((w.alloc (.cells (nDf t.f) 25)).alloc (.cells #[.bool c,.bool o] 27)).heap[w.heap.size+1]?=some (.cells #[.bool c,.bool o] 27 (0,0))):=nF _ (by simp only [v9]);have HTA:=aA hta;have HSM:=aA hsm;clear hta hsm;go_enter Tryz.func24,Tryz.ntmps24;go_upto_region 1 with fail
 generalize ((w.alloc (.cells (nDf t.f) 25)).alloc (.cells #[.bool c,.bool o] 27))=w1 at B1 X1 X2 ⊢;obtain⟨n0,n1,n2,n3,n4,n5⟩:=X1.o.six;simp only [m7] at n1 n2 n3 n4 n5;have a0:=aB X2.o (i:=0) rfl;have a1:=aB X2.o (i:=1) rfl;have RT:=aA (sH c o (HTA.o.kept B1.o) HSM.o);obtain⟨r,hr⟩:∃ r,aZ c o 0 0 (pp [] t)=r:=⟨_,rfl⟩;have HR:=aA hr;rw [hr] at RT;clear hr;go_wp2_with (go_at_call 6;refine(RT.o).mono ?_;rintro e w2 ⟨rfl,h2⟩;have B2:=aA (aG B1.o h2 lz9);clear h2)
 go_ret;refine⟨?_,B2.o⟩;rw [HR.o];by_cases h:r=0
 ·subst h;rfl
 ·have h1:(r==0)=false:=by simpa using h
  simp [h,h1]
end
end Go.Proofs.YtlamifbjklpdbaaGreat
