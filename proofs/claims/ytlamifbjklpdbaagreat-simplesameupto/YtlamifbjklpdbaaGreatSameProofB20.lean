/-
  Parts of the proof.
-/
import Derived.Test.YtlamifbjklpdbaaGreatSameProofA0
import Derived.Test.YtlamifbjklpdbaaGreatSameProofB19
import Derived.Test.YtlamifbjklpdbaaGreatSameProofB18
import Derived.Test.YtlamifbjklpdbaaGreatSameProofB16
import Derived.Test.YtlamifbjklpdbaaGreatSameProofB8
import Derived.Test.YtlamifbjklpdbaaGreatSameProofB0
import Derived.Test.YtlamifbjklpdbaaGreatSameProofB17
import Derived.Deep.RegionWith
set_option maxRecDepth 100000
set_option maxHeartbeats 8000000
namespace Go.Proofs.YtlamifbjklpdbaaGreat
open Go Go.RowKit
section
attribute [local go_sem] Oper.semAt_some aU
def sG(c:Bool)(t:Tr):Int:=evG (kV c) (fun _=>0) t
theorem aL4(c:Bool)(t:Tr):sG c t=min (fG c t.f (t.ks.map (sG c))) 10001:=by
 have:=bM7 (ρ:=kV c) (fun _=>0) t;rw [aR6] at this;exact this
theorem yY(c o:Bool):∀ (m:Nat) (t:Tr),t.sz<=m->t.sz<=2000->bF (NP c o) t->jB (sG c t)
 | 0,t,h,_,_=>absurd h (by have:=dO t;omega)
 | m+1,t,h,h2,hev=>by
  have hx:∀ x∈t.ks.map (sG c),jB x:=fun x hx=>by
   obtain⟨u,hu,rfl⟩:=s4.1 hx;exact yY c o m u (by have:=bW hu;omega) (by have:=bW hu;omega) (cB hev hu)
  have:=aB4 t (t.ks.map (sG c)) (fun _=>0) ((aI t).1 hev).1 (by simp) hx (fun _=>⟨by omega,by omega⟩);rw [aL4];exact this
theorem aJ8{l:List Tr}{p:Tr->Int}{j:Nat}{x:Tr}(hx:l[j]?=some x):((l.take (j+1)).map p).sum=((l.take j).map p).sum+p x:=by
 rw [s7,hx,aBH,aAK,List.sum_append];simp
theorem bE9(c:Bool):∀ (m:Nat) (t:Tr),t.sz<=m->∀ g,(ev (kV c) g t).1=sG c t
 | 0,t,h=>absurd h (by have:=dO t;omega)
 | m+1,t,h=>fun g=>by
  have hs:∀ (ks:List Tr),(∀ u∈ks,∀ g,(ev (kV c) g u).1=sG c u)->∀ g,(evs (kV c) g ks).1=ks.map (sG c):=fun ks=>by
   induction ks with
   | nil=>intro _ g;rw [bB4];rfl
   | cons u ks ih=>
    intro h g;rw [aR5,s6,h u (by simp) g];simp only;rw [ih (fun v hv=>h v (by simp [hv]))]
  rw [bM6,aL4,hs t.ks (fun u hu=>bE9 c m u (by have:=bW hu;omega))]
  rfl
theorem bG2(c o:Bool)(t:Tr):tvI (kV c) c o t=if aZ c o 0 0 (pp [] t)=0 then sG c t else 0:=by
 unfold tvI;rw [bE9 c t.sz t lz9]
def wN(c:Bool)(l:lIi):Int:=if c then wide l else 0
def nN(c:Bool)(l:lIi):Int:=if c then sQ l else if l.length=0 then 0 else 1
def hiN(c:Bool)(r:Int×Int):Bool:=c&&decide (127<r.2)
theorem aV1(c:Bool)(l:lIi)(r:Int×Int):wN c (l++[r])=if hiN c r then wN c l+16 else wN c l:=by
 unfold wN wide hiN;cases c
 ·simp
 ·by_cases h:127<r.2 <;> simp [h,List.filter_append];omega
theorem bA1(c:Bool)(l:lIi)(r:Int×Int):nN c (l++[r])=if hiN c r then nN c l else 1:=by
 unfold nN sQ hiN;cases c
 ·simp
 ·by_cases h:127<r.2
  ·have h2:decide (r.2<=127)=false:=by simp;omega
   have h3:decide (127<r.2)=true:=by simpa using h
   simp only [if_true,aCB,h3,List.any_append,aCC,List.any_nil,h2,Bool.or_false]
  ·have:r.2<=127:=by omega
   simp [h,this]
theorem bN5(c:Bool)(l:lIi):0<=wN c l/\wN c l<=16*(l.length:Int):=by
 unfold wN wide;cases c
 ·simp;omega
 ·have:=List.length_filter_le (fun r:Int×Int=>decide (127<r.2)) l;simp only [if_true];omega
theorem bO8(c:Bool)(l:lIi):0<=nN c l/\nN c l<=1:=by
 unfold nN sQ
 repeat' split
 all_goals omega
theorem aX2(c:Bool)(l:lIi):max (wN c l+nN c l) 1=tX c l:=by
 unfold wN nN tX;cases c
 ·simp only [Bool.false_eq_true,if_false];split <;> omega
 ·rfl
def Bx2(w V:World)(f:Fl)(c o:Bool):Prop:=wBl w V/\BoxN V w.heap.size f/\V.heap[w.heap.size+1]?=some (.cells #[.bool c,.bool o] 27 (0,0))
theorem Bx2.kept{w V V':World}{f:Fl}{c o:Bool}(h:Bx2 w V f c o)(hb:wBl V V'):Bx2 w V' f c o:=⟨aG h.1 hb lz9,(hb.block _ (aC h.2.1)).trans h.2.1,(hb.block _ (aC h.2.2)).trans h.2.2⟩
theorem aA0(c o:Bool):∀ (m:Nat) (t:Tr) (w:World),t.sz<=m->t.sz<=2000->TB w t->bF (NP c o) t->Calls Tryz.prog 25 #[.agg (nDf t.f),.agg #[.bool c,.bool o]] w fun e w'=>e=.returned (.I (sG c t))/\wBl w w'
 | 0,t,_,h,_,_,_=>absurd h (by have:=dO t;omega)
 | m+1,t,w,hm,hsz,hta,hev=>by
  have IH:Hid (∀ (u:Tr) (W:World),u∈t.ks->wBl w W->Calls Tryz.prog 25 #[.agg (nDf u.f),.agg #[.bool c,.bool o]] W fun e w'=>e=.returned (.I (sG c u))/\wBl W w'):=fun u W hu hW=>aA0 c o m u W (by have:=bW hu;omega) (by have:=bW hu;omega) ((hta.kept hW).kid hu) (cB hev hu);have GD:Hid (∀ u∈t.ks,jB (sG c u)):=fun u hu=>yY c o m u (by have:=bW hu;omega) (by have:=bW hu;omega) (cB hev hu);have hnp:NP c o t:=((aI t).1 hev).1;have hnb:=hta.node;have HNB:=aA hnb;have HKL:=aA hnb.kl;have HLN:Hid (t.ks.length<=2000):=by have h1:=eY t.ks;have h2:=dA t;exact aA (by omega)
  obtain⟨q1,cap1,eq1,-,-,hk3⟩:=hnb.k.slice;injection eq1 with eq1 eq2 eq3;subst eq1 eq3;have HK3:=aA hk3;have SM:Hid (∀ j,0<=((t.ks.take j).map (sG c)).sum/\((t.ks.take j).map (sG c)).sum<=20002000):=fun j=>by
   have h1:=aJ9 (l:=(t.ks.take j).map (sG c)) (fun x hx=>by
    obtain⟨u,hu,rfl⟩:=s4.1 hx;exact GD.o u (aAS hu))
   have h2:((t.ks.take j).map (sG c)).length<=2000:=by rw [aAC,aAG];have:=HLN.o;omega
   omega
  have X1:Hid (Bx2 w ((w.alloc (.cells (nDf t.f) 25)).alloc (.cells #[.bool c,.bool o] 27)) t.f c o):=⟨(bz9).alloc (by simp) _,(Below.heap_alloc _ _ _ (by simp)).trans (aD w _),nF _ (by simp only [v9])⟩;clear hta hev hnb hm hk3 eq2 hsz;go_enter Tryz.func25,Tryz.ntmps25;go_upto_region 3 with fail
  generalize hV:(w.alloc (.cells (nDf t.f) 25)).alloc (.cells #[.bool c,.bool o] 27)=V at X1 ⊢;clear hV;go_loopw [5,6] (fun s i wr=>∃ j:Nat,j<=t.ks.length/\s=.I ((t.ks.take j).map (sG c)).sum/\i=.I (j:Int)/\Bx2 w wr t.f c o) (fun _ i _=>t.ks.length-(intOf i).toNat)
  case atStart=>exact⟨0,o9 _,rfl,rfl,X1.o⟩
  case round=>
   obtain⟨j,hj,rfl,rfl,hx⟩:=hrel;have XW:=aA hx;clear hx;have hln:=HLN.o;obtain⟨S,hS⟩:∃ S,((t.ks.take j).map (sG c)).sum=S:=⟨_,rfl⟩;have hS1:=SM.o j;rw [hS] at hS1 ⊢;have HS:=aA hS;clear hS;obtain⟨n0,n1,n2,n3,n4,n5⟩:=XW.o.2.1.six;simp only [m7] at n1 n2 n3 n4 n5;have a0:=aB XW.o.2.2 (i:=0) rfl;have a1:=aB XW.o.2.2 (i:=1) rfl;by_cases hjl:j<t.ks.length
   ·obtain⟨u,hu⟩:∃ u,t.ks[j]?=some u:=⟨_,g9 hjl⟩;have hi:(j:Int)<(t.f.kl:Int):=(by rw [HKL.o];omega);have DN:=aA (aJ8 (p:=sG c) hu);have hin:=n8 hu;have hg:=GD.o u hin;obtain⟨X,hX⟩:∃ X,sG c u=X:=⟨_,rfl⟩;have CU:Hid (∀ W,wBl wr W->Calls Tryz.prog 25 #[.agg (nDf u.f),.agg #[.bool c,.bool o]] W fun e w'=>e=.returned (.I X)/\wBl W w'):=fun W hW=>by
     have:=IH.o u W hin (aG XW.o.1 hW lz9);rw [hX] at this;exact this
    rw [hX] at DN hg;rw [HS.o] at DN;unfold jB at hg;obtain⟨gq,off,hq,hgl,six⟩:=HK3.o j u hu;rw [hq] at n5;clear hq;obtain⟨c0,c1,c2,c3,c4,c5⟩:=six.ck (CK.of_below XW.o.1) hgl;have l0:w.heap.size<wr.heap.size:=aC XW.o.2.1;have l1:w.heap.size+1<wr.heap.size:=aC XW.o.2.2;have l2:gq<wr.heap.size:=(by omega);have w1:wrap64 (S+X)=S+X:=(by unfold wrap64;omega);have w2:IntKind.wrap .i64 (S+X)=S+X:=(by rw [IntKind.wrap_i64];omega);clear hu six hX;go_upto_region 5 with fail
    refine wx9 ?_
    repeat (go_big_quiet_step (first | exact rfl |(go_at_call 25;exact dJ (CU.o _ (nT _)))))
    refine wpQuiet_nil ?_;intro w3 hw;have X3:=aA (XW.o.kept (aM hw));clear hw;go_wp2;go_roundw
    case rel=>exact⟨j+1,by omega,by rw [DN.o],by go_num,X3.o⟩
    case measure=>simp only [intOf];omega
   ·have hi:¬ (j:Int)<(t.f.kl:Int):=by rw [HKL.o];omega
    have HSE:Hid ((t.ks.map (sG c)).sum=S):=(by have:=HS.o;rw [o4 (by omega)] at this;exact aA this);have HKI:(t.f.kl:Int)=(t.ks.length:Int):=(by rw [HKL.o]);have hv0:=aA (aL4 c t);clear HS;rcases aO1 hnp with hk | hk | hk | hk | hk | hk | hk | hk | hk
    ·have hv:Hid (sG c t=1):=aA (by rw [hv0.o,show fG c t.f (t.ks.map (sG c))=1 by unfold fG;rw [hk];simp];decide);have e2:(t.f.k==2)=false:=(by rw [hk];rfl);have e5:(t.f.k==5)=false:=(by rw [hk];rfl);have e6:(t.f.k==6)=false:=(by rw [hk];rfl);have e7:(t.f.k==7)=false:=(by rw [hk];rfl);have e9:(t.f.k==9)=false:=(by rw [hk];rfl);clear hk hnp;go_wp2;go_ret;exact⟨by rw [hv.o];rfl,XW.o.1⟩
    ·have hset:=bK3 hnp hk;have hk0:t.ks.length=0:=(by have:=hnp.1;unfold dN at this;rw [hk] at this;simp at this;simp [this.2.2.2.2]);have hS0:S=0:=(by rw [<- HSE.o,List.length_eq_zero_iff.1 hk0];rfl);subst hS0;have hrl:=mA hset.1;have hv:Hid (sG c t=min (max (wN c t.f.rs+nN c t.f.rs) 1) 10001):=aA (by rw [hv0.o,aX2];unfold fG;rw [hk];rfl);have HRL:=aA hrl;have e2:(t.f.k==2)=true:=(by rw [hk];rfl);have e5:(t.f.k==5)=false:=(by rw [hk];rfl);have e6:(t.f.k==6)=false:=(by rw [hk];rfl);have e7:(t.f.k==7)=false:=(by rw [hk];rfl);have e9:(t.f.k==9)=false:=(by rw [hk];rfl);clear hk hnp HKI hset hk0 hrl;go_upto_region 21 with fail
     clear n0 n1 n2 n3 n4 n5 a0 a1;go_loopw [5,8,9] (fun s l i wr=>∃ j:Nat,j<=t.f.rs.length/\s=.I (wN c (t.f.rs.take j))/\l=.I (nN c (t.f.rs.take j))/\i=.I (j:Int)/\Bx2 w wr t.f c o) (fun _ _ i _=>t.f.rs.length-(intOf i).toNat)
     case atStart=>exact⟨0,o9 _,by cases c <;> rfl,by cases c <;> rfl,rfl,XW.o⟩
     case round=>
      obtain⟨k,hkj,rfl,rfl,rfl,hx2⟩:=hrel;have XV:=aA hx2;clear hx2;have hrl:=HRL.o;obtain⟨A,hA⟩:∃ A,wN c (t.f.rs.take k)=A:=⟨_,rfl⟩;obtain⟨N,hN⟩:∃ N,nN c (t.f.rs.take k)=N:=⟨_,rfl⟩;have hA1:=bN5 c (t.f.rs.take k);have hN1:=bO8 c (t.f.rs.take k);have hlt:((t.f.rs.take k).length:Int)<=600000:=(by rw [aAG];omega);rw [hA] at hA1 ⊢;rw [hN] at hN1 ⊢;have HA:=aA hA;have HN:=aA hN;clear hA hN;obtain⟨n0,n1,n2,n3,n4,n5⟩:=XV.o.2.1.six;simp only [m7] at n1 n2 n3 n4 n5;have a0:=aB XV.o.2.2 (i:=0) rfl;have a1:=aB XV.o.2.2 (i:=1) rfl;by_cases hkl:k<t.f.rs.length
      ·obtain⟨⟨ra,rb⟩,hr⟩:∃ r,t.f.rs[k]?=some r:=⟨_,g9 hkl⟩;have hi2:(k:Int)<(t.f.rs.length:Int):=(by omega);have ht1:t.f.rs.take (k+1)=t.f.rs.take k++[(ra,rb)]:=(by rw [s7,hr];rfl);have D1:=aA (show wN c (t.f.rs.take (k+1))=if hiN c (ra,rb) then A+16 else A by rw [ht1,aV1,HA.o]);have D2:=aA (show nN c (t.f.rs.take (k+1))=if hiN c (ra,rb) then N else 1 by rw [ht1,bA1,HN.o]);have HAR:=aA (HNB.o.r.kept XV.o.1);obtain⟨q2,cap2,eq2,-,-,hcell⟩:=HAR.o.slice;injection eq2 with eq2 eq3 eq4;subst eq2 eq4;obtain⟨gr,off,hq,hgr,r0,r1⟩:=hcell k _ hr;rw [aBB] at r0 r1;simp only at r0 r1;rw [hq] at n4;have w1:wrap64 (A+16)=A+16:=(by unfold wrap64;omega);have w2:IntKind.wrap .i64 (A+16)=A+16:=(by rw [IntKind.wrap_i64];omega);clear hq hcell hr eq3 ht1
       cases c with
       | false=>
        rw [show hiN false (ra,rb)=false from rfl] at D1 D2;simp only [Bool.false_eq_true,if_false] at D1 D2;go_wp2;go_roundw
        case rel=>exact⟨k+1,by omega,by rw [D1.o],by rw [D2.o],by go_num,XV.o⟩
        case measure=>simp only [intOf];omega
       | true=>
        by_cases hh:127<rb
        ·have hd:decide (127<rb)=true:=by simpa using hh
         rw [show hiN true (ra,rb)=true by unfold hiN;rw [hd];rfl,if_pos rfl] at D1 D2;go_wp2;go_roundw
         case rel=>exact⟨k+1,by omega,by rw [D1.o],by rw [D2.o],by go_num,XV.o⟩
         case measure=>simp only [intOf];omega
        ·have hd:decide (127<rb)=false:=by simpa using hh
         rw [show hiN true (ra,rb)=false by unfold hiN;rw [hd];rfl] at D1 D2;simp only [Bool.false_eq_true,if_false] at D1 D2;go_wp2;go_roundw
         case rel=>exact⟨k+1,by omega,by rw [D1.o],by rw [D2.o],by go_num,XV.o⟩
         case measure=>simp only [intOf];omega
      ·have hi2:¬ (k:Int)<(t.f.rs.length:Int):=by omega
       have hv2:Hid (sG c t=min (max (A+N) 1) 10001):=by
        have h1:=HA.o;have h2:=HN.o;rw [o4 (by omega)] at h1 h2;exact aA (by rw [hv.o,h1,h2])
       have w1:wrap64 (A+N)=A+N:=(by unfold wrap64;omega);have w2:IntKind.wrap .i64 (A+N)=A+N:=(by rw [IntKind.wrap_i64];omega);go_wp2;go_ret;exact⟨by rw [hv2.o];rfl,XV.o.1⟩
    ·have hv:Hid (sG c t=1):=aA (by rw [hv0.o,show fG c t.f (t.ks.map (sG c))=1 by unfold fG;rw [hk];simp];decide);have e2:(t.f.k==2)=false:=(by rw [hk];rfl);have e5:(t.f.k==5)=false:=(by rw [hk];rfl);have e6:(t.f.k==6)=false:=(by rw [hk];rfl);have e7:(t.f.k==7)=false:=(by rw [hk];rfl);have e9:(t.f.k==9)=false:=(by rw [hk];rfl);clear hk hnp;go_wp2;go_ret;exact⟨by rw [hv.o];rfl,XW.o.1⟩
    ·have hv:Hid (sG c t=1):=aA (by rw [hv0.o,show fG c t.f (t.ks.map (sG c))=1 by unfold fG;rw [hk];simp];decide);have e2:(t.f.k==2)=false:=(by rw [hk];rfl);have e5:(t.f.k==5)=false:=(by rw [hk];rfl);have e6:(t.f.k==6)=false:=(by rw [hk];rfl);have e7:(t.f.k==7)=false:=(by rw [hk];rfl);have e9:(t.f.k==9)=false:=(by rw [hk];rfl);clear hk hnp;go_wp2;go_ret;exact⟨by rw [hv.o];rfl,XW.o.1⟩
    ·have hv:Hid (sG c t=min (S+(t.f.kl:Int)) 10001):=aA (by rw [hv0.o];unfold fG;rw [hk,HSE.o,aAC,HKI,Int.add_comm];rfl);have e2:(t.f.k==2)=false:=(by rw [hk];rfl);have e5:(t.f.k==5)=true:=(by rw [hk];rfl);have e6:(t.f.k==6)=false:=(by rw [hk];rfl);have e7:(t.f.k==7)=false:=(by rw [hk];rfl);have e9:(t.f.k==9)=false:=(by rw [hk];rfl);have w1:wrap64 (S+(t.f.kl:Int))=S+(t.f.kl:Int):=(by unfold wrap64;omega);have w2:IntKind.wrap .i64 (S+(t.f.kl:Int))=S+(t.f.kl:Int):=(by rw [IntKind.wrap_i64];omega);clear hk hnp HKI;go_wp2;go_ret;exact⟨by rw [hv.o];rfl,XW.o.1⟩
    ·have hv:Hid (sG c t=min (S+(t.f.kl:Int)) 10001):=aA (by rw [hv0.o];unfold fG;rw [hk,HSE.o,aAC,HKI,Int.add_comm];rfl);have e2:(t.f.k==2)=false:=(by rw [hk];rfl);have e5:(t.f.k==5)=false:=(by rw [hk];rfl);have e6:(t.f.k==6)=true:=(by rw [hk];rfl);have e7:(t.f.k==7)=false:=(by rw [hk];rfl);have e9:(t.f.k==9)=false:=(by rw [hk];rfl);have w1:wrap64 (S+(t.f.kl:Int))=S+(t.f.kl:Int):=(by unfold wrap64;omega);have w2:IntKind.wrap .i64 (S+(t.f.kl:Int))=S+(t.f.kl:Int):=(by rw [IntKind.wrap_i64];omega);clear hk hnp HKI;go_wp2;go_ret;exact⟨by rw [hv.o];rfl,XW.o.1⟩
    ·have hone:=aO0 hnp (.inl hk);have hv:Hid (sG c t=min (S+2) 10001):=aA (by
      rw [hv0.o];unfold fG;rw [hk,<- HSE.o];obtain⟨u,hu⟩:=List.length_eq_one_iff.1 hone;rw [hu];simp)
     have e2:(t.f.k==2)=false:=(by rw [hk];rfl);have e5:(t.f.k==5)=false:=(by rw [hk];rfl);have e6:(t.f.k==6)=false:=(by rw [hk];rfl);have e7:(t.f.k==7)=true:=(by rw [hk];rfl);have e9:(t.f.k==9)=false:=(by rw [hk];rfl);have w1:wrap64 (S+2)=S+2:=(by unfold wrap64;omega);have w2:IntKind.wrap .i64 (S+2)=S+2:=(by rw [IntKind.wrap_i64];omega);clear hk hnp HKI;go_wp2;go_ret;exact⟨by rw [hv.o];rfl,XW.o.1⟩
    ·have hv:Hid (sG c t=1):=aA (by rw [hv0.o,show fG c t.f (t.ks.map (sG c))=1 by unfold fG;rw [hk];simp];decide);have e2:(t.f.k==2)=false:=(by rw [hk];rfl);have e5:(t.f.k==5)=false:=(by rw [hk];rfl);have e6:(t.f.k==6)=false:=(by rw [hk];rfl);have e7:(t.f.k==7)=false:=(by rw [hk];rfl);have e9:(t.f.k==9)=false:=(by rw [hk];rfl);clear hk hnp;go_wp2;go_ret;exact⟨by rw [hv.o];rfl,XW.o.1⟩
    ·have hone:=aO0 hnp (.inr hk);have hbd:=aN9 hnp hk;have hb2:0<=t.f.mn/\t.f.mn<=255/\-1<=t.f.mx/\t.f.mx<=255:=by
      simp only [eX,aBY,Bool.or_eq_true,aBD,beq_iff_eq] at hbd;omega
     have hS9:S<=10001:=by
      rw [<- HSE.o];obtain⟨u,hu⟩:=List.length_eq_one_iff.1 hone;rw [hu];have:=GD.o u (by rw [hu];simp);unfold jB at this;simp;omega
     have hv:Hid (sG c t=min ((S+2)*lA t.f) 10001):=aA (by
      rw [hv0.o];unfold fG;rw [hk,<- HSE.o];obtain⟨u,hu⟩:=List.length_eq_one_iff.1 hone;rw [hu];simp)
     have e2:(t.f.k==2)=false:=(by rw [hk];rfl);have e5:(t.f.k==5)=false:=(by rw [hk];rfl);have e6:(t.f.k==6)=false:=(by rw [hk];rfl);have e7:(t.f.k==7)=false:=(by rw [hk];rfl);have e9:(t.f.k==9)=true:=(by rw [hk];rfl);clear hk hnp HKI hbd hone;have w1:wrap64 (S+2)=S+2:=(by unfold wrap64;omega);have w2:IntKind.wrap .i64 (S+2)=S+2:=(by rw [IntKind.wrap_i64];omega);by_cases hmx:t.f.mx=-1
     ·have q9:(t.f.mx==-1)=true:=by rw [hmx];rfl
      have hv2:Hid (sG c t=min ((S+2)*max (t.f.mn+1) 1) 10001):=aA (by rw [hv.o];unfold lA;rw [if_pos hmx,show max (t.f.mn+1) 1=t.f.mn+1 by omega]);have w3:wrap64 (t.f.mn+1)=t.f.mn+1:=(by unfold wrap64;omega);have w4:IntKind.wrap .i64 (t.f.mn+1)=t.f.mn+1:=(by rw [IntKind.wrap_i64];omega);have hm1:0<=(S+2)*max (t.f.mn+1) 1:=Int.mul_nonneg (by omega) (by omega);have hm2:(S+2)*max (t.f.mn+1) 1<=10003*256:=Int.mul_le_mul (by omega) (by omega) (by omega) (by omega);have w5:wrap64 ((S+2)*max (t.f.mn+1) 1)=(S+2)*max (t.f.mn+1) 1:=(by unfold wrap64;omega);have w6:IntKind.wrap .i64 ((S+2)*max (t.f.mn+1) 1)=(S+2)*max (t.f.mn+1) 1:=(by rw [IntKind.wrap_i64];omega);clear hmx hm1 hm2;go_wp2;go_ret;exact⟨by rw [hv2.o];rfl,XW.o.1⟩
     ·have q9:(t.f.mx==-1)=false:=by simpa using hmx
      have hv2:Hid (sG c t=min ((S+2)*max t.f.mx 1) 10001):=aA (by rw [hv.o];unfold lA;rw [if_neg hmx]);have hm1:0<=(S+2)*max t.f.mx 1:=Int.mul_nonneg (by omega) (by omega);have hm2:(S+2)*max t.f.mx 1<=10003*256:=Int.mul_le_mul (by omega) (by omega) (by omega) (by omega);have w5:wrap64 ((S+2)*max t.f.mx 1)=(S+2)*max t.f.mx 1:=(by unfold wrap64;omega);have w6:IntKind.wrap .i64 ((S+2)*max t.f.mx 1)=(S+2)*max t.f.mx 1:=(by rw [IntKind.wrap_i64];omega);clear hmx hm1 hm2;go_wp2;go_ret;exact⟨by rw [hv2.o];rfl,XW.o.1⟩
end
section
theorem zU(l:lIi)(c:Int):kR l c=true↔In l c:=by
 unfold kR In;simp
theorem hun(l:lIi)(c:Int):kR (unC l) c=true↔kR l c=true:=by rw [zU,zU,pE]
variable (c:Bool)
end
section
attribute [local go_sem] Oper.semAt_some
theorem Six.drew{W:World}{b o:Nat}{f:Fl}(h:Six W b o f):Six W.drew b o f:=h
def nE(f:Fl):Bool:=f.k==9&&f.mn==0&&f.mx==-1
theorem oG(f:Fl)(w:World):Calls Tryz.prog 67 #[.agg (nDf f)] w fun e w'=>e=.returned (.bool (nE f))/\wBl w w':=by
 have B1:Hid (wBl w (w.alloc (.cells (nDf f) 25))):=bz9;have N1:Hid (BoxN (w.alloc (.cells (nDf f) 25)) w.heap.size f):=aD w _;obtain⟨c0,c1,c2,c3,c4,c5⟩:=N1.o.six;simp only [m7] at c1 c2 c3 c4 c5;unfold nE
 cases h1:(f.k==9) with
 | false=>
  go_enter Tryz.func67,Tryz.ntmps67;go_wp2;go_ret;exact⟨rfl,B1.o⟩
 | true=>
  cases h2:(f.mn==0) with
  | false=>
   go_enter Tryz.func67,Tryz.ntmps67;go_wp2;go_ret;exact⟨rfl,B1.o⟩
  | true=>
   cases h3:(f.mx==-1) with
   | false=>
    go_enter Tryz.func67,Tryz.ntmps67;go_wp2;go_ret;exact⟨rfl,B1.o⟩
   | true=>
    go_enter Tryz.func67,Tryz.ntmps67;go_wp2;go_ret;exact⟨rfl,B1.o⟩
theorem iK(w:World)(f:Fl):∃ W,(w.alloc (.cells (nDf f) 25)).alloc (.cells #[.I 0,.I 0,.I 0,.I 0,.slice none 0 0,.slice none 0 0] 25)=W/\wBl w W/\BoxN W w.heap.size f/\W.heap[w.heap.size+1]?=some (.cells #[.I 0,.I 0,.I 0,.I 0,.slice none 0 0,.slice none 0 0] 25 (0,0)):=by
 refine⟨_,rfl,(bz9).alloc (by simp) _,(Below.heap_alloc _ _ _ (by simp)).trans (aD w _),?_⟩;have:=aD (w.alloc (.cells (nDf f) 25)) (.cells #[.I 0,.I 0,.I 0,.I 0,.slice none 0 0,.slice none 0 0] 25);rwa [v9] at this
theorem sY{t u:Tr}{w:World}(hta:TB w t)(hk:t.ks=[u]):∃ g off cap,t.f.kq=some (aDr g off)/\t.f.kl=1/\t.f.kc=cap/\g<w.heap.size/\Six w g off u.f:=by
 obtain⟨q,cap,e,h1,h2,h3⟩:=hta.node.k.slice;injection e with e1 e2 e3;obtain⟨g,off,hq,hl,hs⟩:=h3 0 u (by rw [hk];rfl);exact⟨g,off,cap,e1.trans hq,by rw [e2,hk];rfl,e3,hl,by simpa using hs⟩
theorem jH{R:Ending->World->Prop}{a:Act}{W:World}{b:Nat}{f:Fl}{e:Bool}(h:Six W b 0 f)(ha:a.tmps[2]?.getD undef=.pointer (some (aDr b 0)))(he:a.tmps[3]?.getD undef=.bool e)(hd:a.defers=[])(hR:R (.returned (.tuple #[.agg (nDf f),.bool e])) W):bodyPost Tryz.prog Tryz.f42 R .ret a W:=by
 obtain⟨z0,z1,z2,z3,z4,z5⟩:=h;simp only [m7] at z1 z2 z3 z4 z5;refine bodyPost_ret (v:=.tuple #[.agg (nDf f),.bool e]) ?_ hd hR;simp [results,Tryz.results42,go_sem,ha,he,z0,z1,z2,z3,z4,z5]
def bK1(f:Fl):Bool:=f.mn==1&&f.mx==1
theorem aD8{t u:Tr}{w:World}(hta:TB w t)(hk:t.ks=[u]):Calls Tryz.prog 42 #[.agg (nDf t.f)] w fun e w'=>e=.returned (.tuple #[.agg (nDf u.f),.bool (bK1 t.f)])/\wBl w w':=by
 obtain⟨g,off,cap,q1,q2,q3,hl,hs⟩:=sY hta hk;obtain⟨uf,hu⟩:∃ x,u.f=x:=⟨_,rfl⟩;rw [hu] at hs ⊢;clear hu hta hk;obtain⟨tf,tks⟩:=t;obtain⟨fk,fn,fmn,fmx,frs,frq,frc,fkq,fkl,fkc⟩:=tf;dsimp only [Tr.f] at *;subst q1 q2 q3;obtain⟨W,hW,B1,N1,R1⟩:=iK w ⟨fk,fn,fmn,fmx,frs,frq,frc,some (aDr g off),1,fkc⟩;have s1:=hs.ck (CK.of_below B1) hl;obtain⟨c0,c1,c2,c3,c4,c5⟩:=N1.six;simp only [m7] at c1 c2 c3 c4 c5;obtain⟨d0,d1,d2,d3,d4,d5⟩:=s1;have r0:=aB R1 (i:=0) rfl;have r1:=aB R1 (i:=1) rfl;have r2:=aB R1 (i:=2) rfl;have r3:=aB R1 (i:=3) rfl;have r4:=aB R1 (i:=4) rfl;have r5:=aB R1 (i:=5) rfl;have fz:=fun z=>aK R1 z;have P9:=aA (dP W (w.heap.size+1) 0 uf);have X9:=aA (dT (b:=w.heap.size+1) (o:=0) (f:=⟨0,0,0,0,[],none,0,none,0,0⟩) (g:=uf) ⟨r0,r1,r2,r3,r4,r5⟩);unfold cD at P9 X9;have BB:=aA B1;have hm:Hid (bK1 ⟨fk,fn,fmn,fmx,frs,frq,frc,some (aDr g off),1,fkc⟩=(fmn==1&&fmx==1)):=rfl;rw [hm.o];clear hs N1 R1 B1
 cases h1:(fmn==1) with
 | false=>
  go_enter Tryz.func42,Tryz.ntmps42;go_upto_region 1 with fail
  go_region
  all_goals go_wp2
  all_goals exact jH X9.o.drew rfl rfl rfl ⟨rfl,(bB BB.o P9.o lz9 (fun k e=>by omega)).drew⟩
 | true=>
  cases h2:(fmx==1) with
  | false=>
   go_enter Tryz.func42,Tryz.ntmps42;go_upto_region 1 with fail
   go_region
   all_goals go_wp2
   all_goals exact jH X9.o.drew rfl rfl rfl ⟨rfl,(bB BB.o P9.o lz9 (fun k e=>by omega)).drew⟩
  | true=>
   go_enter Tryz.func42,Tryz.ntmps42;go_upto_region 1 with fail
   go_region
   all_goals go_wp2
   all_goals exact jH X9.o.drew rfl rfl rfl ⟨rfl,(bB BB.o P9.o lz9 (fun k e=>by omega)).drew⟩
theorem lF{R:Ending->World->Prop}{a:Act}{W:World}{b:Nat}{f:Fl}{e:Bool}(h:Six W b 0 f)(ha:a.tmps[2]?.getD undef=.pointer (some (aDr b 0)))(he:a.tmps[3]?.getD undef=.bool e)(hd:a.defers=[])(hR:R (.returned (.tuple #[.agg (nDf f),.bool e])) W):bodyPost Tryz.prog Tryz.f45 R .ret a W:=by
 obtain⟨z0,z1,z2,z3,z4,z5⟩:=h;simp only [m7] at z1 z2 z3 z4 z5;refine bodyPost_ret (v:=.tuple #[.agg (nDf f),.bool e]) ?_ hd hR;simp [results,Tryz.results45,go_sem,ha,he,z0,z1,z2,z3,z4,z5]
theorem nH{t u:Tr}{w:World}(hta:TB w t)(hk:t.ks=[u]):Calls Tryz.prog 45 #[.agg (nDf t.f)] w fun e w'=>e=.returned (.tuple #[.agg #[.I 1,.I 0,.I 0,.I 0,.slice none 0 0,.slice none 0 0],.bool (u.f.k==1)])/\wBl w w':=by
 obtain⟨g,off,cap,q1,q2,q3,hl,hs⟩:=sY hta hk;obtain⟨uf,hu⟩:∃ x,u.f=x:=⟨_,rfl⟩;rw [hu] at hs ⊢;clear hu hta hk;obtain⟨tf,tks⟩:=t;obtain⟨fk,fn,fmn,fmx,frs,frq,frc,fkq,fkl,fkc⟩:=tf;dsimp only [Tr.f] at *;subst q1 q2 q3;obtain⟨W,hW,B1,N1,R1⟩:=iK w ⟨fk,fn,fmn,fmx,frs,frq,frc,some (aDr g off),1,fkc⟩;have s1:=hs.ck (CK.of_below B1) hl;obtain⟨c0,c1,c2,c3,c4,c5⟩:=N1.six;simp only [m7] at c1 c2 c3 c4 c5;obtain⟨d0,d1,d2,d3,d4,d5⟩:=s1;have r0:=aB R1 (i:=0) rfl;have r1:=aB R1 (i:=1) rfl;have r2:=aB R1 (i:=2) rfl;have r3:=aB R1 (i:=3) rfl;have r4:=aB R1 (i:=4) rfl;have r5:=aB R1 (i:=5) rfl;have fz:=fun z=>aK R1 z;have P9:=aA (dP W (w.heap.size+1) 0 (gB 1));have X9:=aA (dT (b:=w.heap.size+1) (o:=0) (f:=⟨0,0,0,0,[],none,0,none,0,0⟩) (g:=gB 1) ⟨r0,r1,r2,r3,r4,r5⟩);unfold cD at P9 X9;have BB:=aA B1;clear hs N1 R1 B1;obtain⟨b,hb⟩:∃ b,(uf.k==1)=b:=⟨_,rfl⟩;rw [hb];go_enter Tryz.func45,Tryz.ntmps45;go_upto_region 1 with fail
 go_region
 all_goals go_wp2
 all_goals exact lF X9.o.drew rfl rfl rfl ⟨rfl,(bB BB.o P9.o lz9 (fun k e=>by omega)).drew⟩
theorem pS{R:Ending->World->Prop}{a:Act}{W:World}{b:Nat}{f:Fl}{e:Bool}(h:Six W b 0 f)(ha:a.tmps[2]?.getD undef=.pointer (some (aDr b 0)))(he:a.tmps[3]?.getD undef=.bool e)(hd:a.defers=[])(hR:R (.returned (.tuple #[.agg (nDf f),.bool e])) W):bodyPost Tryz.prog Tryz.f44 R .ret a W:=by
 obtain⟨z0,z1,z2,z3,z4,z5⟩:=h;simp only [m7] at z1 z2 z3 z4 z5;refine bodyPost_ret (v:=.tuple #[.agg (nDf f),.bool e]) ?_ hd hR;simp [results,Tryz.results44,go_sem,ha,he,z0,z1,z2,z3,z4,z5]
theorem aO2{t:Tr}{w:World}(hta:TB w t):Calls Tryz.prog 44 #[.agg (nDf t.f)] w fun e w'=>e=.returned (.tuple #[.agg #[.I 1,.I 0,.I 0,.I 0,.slice none 0 0,.slice none 0 0],.bool (t.f.mx==0&&(((if 2000<(pp [] t).length then 0 else aN (pp [] t):Nat):Int)==0))])/\wBl w w':=by
 obtain⟨W,hW,B1,N1,R1⟩:=iK w t.f;obtain⟨c0,c1,c2,c3,c4,c5⟩:=N1.six;simp only [m7] at c1 c2 c3 c4 c5;have GC:=aA (aR0 (hta.kept B1));obtain⟨G,hG⟩:∃ G:Int,((if 2000<(pp [] t).length then 0 else aN (pp [] t):Nat):Int)=G:=⟨_,rfl⟩;rw [hG] at GC ⊢;have BB:=aA B1;have RR1:=aA R1;clear hG hta N1 R1 B1;obtain⟨tf,tks⟩:=t;obtain⟨fk,fn,fmn,fmx,frs,frq,frc,fkq,fkl,fkc⟩:=tf;dsimp only [Tr.f] at *;have hend:∀ W':World,wBl W W'->Hid (Six ((((((W'.setCell ⟨w.heap.size+1,0,none⟩ (.I 1)).setCell ⟨w.heap.size+1,1,none⟩ (.I 0)).setCell ⟨w.heap.size+1,2,none⟩ (.I 0)).setCell ⟨w.heap.size+1,3,none⟩ (.I 0)).setCell ⟨w.heap.size+1,4,none⟩ (.slice none 0 0)).setCell ⟨w.heap.size+1,5,none⟩ (.slice none 0 0)) (w.heap.size+1) 0 (gB 1)/\wBl w ((((((W'.setCell ⟨w.heap.size+1,0,none⟩ (.I 1)).setCell ⟨w.heap.size+1,1,none⟩ (.I 0)).setCell ⟨w.heap.size+1,2,none⟩ (.I 0)).setCell ⟨w.heap.size+1,3,none⟩ (.I 0)).setCell ⟨w.heap.size+1,4,none⟩ (.slice none 0 0)).setCell ⟨w.heap.size+1,5,none⟩ (.slice none 0 0))):=fun W' hW'=>by
  have R2:=(hW'.block _ (aC RR1.o)).trans RR1.o;have P9:=dP W' (w.heap.size+1) 0 (gB 1);have X9:=dT (b:=w.heap.size+1) (o:=0) (f:=⟨0,0,0,0,[],none,0,none,0,0⟩) (g:=gB 1) ⟨aB R2 (i:=0) rfl,aB R2 (i:=1) rfl,aB R2 (i:=2) rfl,aB R2 (i:=3) rfl,aB R2 (i:=4) rfl,aB R2 (i:=5) rfl⟩;exact⟨X9,bB (aG BB.o hW' lz9) P9 lz9 (fun k e=>by omega)⟩
 cases h1:(fmx==0) with
 | false=>
  have E0:=hend W (Below.refl _ _);have r0:=aB RR1.o (i:=0) rfl;have r1:=aB RR1.o (i:=1) rfl;have r2:=aB RR1.o (i:=2) rfl;have r3:=aB RR1.o (i:=3) rfl;have r4:=aB RR1.o (i:=4) rfl;have r5:=aB RR1.o (i:=5) rfl;have fz:=fun z=>aK RR1.o z;clear hend GC;go_enter Tryz.func44,Tryz.ntmps44;go_wp2;exact pS E0.o.1 rfl rfl rfl ⟨rfl,E0.o.2⟩
 | true=>
  obtain⟨b,hb⟩:∃ b,(G==0)=b:=⟨_,rfl⟩;rw [hb];go_enter Tryz.func44,Tryz.ntmps44;go_wp2_with (go_at_call 68;(with_reducible refine GC.o.mono ?_);rintro e w5 ⟨rfl,h5⟩;have E0:=hend w5 h5;have R5:=(h5.block _ (aC RR1.o)).trans RR1.o;have r0:=aB R5 (i:=0) rfl;have r1:=aB R5 (i:=1) rfl;have r2:=aB R5 (i:=2) rfl;have r3:=aB R5 (i:=3) rfl;have r4:=aB R5 (i:=4) rfl;have r5:=aB R5 (i:=5) rfl;have fz:=fun z=>aK R5 z;clear h5 hend R5)
  exact pS E0.o.1 rfl rfl rfl ⟨rfl,E0.o.2⟩
end
section
attribute [local go_sem] Oper.semAt_some
theorem aG4(f:Fl)(w:World):Calls Tryz.prog 70 #[.agg (nDf f)] w fun e w'=>e=.returned (.bool (f.k==1))/\wBl w w':=by
 have B1:Hid (wBl w (w.alloc (.cells (nDf f) 25))):=bz9;have N1:Hid (BoxN (w.alloc (.cells (nDf f) 25)) w.heap.size f):=aD w _;obtain⟨c0,-⟩:=N1.o.six;go_enter Tryz.func70,Tryz.ntmps70;go_wp2;go_ret;exact⟨rfl,B1.o⟩
theorem aI7{a u:Tr}{b:Nat}{w:World}(hb:BoxN w b a.f)(ha:TB w a)(hu:TB w u)(la:(pp [] a).length<=2000)(lu:(pp [] u).length<=2000):Calls Tryz.prog 74 #[.agg (nDf u.f),.pointer (some (aDr b 0))] w fun e w'=>e=.returned (.bool (eQ (er a) (er u)))/\wBl w w':=by
 have B1:Hid (wBl w (w.alloc (.cells (nDf u.f) 25))):=bz9;have N1:Hid (BoxN (w.alloc (.cells (nDf u.f) 25)) w.heap.size u.f):=aD w _;have M1:Hid (BoxN (w.alloc (.cells (nDf u.f) 25)) b a.f):=(B1.o.block _ (aC hb)).trans hb;obtain⟨c0,c1,c2,c3,c4,c5⟩:=N1.o.six;obtain⟨d0,d1,d2,d3,d4,d5⟩:=M1.o.six;simp only [m7] at c1 c2 c3 c4 c5 d1 d2 d3 d4 d5;have SC:Hid (Calls Tryz.prog 75 #[.agg (nDf a.f),.agg (nDf u.f)] (w.alloc (.cells (nDf u.f) 25)) fun e w'=>e=.returned (.bool (eQ (er a) (er u)))/\Below (w.alloc (.cells (nDf u.f) 25)).heap.size (w.alloc (.cells (nDf u.f) 25)) w'):=aA ((aX7 (ha.kept B1.o) (hu.kept B1.o)).mono fun e w' ⟨h1,h2⟩=>⟨by rw [h1,r9 (by omega),r9 (by omega)];rfl,h2⟩);obtain⟨r,hr⟩:∃ r,eQ (er a) (er u)=r:=⟨_,rfl⟩;rw [hr] at SC ⊢;clear hr ha hu hb la lu;go_enter Tryz.func74,Tryz.ntmps74;go_wp2_with (go_at_call 75;(with_reducible refine SC.o.mono ?_);rintro e w5 ⟨rfl,h5⟩;have B5:=aA (aG B1.o h5 lz9);clear h5)
 go_ret;exact⟨rfl,B5.o⟩
structure IxP(i:Int)(b:Bool):Prop where
 h:0<=i↔b=true
def vA(u:Tr):Bool:=u.f.k==1
noncomputable def twB (a u:Tr):Bool:=eQ (er a) (er u)
theorem aQ5{w:World}{xs:List Tr}{q:Option Addr}{l c:Nat}(hx:ArgK w (.slice q l c) xs){P:Tr->Bool}(cc:∀ u∈xs,∀ W,wBl w W->Calls Tryz.prog 70 #[.agg (nDf u.f)] W fun e w'=>e=.returned (.bool (P u))/\wBl W w') :
  Calls Tryz.prog 87 #[.slice q l c,.func (.func 70) #[] #[]] w fun e w'=>∃ i:Int,e=.returned (.I i)/\IxP i (xs.any P)/\wBl w w':=by
 obtain⟨q',cap',e2,hm2,hcp2,hx2⟩:=hx.slice;injection e2 with e21 e22 e23;subst e21 e22 e23;have H1:=aA hx2;have CC:=aA cc;have hm:xs.length<=9223372036854775807:=hm2;clear hx2 hx hm2 cc;go_enter Tryz.func87,Tryz.ntmps87;go_wp2;go_loopw [8] (fun i wr=>∃ j:Nat,j<=xs.length/\i=.I (j:Int)/\(xs.take j).any P=false/\wBl w wr) (fun i _=>xs.length-(intOf i).toNat)
 case atStart=>exact⟨0,o9 _,rfl,rfl,Below.refl _ _⟩
 case round=>
  obtain⟨j,hj,rfl,hpre,hbel⟩:=hrel;have HP:=aA hpre;have HB:=aA hbel;clear hpre hbel;by_cases hjl:j<xs.length
  ·have i0:(j:Int)<(xs.length:Int):=by omega
   obtain⟨a9,hga⟩:∃ a,xs[j]?=some a:=⟨_,g9 hjl⟩;obtain⟨g1,o1,hq1,hl1,six1⟩:=H1.o j a9 hga;have GA:=aA hga;obtain⟨c0,c1,c2,c3,c4,c5⟩:=six1.ck (CK.of_below HB.o) hl1;have HC:=aA (CC.o a9 (n8 hga) wr HB.o);obtain⟨sb,hsb⟩:∃ sb,P a9=sb:=⟨_,rfl⟩;have HSB:=aA hsb;rw [hsb] at HC;rw [hq1];clear six1 hga hsb
   cases sb with
   | true=>
    have HN:Hid (IxP (j:Int) (xs.any P)):=⟨⟨fun _=>aAX.2 ⟨a9,n8 GA.o,HSB.o⟩,fun _=>by omega⟩⟩;go_wp2_with (go_at_call 70;(with_reducible refine(HC.o).mono ?_);rintro e w5 ⟨rfl,h5⟩;have B5:Hid (wBl w w5):=aG HB.o h5 lz9;clear h5)
    go_ret;exact⟨_,rfl,HN.o,B5.o⟩
   | false=>
    have HN:=aA (show (xs.take (j+1)).any P=false by rw [s7,GA.o,List.any_append,HP.o];simpa using HSB.o);go_wp2_with (go_at_call 70;(with_reducible refine(HC.o).mono ?_);rintro e w5 ⟨rfl,h5⟩;have B5:Hid (wBl w w5):=aG HB.o h5 lz9;clear h5)
    go_roundw
    case rel=>exact⟨j+1,by omega,by go_num,HN.o,B5.o⟩
    case measure=>simp only [intOf];omega
  ·have i0:¬ (j:Int)<(xs.length:Int):=by omega
   have HN:Hid (IxP (-1) (xs.any P)):=by
    have:=HP.o;rw [o4 (by omega)] at this;refine⟨⟨fun h=>by omega,fun h=>?_⟩⟩;rw [this] at h;cases h
   go_wp2;go_ret;exact⟨_,rfl,HN.o,HB.o⟩
theorem vO{w:World}{xs:List Tr}{q:Option Addr}{l c:Nat}(hx:ArgK w (.slice q l c) xs) :
  Calls Tryz.prog 69 #[.slice q l c,.func (.func 70) #[] #[]] w fun e w'=>e=.returned (.bool (xs.any vA))/\wBl w w':=by
 have HI:=aA (aQ5 hx (P:=vA) (fun u _ W _=>aG4 u.f W));obtain⟨r,hr⟩:∃ r,xs.any vA=r:=⟨_,rfl⟩;rw [hr] at HI ⊢;clear hr;go_enter Tryz.func69,Tryz.ntmps69;go_wp2_with (go_at_call 87;(with_reducible refine HI.o.mono ?_);rintro e w5 ⟨i,rfl,h4,h5⟩;have I5:=aA h4;have B5:=aA h5;clear h5 h4)
 go_ret;refine⟨?_,B5.o⟩;have:=I5.o.h
 cases r with
 | true=>have h:=this.2 rfl;simp [h]
 | false=>
  have h:¬ 0<=i:=fun q=>by have:=this.1 q;cases this
  simp only [h,decide_false];rfl
theorem aQ4{w:World}{xs:List Tr}{q:Option Addr}{l c:Nat}(hx:ArgK w (.slice q l c) xs){b:Nat}{P:Tr->Bool}(cc:∀ u∈xs,∀ W,wBl w W->Calls Tryz.prog 74 #[.agg (nDf u.f),.pointer (some (aDr b 0))] W fun e w'=>e=.returned (.bool (P u))/\wBl W w') :
  Calls Tryz.prog 87 #[.slice q l c,.func (.func 74) #[] #[.pointer (some (aDr b 0))]] w fun e w'=>∃ i:Int,e=.returned (.I i)/\IxP i (xs.any P)/\wBl w w':=by
 obtain⟨q',cap',e2,hm2,hcp2,hx2⟩:=hx.slice;injection e2 with e21 e22 e23;subst e21 e22 e23;have H1:=aA hx2;have CC:=aA cc;have hm:xs.length<=9223372036854775807:=hm2;clear hx2 hx hm2 cc;go_enter Tryz.func87,Tryz.ntmps87;go_wp2;go_loopw [8] (fun i wr=>∃ j:Nat,j<=xs.length/\i=.I (j:Int)/\(xs.take j).any P=false/\wBl w wr) (fun i _=>xs.length-(intOf i).toNat)
 case atStart=>exact⟨0,o9 _,rfl,rfl,Below.refl _ _⟩
 case round=>
  obtain⟨j,hj,rfl,hpre,hbel⟩:=hrel;have HP:=aA hpre;have HB:=aA hbel;clear hpre hbel;by_cases hjl:j<xs.length
  ·have i0:(j:Int)<(xs.length:Int):=by omega
   obtain⟨a9,hga⟩:∃ a,xs[j]?=some a:=⟨_,g9 hjl⟩;obtain⟨g1,o1,hq1,hl1,six1⟩:=H1.o j a9 hga;have GA:=aA hga;obtain⟨c0,c1,c2,c3,c4,c5⟩:=six1.ck (CK.of_below HB.o) hl1;have HC:=aA (CC.o a9 (n8 hga) wr HB.o);obtain⟨sb,hsb⟩:∃ sb,P a9=sb:=⟨_,rfl⟩;have HSB:=aA hsb;rw [hsb] at HC;rw [hq1];clear six1 hga hsb
   cases sb with
   | true=>
    have HN:Hid (IxP (j:Int) (xs.any P)):=⟨⟨fun _=>aAX.2 ⟨a9,n8 GA.o,HSB.o⟩,fun _=>by omega⟩⟩;go_wp2_with (go_at_call 74;(with_reducible refine(HC.o).mono ?_);rintro e w5 ⟨rfl,h5⟩;have B5:Hid (wBl w w5):=aG HB.o h5 lz9;clear h5)
    go_ret;exact⟨_,rfl,HN.o,B5.o⟩
   | false=>
    have HN:=aA (show (xs.take (j+1)).any P=false by rw [s7,GA.o,List.any_append,HP.o];simpa using HSB.o);go_wp2_with (go_at_call 74;(with_reducible refine(HC.o).mono ?_);rintro e w5 ⟨rfl,h5⟩;have B5:Hid (wBl w w5):=aG HB.o h5 lz9;clear h5)
    go_roundw
    case rel=>exact⟨j+1,by omega,by go_num,HN.o,B5.o⟩
    case measure=>simp only [intOf];omega
  ·have i0:¬ (j:Int)<(xs.length:Int):=by omega
   have HN:Hid (IxP (-1) (xs.any P)):=by
    have:=HP.o;rw [o4 (by omega)] at this;refine⟨⟨fun h=>by omega,fun h=>?_⟩⟩;rw [this] at h;cases h
   go_wp2;go_ret;exact⟨_,rfl,HN.o,HB.o⟩
theorem vM{w:World}{xs:List Tr}{q:Option Addr}{l c:Nat}(hx:ArgK w (.slice q l c) xs){a:Tr}{b:Nat}(hb:BoxN w b a.f)(ha:TB w a)(hu:∀ u∈xs,TB w u)(la:(pp [] a).length<=2000)(lu:∀ u∈xs,(pp [] u).length<=2000) :
  Calls Tryz.prog 69 #[.slice q l c,.func (.func 74) #[] #[.pointer (some (aDr b 0))]] w fun e w'=>e=.returned (.bool (xs.any (twB a)))/\wBl w w':=by
 have HI:=aA (aQ4 hx (P:=(twB a)) (fun u hu1 W hW=>aI7 ((hW.block _ (aC hb)).trans hb) (ha.kept hW) ((hu u hu1).kept hW) la (lu u hu1)));obtain⟨r,hr⟩:∃ r,xs.any (twB a)=r:=⟨_,rfl⟩;rw [hr] at HI ⊢;clear hr;go_enter Tryz.func69,Tryz.ntmps69;go_wp2_with (go_at_call 87;(with_reducible refine HI.o.mono ?_);rintro e w5 ⟨i,rfl,h4,h5⟩;have I5:=aA h4;have B5:=aA h5;clear h5 h4)
 go_ret;refine⟨?_,B5.o⟩;have:=I5.o.h
 cases r with
 | true=>have h:=this.2 rfl;simp [h]
 | false=>
  have h:¬ 0<=i:=fun q=>by have:=this.1 q;cases this
  simp only [h,decide_false];rfl
end
section
attribute [local go_sem] Oper.semAt_some
def RSays(base:Nat)(w:World)(o:Option Er)(e:Ending)(w':World):Prop:=∃ f':Fl,e=.returned (.tuple #[.agg #[.I f'.k,.I f'.n,.I f'.mn,.I f'.mx,.slice f'.rq f'.rs.length f'.rc,.slice f'.kq f'.kl f'.kc],.bool o.isSome])/\wBl w w'/\∀ x,o=some x->∃ t':Tr,t'.f=f'/\TA w' t'/\Foot (fun k=>base<=k) t'/\er t'=x
theorem oP{w W:World}{b:Nat}(t:Tr)(hb:wBl w W)(hr:W.heap[b]?=some (.cells #[.I 0,.I 0,.I 0,.I 0,.slice none 0 0,.slice none 0 0] 25 (0,0)))(h0:w.heap.size<=b)(ht:TA W t)(hf:Foot (fun k=>b<k) t) :
  Six (cD W b 0 t.f) b 0 t.f/\wBl w (cD W b 0 t.f)/\TA (cD W b 0 t.f) t:=by
 have P9:=dP W b 0 t.f;have X9:=dT (b:=b) (o:=0) (f:=⟨0,0,0,0,[],none,0,none,0,0⟩) (g:=t.f) ⟨aB hr (i:=0) rfl,aB hr (i:=1) rfl,aB hr (i:=2) rfl,aB hr (i:=3) rfl,aB hr (i:=4) rfl,aB hr (i:=5) rfl⟩;exact⟨X9,bB hb P9 lz9 (fun k e=>by omega),ht.ckN hf (P9.ckeep (fun k e z=>by omega))⟩
theorem mF{w W:World}{b:Nat}(hb:wBl w W)(hr:W.heap[b]?=some (.cells #[.I 0,.I 0,.I 0,.I 0,.slice none 0 0,.slice none 0 0] 25 (0,0)))(h0:w.heap.size<=b) :
  Six (cD W b 0 (gB 0)) b 0 (gB 0)/\wBl w (cD W b 0 (gB 0)):=by
 have P9:=dP W b 0 (gB 0);have X9:=dT (b:=b) (o:=0) (f:=⟨0,0,0,0,[],none,0,none,0,0⟩) (g:=gB 0) ⟨aB hr (i:=0) rfl,aB hr (i:=1) rfl,aB hr (i:=2) rfl,aB hr (i:=3) rfl,aB hr (i:=4) rfl,aB hr (i:=5) rfl⟩;exact⟨X9,bB hb P9 lz9 (fun k e=>by omega)⟩
theorem gE{R:Ending->World->Prop}{a:Act}{W:World}{b:Nat}{f:Fl}{e:Bool}(h:Six W b 0 f)(ha:a.tmps[2]?.getD undef=.pointer (some (aDr b 0)))(he:a.tmps[3]?.getD undef=.bool e)(hd:a.defers=[])(hR:R (.returned (.tuple #[.agg (nDf f),.bool e])) W):bodyPost Tryz.prog Tryz.f46 R .ret a W:=by
 obtain⟨z0,z1,z2,z3,z4,z5⟩:=h;simp only [m7] at z1 z2 z3 z4 z5;refine bodyPost_ret (v:=.tuple #[.agg (nDf f),.bool e]) ?_ hd hR;simp [results,Tryz.results46,go_sem,ha,he,z0,z1,z2,z3,z4,z5]
theorem oI{t:Tr}{w:World}(hta:TA w t)(hs:t.sz<=2000):Calls Tryz.prog 46 #[.agg (nDf t.f)] w (RSays w.heap.size w (if t.ks.any vA then some (gI 5 ((t.ks.flatMap dX).map er) (.mk 1 0 0 0 [] [])) else none)):=by
 obtain⟨W,hW,B1,N1,R1⟩:=iK w t.f;have T1:=hta.kept B1;have hk1:=T1.node.k;have hkl:=T1.node.kl;have hsz:szs t.ks<1000000:=by have:=dA t;omega
 have EC:=aA (vO (w:=W) (xs:=t.ks) hk1);have K1:=aA T1;obtain⟨c0,c1,c2,c3,c4,c5⟩:=N1.six;simp only [m7] at c1 c2 c3 c4 c5;have BB:=aA B1;have RR1:=aA R1;have NN1:=aA N1;have HS:=aA hsz;have HKL:=aA hkl;clear hta hs N1 R1 B1 T1 hk1 hsz hkl
 cases he:t.ks.any vA with
 | false=>
  rw [he] at EC;rw [if_neg (by decide)];go_enter Tryz.func46,Tryz.ntmps46;go_wp2_with (go_at_call 69;(with_reducible refine EC.o.mono ?_);rintro e w5 ⟨rfl,h5⟩;have R5:=(h5.block _ (aC RR1.o)).trans RR1.o;have E0:=aA (mF (aG BB.o h5 lz9) R5 (aCA _));have r0:=aB R5 (i:=0) rfl;have r1:=aB R5 (i:=1) rfl;have r2:=aB R5 (i:=2) rfl;have r3:=aB R5 (i:=3) rfl;have r4:=aB R5 (i:=4) rfl;have r5:=aB R5 (i:=5) rfl;have fz:=fun z=>aK R5 z;clear h5 R5)
  exact gE E0.o.1 rfl rfl rfl ⟨gB 0,rfl,E0.o.2,fun x hx=>by cases hx⟩
 | true=>
  rw [he] at EC;rw [if_pos rfl];obtain⟨X,hX⟩:∃ X,gI 5 ((t.ks.flatMap dX).map er) (.mk 1 0 0 0 [] [])=X:=⟨_,rfl⟩;have CAT:Hid (∀ V,wBl W V->Calls Tryz.prog 71 #[.slice t.f.kq t.f.kl t.f.kc] V (jZ V X)):=aA fun V hV=>by
   have TV:=K1.o.kept hV;have hk:=TV.node.k;rw [HKL.o] at hk ⊢;rw [<- hX];exact bP6 hk (fun u hu=>TV.kid hu) HS.o
  rw [hX];clear hX;go_enter Tryz.func46,Tryz.ntmps46;go_upto_region 3 with (go_at_call 69;(with_reducible refine EC.o.mono ?_);rintro e w5 ⟨rfl,h5⟩;have B5:=aA h5;clear h5)
  have C5:=aA (CAT.o w5 B5.o);have R5:=aA ((B5.o.block _ (aC RR1.o)).trans RR1.o);have k5:w5.cell? (aDr w.heap.size 5)=some (.slice t.f.kq t.f.kl t.f.kc):=(B5.o.cell (p:=(aDr w.heap.size 5)) (aC NN1.o)).trans c5;have BC:=aA (aG BB.o B5.o lz9);clear CAT EC B5;go_wp2_with (go_at_call 71;(with_reducible refine C5.o.mono ?_);rintro e w6 ⟨t6,rfl,h61,h62,h63,h64⟩;have R6:=(h64.block _ (aC R5.o)).trans R5.o;have E0:=aA (oP t6 (aG BC.o h64 lz9) R6 (aCA _) h61 (h62.mono fun k hk=>o8 (aC R5.o) hk));have F0:=aA (h62.mono fun k (hk:w5.heap.size<=k)=>o0 BC.o.size hk);have r0:=aB R6 (i:=0) rfl;have r1:=aB R6 (i:=1) rfl;have r2:=aB R6 (i:=2) rfl;have r3:=aB R6 (i:=3) rfl;have r4:=aB R6 (i:=4) rfl;have r5:=aB R6 (i:=5) rfl;have fz:=fun z=>aK R6 z;have HX:=aA h63;clear h61 h62 h63 h64 R6)
  exact gE E0.o.1 rfl rfl rfl ⟨t6.f,rfl,E0.o.2.1,fun x hx=>⟨t6,rfl,E0.o.2.2,F0.o,by cases hx;exact HX.o⟩⟩
end
section
attribute [local go_sem] Oper.semAt_some
noncomputable def twT:List Tr->List Tr->List Tr
 | acc,[]=>acc
 | acc,x :: l=>if acc.any (twB x) then twT acc l else twT (acc++[x]) l
theorem aV7:∀ (l m acc:List Tr),twT acc (l++m)=twT (twT acc l) m:=by
 intro l
 induction l with
 | nil=>intro m acc;rfl
 | cons x l ih=>intro m acc;rw [t4,twT,twT];split <;> exact ih _ _
theorem aV6:∀ (l acc:List Tr) (x:Tr),x∈twT acc l->x∈acc\/x∈l:=by
 intro l
 induction l with
 | nil=>intro acc x h;exact .inl h
 | cons y l ih=>
  intro acc x h;rw [twT] at h
  split at h
  ·exact(ih _ _ h).imp id (m9 _)
  ·rcases ih _ _ h with h | h
   ·rcases o3.1 h with h | h
    ·exact .inl h
    ·simp at h;subst h;exact .inr (n9 ..)
   ·exact .inr (m9 _ h)
theorem aV5:∀ (l acc:List Tr),szs (twT acc l)<=szs acc+szs l:=by
 intro l
 induction l with
 | nil=>intro acc;rw [twT,cM];omega
 | cons y l ih=>
  intro acc;rw [twT,bE]
  split
  ·have:=ih acc;omega
  ·have:=ih (acc++[y]);rw [eS,bE,cM] at this;omega
noncomputable def twO (ks:List Tr):Option Er:=if (twT [] ks).length=ks.length then none else some (gI 6 (((twT [] ks).flatMap eP).map er) (.mk 2 0 0 0 [] []))
theorem gW{R:Ending->World->Prop}{a:Act}{W:World}{b:Nat}{f:Fl}{e:Bool}(h:Six W b 0 f)(ha:a.tmps[2]?.getD undef=.pointer (some (aDr b 0)))(he:a.tmps[3]?.getD undef=.bool e)(hd:a.defers=[])(hR:R (.returned (.tuple #[.agg (nDf f),.bool e])) W):bodyPost Tryz.prog Tryz.f48 R .ret a W:=by
 obtain⟨z0,z1,z2,z3,z4,z5⟩:=h;simp only [m7] at z1 z2 z3 z4 z5;refine bodyPost_ret (v:=.tuple #[.agg (nDf f),.bool e]) ?_ hd hR;simp [results,Tryz.results48,go_sem,ha,he,z0,z1,z2,z3,z4,z5]
theorem pA{t:Tr}{w:World}(hta:TA w t)(hs:t.sz<=2000):Calls Tryz.prog 48 #[.agg (nDf t.f)] w (RSays w.heap.size w (twO t.ks)):=by
 obtain⟨t0,hi,hz0,hz1,hz2⟩:=aR gT;obtain⟨tf,L⟩:=t;obtain⟨fk,fn,fmn,fmx,frs,frq,frc,fkq,fkl,fkc⟩:=tf;have hkl:fkl=L.length:=hta.node.kl;subst hkl;have hsz:szs L<2000:=by have:=dA (Tr.mk ⟨fk,fn,fmn,fmx,frs,frq,frc,fkq,L.length,fkc⟩ L);simp only [Tr.ks] at this;omega
 have hpl:∀ u∈L,(pp [] u).length<=2000:=fun u hu=>by rw [bL];have:=bW (t:=Tr.mk ⟨fk,fn,fmn,fmx,frs,frq,frc,fkq,L.length,fkc⟩ L) hu;omega
 obtain⟨W,hW,B1,N1,R1⟩:=iK w ⟨fk,fn,fmn,fmx,frs,frq,frc,fkq,L.length,fkc⟩;have T1:=hta.kept B1;obtain⟨q',c',e,hml,-,hx⟩:=T1.node.k.slice;have HTK:Hid (∀ V u,wBl W V->u∈L->TA V u):=aA fun V u hV hu=>(T1.kept hV).kid hu;change ∀ (i:Nat) (t:Tr),L[i]?=some t->∃ g off,q'=some (aDr g off)/\g<W.heap.size/\Six W g (off+i*6) t.f at hx;change Value.slice fkq L.length fkc=Value.slice q' L.length c' at e;show Calls Tryz.prog 48 #[.agg #[.I fk,.I fn,.I fmn,.I fmx,.slice frq frs.length frc,.slice fkq L.length fkc]] w (RSays w.heap.size w (twO L));injection e with e1 _ e3;subst e1 e3;obtain⟨c0,c1,c2,c3,c4,c5⟩:=N1.six;simp only [m7] at c1 c2 c3 c4 c5;have hml':L.length<=9223372036854775807:=hml;have HH:=aA hx;have BB:=aA B1;have RR1:=aA R1;have NN1:=aA N1;have HS:=aA hsz;have HPL:=aA hpl;have LZ:=aC R1;obtain⟨OO,hOO⟩:∃ o,twO L=o:=⟨_,rfl⟩;rw [hOO];unfold twO at hOO;have HOO:=aA hOO;clear hta hs N1 R1 B1 T1 hsz hpl hx hml hOO;go_enter Tryz.func48,Tryz.ntmps48;go_upto_region 1 with fail
 go_wp2;go_loopw [10,4] (fun i s wr=>∃ (j:Nat) (qq:Option Addr) (cc:Nat),j<=L.length/\i=.I (j:Int)/\s=.slice qq (twT [] (L.take j)).length cc/\wr.ownsRow W.heap.size 25 6 (.slice qq (twT [] (L.take j)).length cc) (twT [] (L.take j)).length (aV (twT [] (L.take j)))/\wBl W wr) (fun i _ _=>L.length-(intOf i).toNat)
 case atStart=>exact⟨0,none,0,o9 _,rfl,rfl,aAY _ _ _ _,Below.refl _ _⟩
 case round=>
  obtain⟨j,qq,cc,hj,rfl,rfl,hown,hbel⟩:=hrel;have HO:=aA hown;have HB:=aA hbel;have hmem:∀ j v,v∈twT [] (L.take j)->v∈L:=fun j v hv=>aAS ((aV6 _ _ _ hv).resolve_left (fun q=>by cases q));have hszo:∀ j,szs (twT [] (L.take j))<2000:=fun j=>by
   have h1:=aV5 (L.take j) [];have h2:=gC L j;have h3:=HS.o;rw [cM] at h1;omega
  have HLE:(twT [] (L.take j)).length<=2000:=by have:=eZ (twT [] (L.take j));have:=hszo j;omega
  have HMEM:=aA hmem;have HSZO:=aA hszo;clear hown hbel hmem hszo;by_cases hjl:j<L.length
  ·have i0:(j:Int)<(L.length:Int):=by omega
   obtain⟨u,hu⟩:∃ u,L[j]?=some u:=⟨_,g9 hjl⟩;obtain⟨g,off,hq,hg,six⟩:=HH.o j u hu;have hin:u∈L:=n8 hu;obtain⟨d0,d1,d2,d3,d4,d5⟩:=six.ck (CK.of_below HB.o) hg;have HN:twT [] (L.take (j+1))=if (twT [] (L.take j)).any (twB u) then twT [] (L.take j) else twT [] (L.take j)++[u]:=by
    rw [s7,hu,aV7];show twT _ [u]=_;rw [twT,twT,twT]
   have HNX:=aA HN;have K4:wBl wr (wr.alloc (.cells (nDf u.f) 25)):=bz9;have N4:Hid (BoxN (wr.alloc (.cells (nDf u.f) 25)) wr.heap.size u.f):=aD wr _;have B4:Hid (wBl W (wr.alloc (.cells (nDf u.f) 25))):=HB.o.alloc HB.o.size _;have O4:=aA (aH HO.o (Fr.of_below (S:=fun _=>False) K4) (fun _ _ z=>z));have HOM:Hid (∀ v,v∈twT [] (L.take j)->v∈L):=aA (HMEM.o j);rw [hq];clear six hu K4 HN HMEM HSZO;go_upto_region 5 with fail
   generalize (wr.alloc (.cells (nDf u.f) 25))=W4 at N4 B4 O4 ⊢;generalize twT [] (L.take j)=out at *;have CT:=aA (vM (w:=W4) (xs:=out) (oO O4.o) (a:=u) (b:=wr.heap.size) N4.o (HTK.o W4 u B4.o hin).tb (fun v hv=>(HTK.o W4 v B4.o (HOM.o v hv)).tb) (HPL.o u hin) (fun v hv=>HPL.o v (HOM.o v hv)));clear d0 d1 d2 d3 d4 d5;obtain⟨r,hr⟩:∃ r,out.any (twB u)=r:=⟨_,rfl⟩;rw [hr] at CT HNX;have HR:=aA hr;clear hr
   cases r with
   | true=>
    go_wp2_with (go_at_call 69;(with_reducible refine CT.o.mono ?_);rintro e w5 ⟨rfl,h5⟩;have B5:=aA (aG B4.o h5 lz9);have O5:=aA (aH O4.o (Fr.of_below (S:=fun _=>False) h5) (fun _ _ z=>z));clear h5)
    go_roundw
    case rel=>exact⟨j+1,qq,cc,by omega,by go_num,by rw [HNX.o];rfl,by rw [HNX.o];exact O5.o,B5.o⟩
    case measure=>simp only [intOf];omega
   | false=>
    go_upto_region 6 with (go_at_call 69;(with_reducible refine CT.o.mono ?_);rintro e w5 ⟨rfl,h5⟩;have B5:=aA (aG B4.o h5 lz9);have O5:=aA (aH O4.o (Fr.of_below (S:=fun _=>False) h5) (fun _ _ z=>z));have N5:Hid (BoxN w5 wr.heap.size u.f):=aA ((h5.block _ (aC N4.o)).trans N4.o);clear h5)
    obtain⟨n0,n1,n2,n3,n4,n5⟩:=N5.o.six;simp only [m7] at n1 n2 n3 n4 n5;have K6:wBl w5 (w5.alloc (.cells (nDf u.f) 25)):=bz9;have M6:=aA (gV (aD w5 (.cells (nDf u.f) 25)));have O6:=aA (aH O5.o (Fr.of_below (S:=fun _=>False) K6) (fun _ _ z=>z));have B6:Hid (wBl W (w5.alloc (.cells (nDf u.f) 25))):=aG B5.o K6 lz9;clear K6;go_wp2_with (at_builtin;refine wpList_append_own_at _ rfl _ _ 23 rfl W.heap.size 25 t0 (.agg #[.I 0,.I 0,.I 0,.I 0,.slice none 0 0,.slice none 0 0]) 6 80 cQ hi hz0 hz1 hz2 rfl (by decide) (.slice qq out.length cc) out.length (aV out) rfl O6.o (aDr w5.heap.size 0) 1 1 u.f.cells rfl rfl M6.o (fun v hv=>by simp [Fl.cells] at hv;rcases hv with rfl | rfl | rfl | rfl | rfl | rfl <;> rfl) (by unfold maxLen;omega) (by omega) B6.o.size ?_;intro v' w6 hown' hgrow _ _;obtain⟨q6,cap6,rfl⟩:=aQ hown';have O7:=aA hown';have B7:Hid (wBl W w6):=kM B6.o lz9 O6.o hgrow;clear hown' hgrow)
    go_roundw
    case rel=>exact⟨j+1,q6,cap6,by omega,by go_num,by rw [HNX.o];simp,by rw [HNX.o,if_neg (by decide),dM,o5,show aV [u]=u.f.cells by simp [aV]];exact O7.o,B7.o⟩
    case measure=>simp only [intOf];omega
  ·have i0:¬ (j:Int)<(L.length:Int):=by omega
   have he:L.take j=L:=o4 (by omega);have hmem:=HMEM.o j;have hszo:=HSZO.o j;rw [he] at HO HLE hmem hszo ⊢;clear HMEM HSZO he;generalize twT [] L=out at HO HLE hmem hszo HOO ⊢;have d5:wr.cell? (aDr w.heap.size 5)=some (.slice fkq L.length fkc):=(HB.o.cell (p:=(aDr w.heap.size 5)) (aC NN1.o)).trans c5;have R5:=aA ((HB.o.block _ LZ).trans RR1.o);have hw0:=aC NN1.o;by_cases hlen:out.length=L.length
   ·have E0:=aA (mF (aG BB.o HB.o lz9) R5.o (aCA _));have r0:=aB R5.o (i:=0) rfl;have r1:=aB R5.o (i:=1) rfl;have r2:=aB R5.o (i:=2) rfl;have r3:=aB R5.o (i:=3) rfl;have r4:=aB R5.o (i:=4) rfl;have r5:=aB R5.o (i:=5) rfl;have fz:=fun z=>aK R5.o z;have hoo:=HOO.o;rw [if_pos hlen] at hoo;subst hoo;rw [hlen];go_wp2;exact gW E0.o.1 rfl rfl rfl ⟨gB 0,rfl,E0.o.2,fun x hx=>by cases hx⟩
   ·have hoo:=HOO.o;rw [if_neg hlen] at hoo;have hl2:((out.length:Int)==(L.length:Int))=false:=(by simpa using (fun h=>hlen (by omega)));have AC:=aA (bF3 (oO HO.o) (fun v hv=>HTK.o wr v HB.o (hmem v hv)) (by omega));obtain⟨X,hX⟩:∃ X,gI 6 ((out.flatMap eP).map er) (.mk 2 0 0 0 [] [])=X:=⟨_,rfl⟩;rw [hX] at AC hoo;subst hoo;clear hX;go_wp2_with (go_at_call 73;(with_reducible refine AC.o.mono ?_);rintro e w6 ⟨t6,rfl,h61,h62,h63,h64⟩;have R6:=(h64.block _ (aC R5.o)).trans R5.o;have E0:=aA (oP t6 (aG (aG BB.o HB.o lz9) h64 lz9) R6 (aCA _) h61 (h62.mono fun k hk=>o8 (aC R5.o) hk));have F0:=aA (h62.mono fun k (hk:wr.heap.size<=k)=>o0 (aG BB.o HB.o lz9).size hk);have r0:=aB R6 (i:=0) rfl;have r1:=aB R6 (i:=1) rfl;have r2:=aB R6 (i:=2) rfl;have r3:=aB R6 (i:=3) rfl;have r4:=aB R6 (i:=4) rfl;have r5:=aB R6 (i:=5) rfl;have fz:=fun z=>aK R6 z;have HX:=aA h63;clear h61 h62 h63 h64 R6)
    exact gW E0.o.1 rfl rfl rfl ⟨t6.f,rfl,E0.o.2.1,fun x hx=>⟨t6,rfl,E0.o.2.2,F0.o,by cases hx;exact HX.o⟩⟩
end
def Er.kd:Er->Int | .mk k _ _ _ _ _=>k
def Er.wr(u:lIi):Er->Er | .mk k n a b _ ks=>.mk k n a b u ks
def Er.rgs:Er->lIi | .mk _ _ _ _ rs _=>rs
theorem dR(t:Tr):(er t).kd=t.f.k:=by rw [bY];rfl
theorem yF(t:Tr):(er t).rgs=t.f.rs:=by rw [bY];rfl
def mB(u:lIi):Bool->List Er->List Er
 | _,[]=>[]
 | s,x :: l=>if x.kd=2 then (if s then mB u s l else x.wr u :: mB u true l) else x :: mB u s l
def qR(l:List Er):Bool:=l.any fun x=>decide (x.kd=2)
theorem kB(u:lIi)(x:Er):∀ (l:List Er) (s:Bool),mB u s (l++[x])=mB u s l++(if x.kd=2 then (if s||qR l then [] else [x.wr u]) else [x]):=by
 intro l
 induction l with
 | nil=>
  intro s;rw [aAI];simp only [mB];by_cases h:x.kd=2
  ·rw [if_pos h,if_pos h];cases s <;> rfl
  ·rw [if_neg h,if_neg h];rfl
 | cons y l ih=>
  intro s;rw [t4,mB,mB];by_cases hy:y.kd=2
  ·rw [if_pos hy,if_pos hy]
   cases s with
   | true=>rw [if_pos rfl,if_pos rfl,ih];simp
   | false=>
    rw [if_neg (by decide),if_neg (by decide),ih,t4];have:qR (y :: l)=true:=(by simp [qR,hy]);simp [this]
  ·rw [if_neg hy,if_neg hy,ih,t4];have:qR (y :: l)=qR l:=(by simp [qR,hy]);rw [this]
structure OS where
 K:List Tr
 A:lIi
 f:Nat
 s:Nat
def OS.add(o:OS)(u:Tr):OS:=if u.f.k=2 then (if 1<=o.s then ⟨o.K,o.A++u.f.rs,o.f,o.s+1⟩ else ⟨o.K++[u],o.A++u.f.rs,o.K.length,o.s+1⟩) else ⟨o.K++[u],o.A,o.f,o.s⟩
def osf(l:List Tr):OS:=l.foldl OS.add ⟨[],[],0,0⟩
theorem uL(l:List Tr)(u:Tr):osf (l++[u])=(osf l).add u:=by unfold osf;rw [List.foldl_append];rfl
def fX(u:Tr):Bool:=decide (u.f.k=2)
structure OSI(l:List Tr)(o:OS):Prop where
 sub:∀ u∈o.K,u∈l
 ranges:o.A=(l.filter fX).flatMap fun u=>u.f.rs
 sets:o.s=(l.filter fX).length
 none:o.s=0->∀ u,o.K.map er=mB u false (l.map er)
 some:1<=o.s->∃ x0,o.K[o.f]?=some x0/\x0.f.k=2/\∀ u X,er X=(er x0).wr u->(o.K.set o.f X).map er=mB u false (l.map er)
 szs:szs o.K<=szs l
 lt:o.f<=o.K.length
theorem vC(l:List Tr):qR (l.map er)=true↔1<=(l.filter fX).length:=by
 unfold qR;rw [List.any_map,aAX];constructor
 ·rintro ⟨x,hx,h⟩;have hm:x∈l.filter fX:=aAF.2 ⟨hx,by unfold fX;rw [<- dR];simpa using h⟩;exact List.length_pos_of_mem hm
 ·intro h;obtain⟨x,hx⟩:=List.exists_mem_of_length_pos h;have:=aAF.1 hx;exact⟨x,this.1,by have h2:=this.2;unfold fX at h2;rw [<- dR] at h2;simpa using h2⟩
theorem OSI.add{l:List Tr}{o:OS}(h:OSI l o)(u:Tr):OSI (l++[u]) (o.add u):=by
 have hsub:∀ v∈o.K++[u],v∈l++[u]:=fun v hv=>by
  rcases o3.1 hv with q | q
  ·exact o3.2 (.inl (h.sub v q))
  ·exact o3.2 (.inr q)
 have hz:Go.Proofs.YtlamifbjklpdbaaGreat.szs (o.K++[u])<=Go.Proofs.YtlamifbjklpdbaaGreat.szs (l++[u]):=by rw [eS,eS];have:=h.szs;omega
 have hz2:Go.Proofs.YtlamifbjklpdbaaGreat.szs o.K<=Go.Proofs.YtlamifbjklpdbaaGreat.szs (l++[u]):=by rw [eS];have:=h.szs;omega
 unfold OS.add;by_cases hk:u.f.k=2
 ·have hi:fX u=true:=by simpa [fX] using hk
  have hf:(l++[u]).filter fX=l.filter fX++[u]:=by rw [List.filter_append];simp [hi]
  have hku:(er u).kd=2:=(dR u).trans hk;rw [if_pos hk];by_cases hs:1<=o.s
  ·rw [if_pos hs];obtain⟨x0,e1,e2,e3⟩:=h.some hs;refine⟨fun v hv=>o3.2 (.inl (h.sub v hv)),by rw [hf,aBM,h.ranges];simp,by rw [hf,o5,h.sets];rfl,fun e=>by simp at e,fun _=>⟨x0,e1,e2,fun v X hX=>?_⟩,hz2,h.lt⟩;rw [aAK,aBI,kB,if_pos hku,e3 v X hX,(vC l).2 (by rw [<- h.sets];exact hs)];simp
  ·rw [if_neg hs];have hs0:o.s=0:=(by omega);have hn:qR (l.map er)=false:=by
    cases hh:qR (l.map er) with
    | false=>rfl
    | true=>have:=(vC l).1 hh;rw [<- h.sets] at this;omega
   refine⟨hsub,by rw [hf,aBM,h.ranges];simp,by rw [hf,o5,h.sets];rfl,fun e=>by simp at e,fun _=>⟨u,by simp,hk,fun v X hX=>?_⟩,hz,by simp⟩;rw [aAK,aBI,kB,if_pos hku,hn,aBU _ _ lz9,aBF,i8,aAK,h.none hs0 v,aBI,hX];simp
 ·have hi:fX u=false:=by simpa [fX] using hk
  have hf:(l++[u]).filter fX=l.filter fX:=by rw [List.filter_append];simp [hi]
  have hku:¬ (er u).kd=2:=fun e=>hk ((dR u).symm.trans e);rw [if_neg hk];refine⟨hsub,by rw [hf];exact h.ranges,by rw [hf];exact h.sets,fun e v=>?_,fun e=>?_,hz,by rw [o5];have:=h.lt;simp;omega⟩
  ·rw [aAK,aAK,h.none e v,aBI,kB,if_neg hku]
  ·obtain⟨x0,e1,e2,e3⟩:=h.some e;have hlt:o.f<o.K.length:=(m8.1 e1).1;refine⟨x0,by rw [aAH hlt];exact e1,e2,fun v X hX=>?_⟩;rw [List.set_append_left _ _ hlt,aAK,aAK,e3 v X hX,aBI,kB,if_neg hku]
theorem osi(l:List Tr):OSI l (osf l):=by
 have:∀ n,OSI (l.take n) (osf (l.take n)):=by
  intro n
  induction n with
  | zero=>exact⟨fun _ h=>(by cases h),rfl,rfl,fun _ _=>rfl,fun h=>(by cases h),t8 _,t8 _⟩
  | succ n ih=>
   by_cases hn:n<l.length
   ·rw [s7,g9 hn];show OSI (l.take n++[l[n]]) (osf (l.take n++[l[n]]));rw [uL];exact ih.add _
   ·rw [o4 (by omega)];rw [o4 (by omega)] at ih;exact ih
 have h:=this l.length;rwa [aBQ] at h
section
attribute [local go_sem] Oper.semAt_some
theorem rD{V V':World}{base base':Nat}{e e':TypeId}{size size' n n':Nat}{v u:Value}{xs ys:List Value}(h:V.ownsRow base e size v n xs)(hu:V.ownsRow base' e' size' u n' ys)(hne:e≠e')(hg:V.grownBy V' u.ownBlock):V'.ownsRow base e size v n xs:=
 aH h ((Fr.refl (blk u) V).grown hg fun _ hk=>hk) (fun k hk q=>by obtain⟨_,_,cur,hc⟩:=aF hu q;exact dU h hc (fun e=>hne e.symm) hk)
structure WOr(W:World)(K:List Tr)(A:lIi)(kq:Option Addr)(kc:Nat)(aq:Option Addr)(ac:Nat)(wr:World):Prop where
 kr:wr.ownsRow W.heap.size 25 6 (.slice kq K.length kc) K.length (aV K)
 ar:RR W.heap.size wr (.slice aq A.length ac) A
 bel:wBl W wr
theorem WOr.kept{W wr wr':World}{K:List Tr}{A:lIi}{kq aq:Option Addr}{kc ac:Nat}(h:WOr W K A kq kc aq ac wr)(hb:wBl wr wr'):WOr W K A kq kc aq ac wr':=
 ⟨aH h.kr (Fr.of_below (S:=fun _=>False) hb) (fun _ _ z=>z),h.ar.kept hb,aG h.bel hb lz9⟩
theorem WOr.apK{W V V':World}{K:List Tr}{A:lIi}{kq aq q6:Option Addr}{kc ac n6 cap6:Nat}{u:Tr}(h:WOr W K A kq kc aq ac V)(ho:V'.ownsRow W.heap.size 25 6 (.slice q6 (K.length+1) cap6) n6 (aV K++u.f.cells))(hg:V.grownBy V' (Value.slice kq K.length kc).ownBlock):WOr W (K++[u]) A q6 cap6 aq ac V':=by
 have e:n6=K.length+1:=by obtain⟨q,c,e⟩:=aQ ho;injection e with _ e;exact e.symm
 subst e;refine⟨?_,rD h.ar h.kr (by decide) hg,kM h.bel lz9 h.kr hg⟩;rw [dM,o5,show aV [u]=u.f.cells by simp [aV]];exact ho
theorem WOr.apA{W V V':World}{K:List Tr}{A B:lIi}{kq aq q6:Option Addr}{kc ac n6 m6 cap6:Nat}(h:WOr W K A kq kc aq ac V)(ho:V'.ownsRow W.heap.size 53 2 (.slice q6 n6 cap6) m6 (aL A++aL B))(hg:V.grownBy V' (Value.slice aq A.length ac).ownBlock):WOr W K (A++B) kq kc q6 cap6 V'/\n6=(A++B).length:=by
 have h1:RR W.heap.size V' (.slice q6 n6 cap6) (A++B):=mC ho;have e:n6=(A++B).length:=by obtain⟨q,c,e⟩:=h1.shape;injection e with _ e
 subst e;exact⟨⟨rD h.kr h.ar (by decide) hg,h1,bZ h.bel h.ar hg⟩,rfl⟩
def reR(x:Tr)(C:lIi)(q:Option Addr)(c:Nat):Tr:=.mk ⟨x.f.k,x.f.n,x.f.mn,x.f.mx,C,q,c,x.f.kq,x.f.kl,x.f.kc⟩ x.ks
theorem bJ3(x:Tr)(C:lIi)(q:Option Addr)(c:Nat):er (reR x C q c)=(er x).wr C:=by rw [bY,bY];rfl
theorem bJ2(x:Tr)(C:lIi)(q:Option Addr)(c:Nat):(reR x C q c).sz=x.sz:=by rw [dA,dA];rfl
theorem aW3(l:List Tr)(i:Nat)(x:Tr):szs (l.set i x)<=szs l+x.sz:=by
 induction l generalizing i with
 | nil=>rw [List.set_nil,cM];omega
 | cons y l ih=>
  cases i with
  | zero=>rw [i8,bE,bE];omega
  | succ i=>rw [i9,bE,bE];have:=ih i;omega
theorem KR.set4{W:World}{g:Nat}{ks:List Tr}(h:KR W g ks){i:Nat}{x:Tr}(hx:ks[i]?=some x)(C:lIi)(q:Option Addr)(c:Nat):KR (W.setCell ⟨g,i*6+4,none⟩ (.slice q C.length c)) g (ks.set i (reR x C q c)):=by
 have hi:i<ks.length:=(m8.1 hx).1;refine⟨cR h.blk _ _,fun j u hj=>?_⟩;by_cases e:j=i
 ·subst e;rw [aBZ hi] at hj;cases hj;obtain⟨k0,k1,k2,k3,k4,k5⟩:=h.six j x hx;exact⟨aE k0 (by omega),aE k1 (by omega),aE k2 (by omega),aE k3 (by omega),s8 _ _ _ k4,aE k5 (by omega)⟩
 ·rw [aBS (Ne.symm e)] at hj;obtain⟨k0,k1,k2,k3,k4,k5⟩:=h.six j u hj;exact⟨aE k0 (by omega),aE k1 (by omega),aE k2 (by omega),aE k3 (by omega),aE k4 (by omega),aE k5 (by omega)⟩
theorem bJ1{base:Nat}{W:World}{x:Tr}{C:lIi}{q:Option Addr}{c:Nat}(h:TA W x)(hr:RR base W (.slice q C.length c) C)(hf:Fit C)(hl:C.length+3<=8796093022208):TA W (reR x C q c):=
 (aI _).2 ⟨⟨hr.arg,h.node.k,hf,hl,NO.rows hr h.node.own.2⟩,(aT _).2 fun _ hu=>h.kid hu⟩
theorem aZ4{l:List Tr}{m:Nat}(h:∀ u∈l,u.f.rs.length<=m):(osf l).A.length<=l.length*m:=by
 rw [(osi l).ranges];have:∀ k:List Tr,(∀ u∈k,u.f.rs.length<=m)->(k.flatMap fun u=>u.f.rs).length<=k.length*m:=by
  intro k
  induction k with
  | nil=>intro _;simp
  | cons x k ih=>
   intro hk;rw [aAN,o5,o7,Nat.add_mul];have h1:=hk x (n9 ..);have h2:=ih fun u hu=>hk u (m9 _ hu);omega
 refine o0 (this (l.filter fX) fun u hu=>h u (aAF.1 hu).1) (Nat.mul_le_mul_right _ (List.length_filter_le _ _))
noncomputable def aN6 (ks:List Tr):Option Er:=if 2<=(ks.filter fX).length then some (gI 6 ((mB (unC ((ks.filter fX).flatMap fun u=>u.f.rs)) false (ks.map er)).flatMap fun e=>if e.kd=6 then e.ks else [e]) (.mk 2 0 0 0 [] [])) else none
theorem wC(l:List Tr):(l.flatMap eP).map er=(l.map er).flatMap fun e=>if e.kd=6 then e.ks else [e]:=by
 induction l with
 | nil=>rfl
 | cons x l ih=>
  rw [aAN,aAK,ih,s6,aAN]
  congr 1
  unfold eP;rw [dR];by_cases h:x.f.k=6
  ·rw [if_pos h,if_pos h,bY];rfl
  ·rw [if_neg h,if_neg h];rfl
theorem jG{R:Ending->World->Prop}{a:Act}{W:World}{b:Nat}{f:Fl}{e:Bool}(h:Six W b 0 f)(ha:a.tmps[2]?.getD undef=.pointer (some (aDr b 0)))(he:a.tmps[3]?.getD undef=.bool e)(hd:a.defers=[])(hR:R (.returned (.tuple #[.agg (nDf f),.bool e])) W):bodyPost Tryz.prog Tryz.f47 R .ret a W:=by
 obtain⟨z0,z1,z2,z3,z4,z5⟩:=h;simp only [m7] at z1 z2 z3 z4 z5;refine bodyPost_ret (v:=.tuple #[.agg (nDf f),.bool e]) ?_ hd hR;simp [results,Tryz.results47,go_sem,ha,he,z0,z1,z2,z3,z4,z5]
theorem rR{t:Tr}{w:World}(hta:TA w t)(hs:t.sz<=2000)(hrl:∀ u∈t.ks,u.f.rs.length<=600000):Calls Tryz.prog 47 #[.agg (nDf t.f)] w (RSays w.heap.size w (aN6 t.ks)):=by
 obtain⟨t0,hi,hz0,hz1,hz2⟩:=aR gT;obtain⟨s0,hjr,sz0,sz1,sz2⟩:=aR cL;obtain⟨tf,L⟩:=t;obtain⟨fk,fn,fmn,fmx,frs,frq,frc,fkq,fkl,fkc⟩:=tf;have hkl:fkl=L.length:=hta.node.kl;subst hkl;have hsz:szs L<2000:=by have:=dA (Tr.mk ⟨fk,fn,fmn,fmx,frs,frq,frc,fkq,L.length,fkc⟩ L);simp only [Tr.ks] at this;omega
 obtain⟨W,hW,B1,N1,R1⟩:=iK w ⟨fk,fn,fmn,fmx,frs,frq,frc,fkq,L.length,fkc⟩;have T1:=hta.kept B1;obtain⟨q',c',e,hml,-,hx⟩:=T1.node.k.slice;have HTK:Hid (∀ V u,wBl W V->u∈L->TA V u):=aA fun V u hV hu=>(T1.kept hV).kid hu;change ∀ (i:Nat) (t:Tr),L[i]?=some t->∃ g off,q'=some (aDr g off)/\g<W.heap.size/\Six W g (off+i*6) t.f at hx;change Value.slice fkq L.length fkc=Value.slice q' L.length c' at e;change ∀ u∈L,u.f.rs.length<=600000 at hrl;show Calls Tryz.prog 47 #[.agg #[.I fk,.I fn,.I fmn,.I fmx,.slice frq frs.length frc,.slice fkq L.length fkc]] w (RSays w.heap.size w (aN6 L));injection e with e1 _ e3;subst e1 e3;obtain⟨c0,c1,c2,c3,c4,c5⟩:=N1.six;simp only [m7] at c1 c2 c3 c4 c5;have hml':L.length<=9223372036854775807:=hml;have hLl:L.length<2000:=by have:=eZ L;omega
 have HH:=aA hx;have BB:=aA B1;have RR1:=aA R1;have NN1:=aA N1;have HS:=aA hsz;have HRL:=aA hrl;have LZ:=aC R1;obtain⟨OO,hOO⟩:∃ o,aN6 L=o:=⟨_,rfl⟩;rw [hOO];unfold aN6 at hOO;have HOO:=aA hOO;clear hta hs N1 R1 B1 T1 hsz hrl hx hml hOO;go_enter Tryz.func47,Tryz.ntmps47;go_upto_region 1 with fail
 go_wp2;go_loopw [13,4,5,6,7] (fun i s a f n wr=>∃ (j:Nat) (kq aq:Option Addr) (kc ac:Nat),j<=L.length/\i=.I (j:Int)/\s=.slice kq (osf (L.take j)).K.length kc/\a=.slice aq (osf (L.take j)).A.length ac/\f=.I ((osf (L.take j)).f:Int)/\n=.I ((osf (L.take j)).s:Int)/\WOr W (osf (L.take j)).K (osf (L.take j)).A kq kc aq ac wr) (fun i _ _ _ _ _=>L.length-(intOf i).toNat)
 case atStart=>exact⟨0,none,none,0,0,o9 _,rfl,rfl,rfl,rfl,rfl,aAY _ _ _ _,RR.nil _ _,Below.refl _ _⟩
 case round=>
  obtain⟨j,kq,aq,kc,ac,hj,rfl,rfl,rfl,rfl,rfl,hown⟩:=hrel;have HO:=aA hown;have hoi:=osi (L.take j);have hKl:(osf (L.take j)).K.length<=2000:=by
   have h1:=eZ (osf (L.take j)).K;have h2:=hoi.szs;have h3:=gC L j;have h4:=HS.o;omega
  have hAl:(osf (L.take j)).A.length<=1200000000:=by
   have h1:=aZ4 (l:=L.take j) (m:=600000) fun u hu=>HRL.o u (aAS hu);have h2:(L.take j).length<=2000:=(by rw [aAG];omega);have h3:=Nat.mul_le_mul_right 600000 h2;omega
  have hsl:(osf (L.take j)).s<=2000:=by
   rw [hoi.sets];have:=List.length_filter_le fX (L.take j);rw [aAG] at this;omega
  have hfl:(osf (L.take j)).f<=2000:=o0 hoi.lt hKl;have HOI:=aA hoi;clear hown hoi;by_cases hjl:j<L.length
  ·have i0:(j:Int)<(L.length:Int):=by omega
   obtain⟨u,hu⟩:∃ u,L[j]?=some u:=⟨_,g9 hjl⟩;obtain⟨g,off,hq,hg,six⟩:=HH.o j u hu;have hin:u∈L:=n8 hu;have hul:=HRL.o u hin;obtain⟨d0,d1,d2,d3,d4,d5⟩:=six.ck (CK.of_below HO.o.bel) hg;have HN:osf (L.take (j+1))=(osf (L.take j)).add u:=by
    rw [s7,hu];exact uL _ _
   have HNX:=aA HN;have K4:wBl wr (wr.alloc (.cells (nDf u.f) 25)):=bz9;have N4:Hid (BoxN (wr.alloc (.cells (nDf u.f) 25)) wr.heap.size u.f):=aD wr _;have O4:=aA (HO.o.kept K4);rw [hq];clear six hu K4 HN HOI;go_upto_region 7 with fail
   generalize (wr.alloc (.cells (nDf u.f) 25))=W4 at N4 O4 ⊢;clear d0 d1 d2 d3 d4 d5 HO;generalize osf (L.take j)=oo at HNX O4 hKl hAl hsl hfl ⊢;obtain⟨K,A,F,S⟩:=oo;dsimp only at O4 hKl hAl hsl hfl ⊢;obtain⟨n0,n1,n2,n3,n4,n5⟩:=N4.o.six;simp only [m7] at n1 n2 n3 n4 n5;by_cases k2:u.f.k=2
   ·have e2:(u.f.k==2)=true:=by simpa using k2
    have TU:=aA (HTK.o W4 u O4.o.bel hin);have AR:=TU.o.node.r;have step:∀ (V:World) (q6:Option Addr) (cap6:Nat),WOr W K (A++u.f.rs) kq kc q6 cap6 V->BoxN V wr.heap.size u.f->True:=fun _ _ _ _ _=>trivial;clear step;by_cases hS:1<=S
    ·have hS1:((S:Int)+1>1):=by omega
     have EN:=aA (show (OS.mk K A F S).add u=⟨K,A++u.f.rs,F,S+1⟩ by unfold OS.add;rw [if_pos k2,if_pos hS])
     cases hrq:u.f.rq with
     | none=>
      rw [hrq] at n4;have hrs:u.f.rs=[]/\u.f.rc=0:=by
       rw [hrq] at AR;rcases AR with⟨p,cap,e,h1,h2⟩ | ⟨g',off',cap,e,-⟩
       ·injection e with e1 _ e3;subst e1;exact⟨h1,e3.trans (h2 rfl)⟩
       ·cases e
      rw [hrs.1,hrs.2,List.length_nil] at n4;have HRS:=aA hrs;clear hrs AR;go_wp2_with (at_builtin;refine wpList_append_own_none rfl _ _ 22 rfl W.heap.size 53 s0 2 aY hjr (.slice aq A.length ac) A.length (aL A) rfl O4.o.ar rfl ?_)
      go_roundw
      case rel=>exact⟨j+1,kq,aq,kc,ac,by omega,by go_num,by rw [HNX.o,EN.o],by rw [HNX.o,EN.o,HRS.o.1,t9],by rw [HNX.o,EN.o],by rw [HNX.o,EN.o];go_num,by rw [HNX.o,EN.o,HRS.o.1,t9];exact O4.o⟩
      case measure=>simp only [intOf];omega
     | some ad=>
      rw [hrq] at n4 AR;have NW:=aA (AR.news);clear AR;go_wp2_with (at_builtin;refine wpList_append_own_at _ rfl _ _ 22 rfl W.heap.size 53 s0 (.agg #[.I 0,.I 0]) 2 16 aY hjr sz0 sz1 sz2 rfl (by decide) (.slice aq A.length ac) A.length (aL A) rfl O4.o.ar ad u.f.rs.length u.f.rc (aL u.f.rs) rfl (cI u.f.rs) NW.o (fY u.f.rs) (by unfold maxLen;omega) (by omega) O4.o.bel.size ?_;intro v' w6 hown' hgrow _ _;obtain⟨q6,cap6,rfl⟩:=aQ hown';obtain⟨h71,h72⟩:=O4.o.apA hown' hgrow;have O7:=aA h71;have EL:=aA h72;clear hown' hgrow h71 h72)
      go_roundw
      case rel=>exact⟨j+1,kq,q6,kc,cap6,by omega,by go_num,by rw [HNX.o,EN.o],by rw [HNX.o,EN.o,EL.o],by rw [HNX.o,EN.o],by rw [HNX.o,EN.o];go_num,by rw [HNX.o,EN.o];exact O7.o⟩
      case measure=>simp only [intOf];omega
    ·have hS0:S=0:=by omega
     subst hS0;have EN:=aA (show (OS.mk K A F 0).add u=⟨K++[u],A++u.f.rs,K.length,1⟩ by unfold OS.add;rw [if_pos k2,if_neg (by simp)])
     cases hrq:u.f.rq with
     | none=>
      rw [hrq] at n4;have hrs:u.f.rs=[]/\u.f.rc=0:=by
       rw [hrq] at AR;rcases AR with⟨p,cap,e,h1,h2⟩ | ⟨g',off',cap,e,-⟩
       ·injection e with e1 _ e3;subst e1;exact⟨h1,e3.trans (h2 rfl)⟩
       ·cases e
      have n4':=n4;rw [hrs.1,hrs.2,List.length_nil] at n4';have HRS:=aA hrs;have HRQ:=aA hrq;clear hrs AR hrq n4;clear k2;go_upto_region 12 with (at_builtin;refine wpList_append_own_none rfl _ _ 22 rfl W.heap.size 53 s0 2 aY hjr (.slice aq A.length ac) A.length (aL A) rfl O4.o.ar rfl ?_)
      clear n0 n1 n2 n3 n4' n5;have K6:wBl W4 (W4.alloc (.cells (nDf u.f) 25)):=bz9;have M6:=aA (gV (aD W4 (.cells (nDf u.f) 25)));have O6:=aA (O4.o.kept K6);obtain⟨n0,n1,n2,n3,n4,n5⟩:=N4.o.six;simp only [m7] at n1 n2 n3 n4 n5;clear K6;go_wp2_with (at_builtin;refine wpList_append_own_at _ rfl _ _ 23 rfl W.heap.size 25 t0 (.agg #[.I 0,.I 0,.I 0,.I 0,.slice none 0 0,.slice none 0 0]) 6 80 cQ hi hz0 hz1 hz2 rfl (by decide) (.slice kq K.length kc) K.length (aV K) rfl O6.o.kr (aDr W4.heap.size 0) 1 1 u.f.cells rfl rfl M6.o (fun v hv=>by simp [Fl.cells] at hv;rcases hv with rfl | rfl | rfl | rfl | rfl | rfl <;> rfl) (by unfold maxLen;omega) (by omega) O6.o.bel.size ?_;intro v' w6 hown' hgrow _ _;obtain⟨q6,cap6,rfl⟩:=aQ hown';have O7:=aA (O6.o.apK hown' hgrow);clear hown' hgrow)
      go_roundw
      case rel=>exact⟨j+1,q6,aq,cap6,ac,by omega,by go_num,by rw [HNX.o,EN.o];simp,by rw [HNX.o,EN.o,HRS.o.1,t9],by rw [HNX.o,EN.o],by rw [HNX.o,EN.o];rfl,by rw [HNX.o,EN.o,HRS.o.1,t9];exact O7.o⟩
      case measure=>simp only [intOf];omega
     | some ad=>
      have n4':=n4;rw [hrq] at n4' AR;have NW:=aA (AR.news);clear AR n4 k2 hrq;go_upto_region 12 with (at_builtin;refine wpList_append_own_at _ rfl _ _ 22 rfl W.heap.size 53 s0 (.agg #[.I 0,.I 0]) 2 16 aY hjr sz0 sz1 sz2 rfl (by decide) (.slice aq A.length ac) A.length (aL A) rfl O4.o.ar ad u.f.rs.length u.f.rc (aL u.f.rs) rfl (cI u.f.rs) NW.o (fY u.f.rs) (by unfold maxLen;omega) (by omega) O4.o.bel.size ?_;intro v' w5 hown' hgrow _ _;obtain⟨q5,cap5,rfl⟩:=aQ hown';obtain⟨h71,h72⟩:=O4.o.apA hown' hgrow;have O5:=aA h71;have EL:=aA h72;have N5:Hid (BoxN w5 wr.heap.size u.f):=aA ((hgrow.block _ (aC N4.o) (fun e=>dU O4.o.ar N4.o (by decide) e.symm)).trans N4.o);clear hown' hgrow h71 h72)
      clear n0 n1 n2 n3 n4' n5;have K6:wBl w5 (w5.alloc (.cells (nDf u.f) 25)):=bz9;have M6:=aA (gV (aD w5 (.cells (nDf u.f) 25)));have O6:=aA (O5.o.kept K6);obtain⟨n0,n1,n2,n3,n4,n5⟩:=N5.o.six;simp only [m7] at n1 n2 n3 n4 n5;clear K6;go_wp2_with (at_builtin;refine wpList_append_own_at _ rfl _ _ 23 rfl W.heap.size 25 t0 (.agg #[.I 0,.I 0,.I 0,.I 0,.slice none 0 0,.slice none 0 0]) 6 80 cQ hi hz0 hz1 hz2 rfl (by decide) (.slice kq K.length kc) K.length (aV K) rfl O6.o.kr (aDr w5.heap.size 0) 1 1 u.f.cells rfl rfl M6.o (fun v hv=>by simp [Fl.cells] at hv;rcases hv with rfl | rfl | rfl | rfl | rfl | rfl <;> rfl) (by unfold maxLen;omega) (by omega) O6.o.bel.size ?_;intro v' w6 hown' hgrow _ _;obtain⟨q6,cap6,rfl⟩:=aQ hown';have O7:=aA (O6.o.apK hown' hgrow);clear hown' hgrow)
      go_roundw
      case rel=>exact⟨j+1,q6,q5,cap6,cap5,by omega,by go_num,by rw [HNX.o,EN.o];simp,by rw [HNX.o,EN.o,EL.o],by rw [HNX.o,EN.o],by rw [HNX.o,EN.o];rfl,by rw [HNX.o,EN.o];exact O7.o⟩
      case measure=>simp only [intOf];omega
   ·have e2:(u.f.k==2)=false:=by simpa using k2
    have EN:=aA (show (OS.mk K A F S).add u=⟨K++[u],A,F,S⟩ by unfold OS.add;rw [if_neg k2]);go_upto_region 12 with fail
    clear n0 n1 n2 n3 n4 n5;have K6:wBl W4 (W4.alloc (.cells (nDf u.f) 25)):=bz9;have M6:=aA (gV (aD W4 (.cells (nDf u.f) 25)));have O6:=aA (O4.o.kept K6);obtain⟨n0,n1,n2,n3,n4,n5⟩:=N4.o.six;simp only [m7] at n1 n2 n3 n4 n5;clear K6;go_wp2_with (at_builtin;refine wpList_append_own_at _ rfl _ _ 23 rfl W.heap.size 25 t0 (.agg #[.I 0,.I 0,.I 0,.I 0,.slice none 0 0,.slice none 0 0]) 6 80 cQ hi hz0 hz1 hz2 rfl (by decide) (.slice kq K.length kc) K.length (aV K) rfl O6.o.kr (aDr W4.heap.size 0) 1 1 u.f.cells rfl rfl M6.o (fun v hv=>by simp [Fl.cells] at hv;rcases hv with rfl | rfl | rfl | rfl | rfl | rfl <;> rfl) (by unfold maxLen;omega) (by omega) O6.o.bel.size ?_;intro v' w6 hown' hgrow _ _;obtain⟨q6,cap6,rfl⟩:=aQ hown';have O7:=aA (O6.o.apK hown' hgrow);clear hown' hgrow)
    go_roundw
    case rel=>exact⟨j+1,q6,aq,cap6,ac,by omega,by go_num,by rw [HNX.o,EN.o];simp,by rw [HNX.o,EN.o],by rw [HNX.o,EN.o],by rw [HNX.o,EN.o],by rw [HNX.o,EN.o];exact O7.o⟩
    case measure=>simp only [intOf];omega
  ·have i0:¬ (j:Int)<(L.length:Int):=by omega
   have he:L.take j=L:=o4 (by omega);rw [he] at HO HOI hKl hAl hsl hfl ⊢;have hbel:=HO.o.bel;have R5:=aA ((hbel.block _ LZ).trans RR1.o);have hwr:=aA (aG BB.o hbel lz9);have hs:=HOI.o.sets;by_cases h2:2<=(L.filter fX).length
   ·have hoo:=HOO.o;rw [if_pos h2] at hoo;have hs2:¬ ((osf L).s:Int)<2:=(by omega);obtain⟨x0,hx0,hk0,hmap⟩:=HOI.o.some (by omega);have hflt:(osf L).f<(osf L).K.length:=(m8.1 hx0).1;have hrg:=HOI.o.ranges;have hsub:=HOI.o.sub;have hszk:=HOI.o.szs;rw [<- hrg] at hoo;clear HOI he hs;generalize osf L=oo at *;obtain⟨K,A,F,S⟩:=oo;dsimp only at HO hKl hAl hsl hfl hs2 hx0 hmap hflt hrg hsub hszk hoo ⊢;obtain⟨g,ek,hKR,hkc,hgW⟩:∃ g:Nat,kq=some (aDr g 0)/\KR wr g K/\(K.length<=kc/\kc<=maxLen)/\W.heap.size<=g:=by
     have hkr:=HO.o.kr;rcases hkr.2 with⟨e,hn⟩ | ⟨g,cap,cur,e,h1,h2',h3,h4,_⟩
     ·exfalso;omega
     ·injection e with e1 _ e3;subst e1 e3;exact⟨g,rfl,KR.of_row hkr,⟨h3,h4⟩,h1⟩
    subst ek;have hFit:Fit A:=by
     rw [hrg];intro r hr;obtain⟨u,hu,hr⟩:=aBJ.1 hr;exact(HTK.o W u (Below.refl _ _) (aAF.1 hu).1).node.fit r hr
    have OC:=aA (bQ1 (w:=wr) HO.o.ar.arg (RR.nil 0 wr).arg hFit eM (by simp;omega));have HKR:=aA hKR;have HUN:=aA (bG0 hFit);have f0:(0:Int)<=(F:Int):=(by omega);have f1:(F:Int)<(K.length:Int):=(by omega);have h0:x0∈K:=n8 hx0;have HX0:=aA hx0;have HMAP:=aA hmap;have HSUB:=aA hsub;have HSZK:=aA hszk;have HBEL:=aA hbel;have hx0s:x0.sz<=2000:=by
     have h1:=HS.o;have h2':x0.sz<=szs L:=by
      have:∀ l:List Tr,x0∈l->x0.sz<=szs l:=by
       intro l
       induction l with
       | nil=>intro h;cases h
       | cons y l ih=>
        intro h;rw [bE];rcases u0.1 h with rfl | h
        ·omega
        ·have:=ih h;omega
      exact this L (hsub x0 h0)
     omega
    have HX0S:=aA (show szs K+x0.sz<1000000 by have:=HS.o;omega);clear hKR hFit hx0 hmap hsub hszk hbel hrg hx0s HOO HRL HH c0 c1 c2 c3 c4 c5;go_upto_region 17 with (go_at_call 72;(with_reducible refine OC.o.mono ?_);rintro e w5 ⟨v5,C,rfl,h51,h52,h53,h54⟩;obtain⟨q5,c5,rfl⟩:=h51.shape;have X5:=aA h51;have Y5:=aA h52;have Z5:=aA h53;have B5:=aA h54;have K5:=aA (HKR.o.kept h54);have k4:=(HKR.o.kept h54).six F x0 HX0.o |>.2.2.2.2.1;have fz:=fun z=>(HKR.o.kept h54).frz z;clear h51 h52 h53 h54)
    have hC:C=unC A:=Y5.o.one HUN.o (fun c=>⟨fun q=>q.elim id (fun q=>absurd q (fH c)),.inl⟩);have F6:=aA ((Fr.refl (fun z=>z=g) w5).setCell (p:=⟨g,F*6+4,none⟩) rfl (.slice q5 C.length c5));have K6:=aA (K5.o.set4 HX0.o C q5 c5);have B6:Hid (wBl W (w5.setCell ⟨g,F*6+4,none⟩ (.slice q5 C.length c5))):=aA (bB (aG HBEL.o B5.o lz9) F6.o lz9 (fun k e=>by omega));have X6:Hid (RR wr.heap.size (w5.setCell ⟨g,F*6+4,none⟩ (.slice q5 C.length c5)) (.slice q5 C.length c5) C):=aA (X5.o.fr F6.o (fun k hk e=>by
     subst e;obtain⟨cur,hc⟩:=K5.o.blk;exact dU X5.o hc (by decide) hk))
    generalize (w5.setCell ⟨g,F*6+4,none⟩ (.slice q5 C.length c5))=w6 at F6 K6 B6 X6 ⊢;clear k4 fz OC;have hlen6:(K.set F (reR x0 C q5 c5)).length=K.length:=aAQ;have AC:=bF3 (w:=w6) (q:=some (aDr g 0)) (c:=kc) (l:=K.set F (reR x0 C q5 c5)) (K6.o.arg (by rw [hlen6];exact hkc.1) hkc.2) (fun v hv=>by
     rcases List.mem_or_eq_of_mem_set hv with q | q
     ·exact HTK.o w6 v B6.o (HSUB.o v q)
     ·subst q;exact bJ1 (HTK.o w6 x0 B6.o (HSUB.o x0 h0)) X6.o Y5.o.fit (by have:=Z5.o;simp at this;omega)) (by
     have h1:=aW3 K F (reR x0 C q5 c5);rw [bJ2] at h1;have:=HX0S.o;omega)
    rw [wC,HMAP.o C (reR x0 C q5 c5) (bJ3 x0 C q5 c5),hlen6,hC] at AC;have hoo':some _=OO:=hoo;obtain⟨X,hX⟩:∃ X,gI 6 ((mB (unC A) false (L.map er)).flatMap fun e=>if e.kd=6 then e.ks else [e]) (.mk 2 0 0 0 [] [])=X:=⟨_,rfl⟩;rw [hX] at AC hoo';subst hoo';have HAC:=aA AC;have R6:=aA ((B6.o.block _ LZ).trans RR1.o);have BW:=aA (aG BB.o B6.o lz9);clear AC hX hoo hC;go_wp2_with (go_at_call 73;(with_reducible refine HAC.o.mono ?_);rintro e w7 ⟨t7,rfl,h61,h62,h63,h64⟩;have R7:=(h64.block _ (aC R6.o)).trans R6.o;have E0:=aA (oP t7 (aG BW.o h64 lz9) R7 (aCA _) h61 (h62.mono fun k hk=>o8 (aC R6.o) hk));have F0:=aA (h62.mono fun k (hk:w6.heap.size<=k)=>o0 BW.o.size hk);have r0:=aB R7 (i:=0) rfl;have r1:=aB R7 (i:=1) rfl;have r2:=aB R7 (i:=2) rfl;have r3:=aB R7 (i:=3) rfl;have r4:=aB R7 (i:=4) rfl;have r5:=aB R7 (i:=5) rfl;have fz:=fun z=>aK R7 z;have HX:=aA h63;clear h61 h62 h63 h64 R7)
    exact jG E0.o.1 rfl rfl rfl ⟨t7.f,rfl,E0.o.2.1,fun x hx=>⟨t7,rfl,E0.o.2.2,F0.o,by cases hx;exact HX.o⟩⟩
   ·have hoo:=HOO.o;rw [if_neg h2] at hoo;subst hoo;have hs2:((osf L).s:Int)<2:=(by omega);have E0:=aA (mF hwr.o R5.o (aCA _));have r0:=aB R5.o (i:=0) rfl;have r1:=aB R5.o (i:=1) rfl;have r2:=aB R5.o (i:=2) rfl;have r3:=aB R5.o (i:=3) rfl;have r4:=aB R5.o (i:=4) rfl;have r5:=aB R5.o (i:=5) rfl;have fz:=fun z=>aK R5.o z;go_wp2;exact jG E0.o.1 rfl rfl rfl ⟨gB 0,rfl,E0.o.2,fun x hx=>by cases hx⟩
end
section
variable (un:lIi->lIi)
noncomputable def nf:Ps->Ps
 | .lf k n rs=>.lf k n rs
 | .grp n x=>.grp n x
 | .rep a b x=>iL a b x
 | .row l=>jC l
 | .alt l=>kO un l
noncomputable def gL:Ps->Ps
 | .lf k n rs=>.lf k n rs
 | .grp n x=>.grp n (sim un x)
 | .rep a b x=>.rep a b (sim un x)
 | .row l=>.row (l.map (sim un))
 | .alt l=>.alt (l.map (sim un))
theorem bH8(x:Ps):sim un x=nf un (gL un x):=by
 cases x with
 | lf k n rs=>rw [sim];rfl
 | grp n y=>rw [sim];rfl
 | rep a b y=>rw [sim];rfl
 | row l=>rw [sim,cY];rfl
 | alt l=>rw [sim,cY];rfl
def shp:Ps->Prop
 | .lf k _ _=>k=2\/k=3\/k=4\/k=8
 | .grp _ _=>True
 | .rep _ _ x=>fW x=true\/x=.row []
 | .row l=>l.length≠1/\∀ x∈l,iB x=true\/x=.row []
 | .alt l=>2<=l.length/\∀ x∈l,kQ x=true
structure Nd(z:Ps):Prop where
 kw:∀ y∈z.kids,wf y
 kn:∀ y∈z.kids,nrm y
 sh:shp z
theorem bF7{z:Ps}(h:wf z):shp z:=by
 cases z with
 | lf k n rs=>rw [wf] at h;exact h
 | grp n y=>trivial
 | rep a b y=>rw [wf] at h;exact .inl h.1
 | row l=>
  rw [wf] at h;refine⟨h.1,fun x hx=>?_⟩;obtain⟨i,hi⟩:=List.mem_iff_getElem?.1 hx;exact .inl (h.2.1 i x hi).1
 | alt l=>rw [wf] at h;exact⟨h.1,h.2.1⟩
theorem aZ9{x y:Ps}(h:nrm x)(hy:y∈x.kids):nrm y:=by
 cases x with
 | lf k n rs=>cases hy
 | grp n k=>simp [Ps.kids] at hy;subst hy;rw [nrm] at h;exact h
 | rep a b k=>simp [Ps.kids] at hy;subst hy;rw [nrm] at h;exact h.2.2.2.2
 | row l=>rw [nrm] at h;exact(eL l).1 h.2 y hy
 | alt l=>rw [nrm] at h;exact(eL l).1 h.2.2 y hy
theorem Nd.of{z:Ps}(h:wf z)(hn:nrm z):Nd z:=⟨fun _ hy=>eJ h hy,fun _ hy=>aZ9 hn hy,bF7 h⟩
theorem Nd.ofk{x:Ps}(h:wf x):Nd (gL un x):=by
 cases x with
 | lf k n rs=>exact⟨fun y hy=>(by cases hy),fun y hy=>(by cases hy),(by rw [wf] at h;exact h)⟩
 | grp n k=>
  rw [wf] at h;exact⟨fun y hy=>(by simp [gL,Ps.kids] at hy;subst hy;exact pB un k h),fun y hy=>(by simp [gL,Ps.kids] at hy;subst hy;exact oS un k),trivial⟩
 | rep a b k=>
  rw [wf] at h;exact⟨fun y hy=>(by simp [gL,Ps.kids] at hy;subst hy;exact pB un k h.2),fun y hy=>(by simp [gL,Ps.kids] at hy;subst hy;exact oS un k),oL un k h.2 h.1⟩
 | row l=>
  rw [wf] at h;refine⟨fun y hy=>?_,fun y hy=>?_,by simpa using h.1,fun y hy=>?_⟩
  ·obtain⟨x,hx,rfl⟩:=s4.1 hy;exact pB un x ((dC l).1 h.2.2 x hx)
  ·obtain⟨x,hx,rfl⟩:=s4.1 hy;exact oS un x
  ·obtain⟨x,hx,rfl⟩:=s4.1 hy;obtain⟨i,hi⟩:=List.mem_iff_getElem?.1 hx;rcases tA un ((dC l).1 h.2.2 x hx) (h.2.1 i x hi).1 with e | e
   ·exact .inl e.1
   ·exact .inr e
 | alt l=>
  rw [wf] at h;refine⟨fun y hy=>?_,fun y hy=>?_,by simpa using h.1,fun y hy=>?_⟩
  ·obtain⟨x,hx,rfl⟩:=s4.1 hy;exact pB un x ((dC l).1 h.2.2 x hx)
  ·obtain⟨x,hx,rfl⟩:=s4.1 hy;exact oS un x
  ·obtain⟨x,hx,rfl⟩:=s4.1 hy;have hw:=(dC l).1 h.2.2 x hx;exact aT8 un x hw (h.2.1 x hx) (fun y hy=>eJ hw hy)
noncomputable def stp:Ps->Option Ps
 | .rep a b x=>if a=1/\b=1 then some x else if a=0/\b=-1/\kS x=true then some x else if b=0/\grs x=0 then some (.row []) else if isE x then some (.row []) else none
 | .row l=>if l.any isE then some (mkB (l.filter fun x=>!isE x)) else none
 | .alt l=>if 2<=(l.filter isS).length then some (mkP (bV (un ((l.filter isS).flatMap rsP)) false l)) else if (aW [] l).length=l.length then none else some (mkP (aW [] l))
 | _=>none
theorem gH{x:Ps}(h:wf x)(hn:nrm x):nf un x=x:=by
 cases x with
 | lf k n rs=>rfl
 | grp n y=>rfl
 | rep a b y=>
  rw [nrm] at hn;obtain⟨h1,h2,h3,h4,h5⟩:=hn;show iL a b y=_;unfold iL;rw [if_neg h1,if_neg h2,if_neg h3,if_neg (by rw [h4];simp)]
 | row l=>
  rw [nrm] at hn;show jC l=_;unfold jC;rw [if_neg];intro h;obtain⟨z,hz,e⟩:=aAX.1 h;rw [hn.1 z hz] at e;cases e
 | alt l=>
  rw [nrm] at hn;show kO un l=_;unfold kO bG;rw [if_neg (by have:=hn.1;omega),pF l [] (by rw [aAI];exact hn.2.1),aAI];rw [wf] at h
  match l,h.1 with
  | x :: y :: r,_=>rfl
theorem sK:nrm (.row []):=by rw [nrm];exact⟨fun _ h=>(by cases h),(eL _).2 (fun _ h=>by cases h)⟩
theorem yN:wf (.row []):=by rw [wf];exact⟨by simp,fun i x h=>by simp at h,trivial⟩
theorem Nd.no:Nd (.row []):=Nd.of yN sK
theorem qX(l:List Ps):∀ acc:List Ps,(aW acc l).length<=acc.length+l.length/\((aW acc l).length=acc.length+l.length->aW acc l=acc++l):=by
 induction l with
 | nil=>intro acc;rw [aW];simp
 | cons x l ih=>
  intro acc;rw [aW]
  split
  ·obtain⟨h1,h2⟩:=ih acc;rw [o7];exact⟨by omega,fun e=>by omega⟩
  ·obtain⟨h1,h2⟩:=ih (acc++[x]);rw [o5,aBP] at h1 h2;rw [o7];exact⟨by omega,fun e=>by rw [h2 (by omega),r8];rfl⟩
theorem wR(u:lIi)(l:List Ps):bV u true l=l.filter fun x=>!isS x:=by
 induction l with
 | nil=>rfl
 | cons x l ih=>
  rw [bV,aAV];by_cases h:isS x=true
  ·rw [if_pos h,if_pos rfl,ih];simp [h]
  ·rw [if_neg h,ih];simp [h]
theorem aB8(u:lIi)(l:List Ps):((bV u false l).filter isS).length<=1:=by
 induction l with
 | nil=>simp [bV]
 | cons x l ih=>
  rw [bV];by_cases h:isS x=true
  ·rw [if_pos h,if_neg (by decide),wR,aAV,List.filter_filter];have:(l.filter fun a=>isS a && !isS a)=[]:=by
    rw [List.filter_eq_nil_iff];intro a _;simp
   rw [this]
   split <;> simp
  ·rw [if_neg h,aAV,if_neg h];exact ih
theorem aF0(l:List Ps):bG un (bG un l)=bG un l:=by
 unfold bG;by_cases h:2<=(l.filter isS).length
 ·rw [if_pos h,if_neg (by have:=aB8 (un ((l.filter isS).flatMap rsP)) l;omega)]
 ·rw [if_neg h,if_neg h]
theorem aD5(u:lIi)(l:List Ps):bU (bV u true l)+(l.filter isS).length<=bU l:=by
 induction l with
 | nil=>simp [bV]
 | cons x l ih=>
  have hx:=gG x;rw [bV,aAV];by_cases h:isS x=true
  ·rw [if_pos h,if_pos h,if_pos rfl,o7,bU];omega
  ·rw [if_neg h,if_neg h,bU,bU];omega
theorem xF(u:lIi)(l:List Ps)(h0:1<=(l.filter isS).length):bU (bV u false l)+(l.filter isS).length<=bU l+1:=by
 induction l with
 | nil=>simp at h0
 | cons x l ih=>
  have hx:=gG x;rw [aAV] at h0;rw [bV,aAV];by_cases h:isS x=true
  ·rw [if_pos h,if_pos h,if_neg (by decide),o7,bU,bU,Ps.sz];have:=aD5 u l;omega
  ·rw [if_neg h] at h0;rw [if_neg h,if_neg h,bU,bU];have:=ih h0;omega
theorem aD6(l:List Ps):∀ acc:List Ps,bU (aW acc l)+(acc.length+l.length)<=bU acc+bU l+(aW acc l).length:=by
 induction l with
 | nil=>intro acc;rw [aW,bU];simp
 | cons x l ih=>
  intro acc;have hx:=gG x;rw [aW,bU,o7]
  split
  ·have:=ih acc;omega
  ·have:=ih (acc++[x]);rw [uF,o5,aBP,bU,bU] at this;omega
theorem aM7(l:List Ps)(h:l.any isE=true):bU (l.filter fun x=>!isE x)<bU l:=by
 induction l with
 | nil=>simp at h
 | cons x l ih=>
  have hx:=gG x;have hle:=oC (fun x=>!isE x) l;rw [aAV];by_cases he:isE x=true
  ·rw [if_neg (by simp [he]),bU];omega
  ·rw [if_pos (by simpa using he),bU,bU];have:=ih (by rw [aCC] at h;simpa [he] using h);omega
theorem zL(un:lIi->lIi){m:List Ps}(hm:m≠[])(h1:∀ x∈m,nf un x=x):nf un (mkP m)=mkP (aW [] (bG un m)):=by
 match m,hm,h1 with
 | [x],_,h1=>
  show nf un x=_;rw [h1 x (by simp)];have:bG un [x]=[x]:=by
   unfold bG;rw [if_neg];rw [aAV]
   split <;> simp
  rw [this,aW,if_neg (by simp),aW]
  rfl
 | x :: y :: r,_,_=>rfl
theorem Nd.ofP{m:List Ps}(hm:m≠[])(hw:∀ y∈m,wf y)(hn:∀ y∈m,nrm y)(hb:∀ y∈m,kQ y=true):Nd (mkP m):=by
 match m,hm,hw,hn,hb with
 | [x],_,hw,hn,_=>exact Nd.of (hw x (by simp)) (hn x (by simp))
 | x :: y :: r,_,hw,hn,hb=>exact⟨hw,hn,by simp,hb⟩
theorem aK0{z z':Ps}(h:Nd z)(e:stp un z=some z'):Nd z'/\nf un z'=nf un z/\z'.sz<z.sz:=by
 cases z with
 | lf k n rs=>cases e
 | grp n x=>cases e
 | rep a b x=>
  have hw:=h.kw x (by simp [Ps.kids]);have hn:=h.kn x (by simp [Ps.kids]);have hp:=gG x;simp only [stp] at e;show _/\_=iL a b x/\_;unfold iL;by_cases h1:a=1/\b=1
  ·rw [if_pos h1] at e ⊢;cases e;exact⟨Nd.of hw hn,gH un hw hn,by rw [Ps.sz];omega⟩
  rw [if_neg h1] at e ⊢;by_cases h2:a=0/\b=-1/\kS x=true
  ·rw [if_pos h2] at e ⊢;cases e;exact⟨Nd.of hw hn,gH un hw hn,by rw [Ps.sz];omega⟩
  rw [if_neg h2] at e ⊢;by_cases h3:b=0/\grs x=0
  ·rw [if_pos h3] at e ⊢;cases e;exact⟨Nd.no,gH un yN sK,by rw [Ps.sz,Ps.sz,bU];omega⟩
  rw [if_neg h3] at e ⊢;by_cases h4:isE x=true
  ·rw [if_pos h4] at e ⊢;cases e;exact⟨Nd.no,gH un yN sK,by rw [Ps.sz,Ps.sz,bU];omega⟩
  rw [if_neg h4] at e;cases e
 | row l=>
  simp only [stp] at e;show _/\_=jC l/\_;unfold jC;by_cases ha:l.any isE=true
  ·rw [if_pos ha] at e ⊢;cases e;have hk:∀ y∈l.filter (fun x=>!isE x),y∈l/\isE y=false:=fun y hy=>⟨(aAF.1 hy).1,by simpa using (aAF.1 hy).2⟩;have hsz:=aM7 l ha;have hle:=uR (l.filter fun x=>!isE x);refine⟨?_,?_,by rw [Ps.sz];omega⟩
   ·generalize hm:l.filter (fun x=>!isE x)=m at hk
    match m,hk with
    | [],_=>exact Nd.no
    | [x],hk=>exact Nd.of (h.kw x (hk x (by simp)).1) (h.kn x (hk x (by simp)).1)
    | x :: y :: r,hk=>exact⟨fun u hu=>h.kw u (hk u hu).1,fun u hu=>h.kn u (hk u hu).1,by simp,fun u hu=>(h.sh.2 u (hk u hu).1)⟩
   ·generalize hm:l.filter (fun x=>!isE x)=m at hk
    match m,hk with
    | [],_=>exact gH un yN sK
    | [x],hk=>exact gH un (h.kw x (hk x (by simp)).1) (h.kn x (hk x (by simp)).1)
    | x :: y :: r,hk=>
     show jC (x :: y :: r)=.row (x :: y :: r);unfold jC;rw [if_neg];intro q;obtain⟨z,hz,e⟩:=aAX.1 q;rw [(hk z hz).2] at e;cases e
  ·rw [if_neg ha] at e;cases e
 | alt l=>
  have hl2:=h.sh.1;simp only [stp] at e;by_cases hs:2<=(l.filter isS).length
  ·rw [if_pos hs] at e;cases e;have hj:bG un l=bV (un ((l.filter isS).flatMap rsP)) false l:=(by unfold bG;rw [if_pos hs]);rw [<- hj];have hmem:∀ y∈bG un l,wf y/\nrm y/\kQ y=true:=fun y hy=>by
    rcases kH un hy with⟨u,rfl⟩ | hy
    ·exact⟨by rw [wf];exact .inl rfl,by rw [nrm];trivial,rfl⟩
    ·exact⟨h.kw y hy,h.kn y hy,h.sh.2 y hy⟩
   have hne:bG un l≠[]:=uY un (fun e=>by rw [e] at hl2;simp at hl2);refine⟨Nd.ofP hne (fun y hy=>(hmem y hy).1) (fun y hy=>(hmem y hy).2.1) (fun y hy=>(hmem y hy).2.2),?_,?_⟩
   ·rw [zL un hne fun x hx=>gH un (hmem x hx).1 (hmem x hx).2.1,aF0];rfl
   ·have h1:=xF (un ((l.filter isS).flatMap rsP)) l (by omega);rw [<- hj] at h1;have h2:=qC (bG un l);rw [Ps.sz];omega
  ·rw [if_neg hs] at e;have hj:bG un l=l:=(by unfold bG;rw [if_neg hs]);by_cases ht:(aW [] l).length=l.length
   ·rw [if_pos ht] at e;cases e
   ·rw [if_neg ht] at e;cases e;have hmem:∀ y∈aW [] l,y∈l:=fun y hy=>((cX l [] y).1 hy).resolve_left (fun q=>by cases q);have hne:aW [] l≠[]:=pG (fun e=>by rw [e] at hl2;simp at hl2);have hfew:((aW [] l).filter isS).length<2:=(by have:=tV un l;rw [hj] at this;exact this);have hj2:bG un (aW [] l)=aW [] l:=(by unfold bG;rw [if_neg (by omega)]);refine⟨Nd.ofP hne (fun y hy=>h.kw y (hmem y hy)) (fun y hy=>h.kn y (hmem y hy)) (fun y hy=>h.sh.2 y (hmem y hy)),?_,?_⟩
    ·rw [zL un hne fun x hx=>gH un (h.kw x (hmem x hx)) (h.kn x (hmem x hx)),hj2,pF _ [] (by rw [aAI];exact jF l [] List.nodup_nil),aAI];show _=kO un l;unfold kO;rw [hj]
    ·have h1:=aD6 l [];have h2:=(qX l []).1;have h3:=qC (aW [] l);rw [bU] at h1;rw [List.length_nil] at h1 h2;rw [Ps.sz];omega
theorem aK1{z:Ps}(h:Nd z)(e:stp un z=none):nf un z=z:=by
 cases z with
 | lf k n rs=>rfl
 | grp n x=>rfl
 | rep a b x=>
  simp only [stp] at e;show iL a b x=_;unfold iL;by_cases h1:a=1/\b=1
  ·rw [if_pos h1] at e;cases e
  rw [if_neg h1] at e ⊢;by_cases h2:a=0/\b=-1/\kS x=true
  ·rw [if_pos h2] at e;cases e
  rw [if_neg h2] at e ⊢;by_cases h3:b=0/\grs x=0
  ·rw [if_pos h3] at e;cases e
  rw [if_neg h3] at e ⊢;by_cases h4:isE x=true
  ·rw [if_pos h4] at e;cases e
  rw [if_neg h4]
 | row l=>
  simp only [stp] at e;show jC l=_;unfold jC;by_cases ha:l.any isE=true
  ·rw [if_pos ha] at e;cases e
  ·rw [if_neg ha]
 | alt l=>
  simp only [stp] at e;by_cases hs:2<=(l.filter isS).length
  ·rw [if_pos hs] at e;cases e
  ·rw [if_neg hs] at e;by_cases ht:(aW [] l).length=l.length
   ·have:=(qX l []).2 (by simpa using ht);show kO un l=_;unfold kO bG;rw [if_neg hs,this,aAI];have:=h.sh.1
    match l,this with
    | x :: y :: r,_=>rfl
   ·rw [if_neg ht] at e;cases e
end
theorem dS(x:Ps):(te x).kd=x.kd:=by
 cases x with
 | lf k n rs=>rw [te];rfl
 | grp n y=>rw [te];rfl
 | rep a b y=>rw [te];rfl
 | row l=>
  rw [te];simp only [Ps.kd];by_cases h:l.isEmpty=true
  ·rw [if_pos h,if_pos h];rfl
  ·rw [if_neg h,if_neg h];rfl
 | alt l=>rw [te];rfl
theorem kT{k n:Int}{rs:lIi}(h:wf (.lf k n rs)):k=2\/k=3\/k=4\/k=8:=by rw [wf] at h;exact h
theorem yT{l m:List Ps}(h:∀ x∈l,∀ y∈m,te x=te y->x=y)(e:l.map te=m.map te):l=m:=by
 induction l generalizing m with
 | nil=>cases m with
  | nil=>rfl
  | cons y m=>simp at e
 | cons x l ih=>
  cases m with
  | nil=>simp at e
  | cons y m=>
   rw [s6,s6] at e;injection e with e1 e2;rw [h x (n9 ..) y (n9 ..) e1,ih (fun a ha b hb=>h a (m9 _ ha) b (m9 _ hb)) e2]
theorem bG7(x:Ps):∀ y,wf x->wf y->te x=te y->x=y:=by
 refine Ps.ind (P:=fun x=>∀ y,wf x->wf y->te x=te y->x=y) (fun x ih=>?_) x;intro y hx hy e;have hk:x.kd=y.kd:=by rw [<- dS,<- dS,e]
 cases x with
 | lf k n rs=>
  have h1:=kT hx
  cases y with
  | lf k' n' rs'=>rw [te,te] at e;cases e;rfl
  | grp n' y=>simp only [Ps.kd] at hk;omega
  | rep a b y=>simp only [Ps.kd] at hk;omega
  | row l=>simp only [Ps.kd] at hk;split at hk <;> omega
  | alt l=>simp only [Ps.kd] at hk;omega
 | grp n x=>
  cases y with
  | lf k' n' rs'=>have h1:=kT hy;simp only [Ps.kd] at hk;omega
  | grp n' y=>
   rw [te,te] at e;injection e with e1 e2 e3 e4 e5 e6;injection e6 with e7 e8;rw [ih x (by simp [Ps.kids]) y (eJ hx (by simp [Ps.kids])) (eJ hy (by simp [Ps.kids])) e7]
   congr 1
   omega
  | rep a b y=>simp only [Ps.kd] at hk;omega
  | row l=>simp only [Ps.kd] at hk;split at hk <;> omega
  | alt l=>simp only [Ps.kd] at hk;omega
 | rep a b x=>
  cases y with
  | lf k' n' rs'=>have h1:=kT hy;simp only [Ps.kd] at hk;omega
  | grp n' y=>simp only [Ps.kd] at hk;omega
  | rep a' b' y=>
   rw [te,te] at e;injection e with e1 e2 e3 e4 e5 e6;injection e6 with e7 e8;rw [ih x (by simp [Ps.kids]) y (eJ hx (by simp [Ps.kids])) (eJ hy (by simp [Ps.kids])) e7,e3,e4]
  | row l=>simp only [Ps.kd] at hk;split at hk <;> omega
  | alt l=>simp only [Ps.kd] at hk;omega
 | row l=>
  cases y with
  | lf k' n' rs'=>have h1:=kT hy;simp only [Ps.kd] at hk;split at hk <;> omega
  | grp n' y=>simp only [Ps.kd] at hk;split at hk <;> omega
  | rep a b y=>simp only [Ps.kd] at hk;split at hk <;> omega
  | row m=>
   rw [te,te] at e
   congr 1
   by_cases h1:l.isEmpty=true
   ·by_cases h2:m.isEmpty=true
    ·rw [List.isEmpty_iff] at h1 h2;rw [h1,h2]
    ·rw [if_pos h1,if_neg h2] at e;cases e
   ·by_cases h2:m.isEmpty=true
    ·rw [if_neg h1,if_pos h2] at e;cases e
    ·rw [if_neg h1,if_neg h2,bP,bP] at e;injection e with e1 e2 e3 e4 e5 e6;exact yT (fun a ha b hb=>ih a ha b (eJ hx ha) (eJ hy hb)) e6
  | alt m=>simp only [Ps.kd] at hk;split at hk <;> omega
 | alt l=>
  cases y with
  | lf k' n' rs'=>have h1:=kT hy;simp only [Ps.kd] at hk;omega
  | grp n' y=>simp only [Ps.kd] at hk;omega
  | rep a b y=>simp only [Ps.kd] at hk;omega
  | row m=>simp only [Ps.kd] at hk;split at hk <;> omega
  | alt m=>
   rw [te,te,bP,bP] at e;injection e with e1 e2 e3 e4 e5 e6
   congr 1
   exact yT (fun a ha b hb=>ih a ha b (eJ hx ha) (eJ hy hb)) e6
theorem aQ9(t:Tr)(p:Way):∀ (ks:List Tr) (i:Nat),(∀ u∈ks,∀ p,aN (pp p u)=aN (pp [] u))->aN (pps t p i ks)=(ks.map fun u=>aN (pp [] u)).sum:=by
 intro ks
 induction ks with
 | nil=>intro i _;rw [pps];rfl
 | cons u ks ih=>
  intro i h;rw [pps,dB,h u (n9 ..),ih (i+1) fun v hv=>h v (m9 _ hv),s6,List.sum_cons]
theorem rI(t:Tr):∀ p,aN (pp p t)=(if t.f.k=7 then 1 else 0)+(t.ks.map fun u=>aN (pp [] u)).sum:=by
 refine Tr.ind (P:=fun t=>∀ p,aN (pp p t)=(if t.f.k=7 then 1 else 0)+(t.ks.map fun u=>aN (pp [] u)).sum) (fun t ih=>?_) t;intro p;have hp:∀ u∈t.ks,∀ p,aN (pp p u)=aN (pp [] u):=fun u hu p=>by rw [ih u hu p,ih u hu []]
 rw [bX,show ((p,t) :: pps t p 0 t.ks)=[(p,t)]++pps t p 0 t.ks from rfl,dB,aQ9 t p t.ks 0 hp];simp [aN]
theorem bB0(x:Ps):∀ t:Tr,er t=te x->wf x->aN (pp [] t)=grs x:=by
 refine Ps.ind (P:=fun x=>∀ t:Tr,er t=te x->wf x->aN (pp [] t)=grs x) (fun x ih=>?_) x;intro t e hw;have hk:t.f.k=x.kd:=by rw [<- dR,e,dS]
 have hl:∀ (l:List Ps) (ks:List Tr),(∀ y∈l,y∈x.kids)->ks.map er=l.map te->(ks.map fun u=>aN (pp [] u)).sum=bT l:=by
  intro l
  induction l with
  | nil=>intro ks _ e;rw [List.map_eq_nil_iff.1 e];rfl
  | cons y l ih2=>
   intro ks hs e
   cases ks with
   | nil=>simp at e
   | cons u ks=>
    rw [s6,s6] at e;injection e with e1 e2;rw [s6,List.sum_cons,bT,ih y (hs y (n9 ..)) u e1 (eJ hw (hs y (n9 ..))),ih2 ks (fun z hz=>hs z (m9 _ hz)) e2]
 rw [rI];rw [bY] at e
 cases x with
 | lf k n rs=>
  have h1:=kT hw;rw [te] at e;injection e with e1 e2 e3 e4 e5 e6;rw [List.map_eq_nil_iff.1 e6,hk,if_neg (by simp only [Ps.kd];omega)]
  rfl
 | grp n y=>
  rw [te] at e;injection e with e1 e2 e3 e4 e5 e6;rw [hl [y] t.ks (by simp [Ps.kids]) e6,if_pos e1,grs,bT,bT];omega
 | rep a b y=>
  rw [te] at e;injection e with e1 e2 e3 e4 e5 e6;rw [hl [y] t.ks (by simp [Ps.kids]) e6,hk,if_neg (by simp [Ps.kd]),grs,bT,bT];omega
 | row l=>
  rw [te] at e;rw [hk,if_neg (by simp only [Ps.kd];split <;> omega),grs]
  by_cases h:l.isEmpty=true
  ·rw [if_pos h] at e;injection e with e1 e2 e3 e4 e5 e6;rw [List.isEmpty_iff.1 h,List.map_eq_nil_iff.1 e6]
   rfl
  ·rw [if_neg h,bP] at e;injection e with e1 e2 e3 e4 e5 e6;rw [hl l t.ks (fun _ h=>h) e6];omega
 | alt l=>
  rw [te,bP] at e;injection e with e1 e2 e3 e4 e5 e6;rw [hl l t.ks (fun _ h=>h) e6,hk,if_neg (by simp [Ps.kd]),grs];omega
section
attribute [local go_sem] Oper.semAt_some
structure RBx(w:World)(tf uf:Fl)(g off:Nat)(W:World):Prop where
 bel:wBl w W
 box:BoxN W w.heap.size tf
 res:W.heap[w.heap.size+1]?=some (.cells #[.I 0,.I 0,.I 0,.I 0,.slice none 0 0,.slice none 0 0] 25 (0,0))
 gl:g<W.heap.size
 kid:Six W g off uf
theorem RBx.kept{w W W':World}{tf uf:Fl}{g off:Nat}(h:RBx w tf uf g off W)(hb:wBl W W'):RBx w tf uf g off W':=
 ⟨aG h.bel hb lz9,(hb.block _ (aC h.box)).trans h.box,(hb.block _ (aC h.res)).trans h.res,o8 h.gl hb.size,h.kid.ck (CK.of_below hb) h.gl⟩
theorem RBx.put{w W:World}{tf uf:Fl}{g off:Nat}(h:RBx w tf uf g off W):Six (cD W (w.heap.size+1) 0 uf) (w.heap.size+1) 0 uf/\wBl w (cD W (w.heap.size+1) 0 uf):=by
 have P9:=dP W (w.heap.size+1) 0 uf;have X9:=dT (b:=w.heap.size+1) (o:=0) (f:=⟨0,0,0,0,[],none,0,none,0,0⟩) (g:=uf) ⟨aB h.res (i:=0) rfl,aB h.res (i:=1) rfl,aB h.res (i:=2) rfl,aB h.res (i:=3) rfl,aB h.res (i:=4) rfl,aB h.res (i:=5) rfl⟩;exact⟨X9,bB h.bel P9 lz9 (fun k e=>by omega)⟩
theorem gX{R:Ending->World->Prop}{a:Act}{W:World}{b:Nat}{f:Fl}{e:Bool}(h:Six W b 0 f)(ha:a.tmps[2]?.getD undef=.pointer (some (aDr b 0)))(he:a.tmps[3]?.getD undef=.bool e)(hd:a.defers=[])(hR:R (.returned (.tuple #[.agg (nDf f),.bool e])) W):bodyPost Tryz.prog Tryz.f43 R .ret a W:=by
 obtain⟨z0,z1,z2,z3,z4,z5⟩:=h;simp only [m7] at z1 z2 z3 z4 z5;refine bodyPost_ret (v:=.tuple #[.agg (nDf f),.bool e]) ?_ hd hR;simp [results,Tryz.results43,go_sem,ha,he,z0,z1,z2,z3,z4,z5]
theorem pH{t u:Tr}{w:World}(hta:TB w t)(hk:t.ks=[u]):Calls Tryz.prog 43 #[.agg (nDf t.f)] w fun e w'=>e=.returned (.tuple #[.agg (nDf u.f),.bool (nE t.f&&nE u.f)])/\wBl w w':=by
 obtain⟨g,off,cap,q1,q2,q3,hl,hs⟩:=sY hta hk;obtain⟨uf,hu⟩:∃ x,u.f=x:=⟨_,rfl⟩;rw [hu] at hs ⊢;clear hu hta hk;obtain⟨tf,tks⟩:=t;have CA:=aA (fun W=>oG tf W);have CU:=aA (fun W=>oG uf W);obtain⟨bt,hbt⟩:∃ b,nE tf=b:=⟨_,rfl⟩;obtain⟨bu,hbu⟩:∃ b,nE uf=b:=⟨_,rfl⟩;rw [hbt] at CA;rw [hbu] at CU;rw [show nE (Tr.mk tf tks).f=bt from hbt,hbu];clear hbt hbu;obtain⟨fk,fn,fmn,fmx,frs,frq,frc,fkq,fkl,fkc⟩:=tf;dsimp only [Tr.f] at *;subst q1 q2 q3;obtain⟨W,hW,B1,N1,R1⟩:=iK w ⟨fk,fn,fmn,fmx,frs,frq,frc,some (aDr g off),1,fkc⟩;have X0:Hid (RBx w ⟨fk,fn,fmn,fmx,frs,frq,frc,some (aDr g off),1,fkc⟩ uf g off W):=⟨B1,N1,R1,o8 hl B1.size,hs.ck (CK.of_below B1) hl⟩;clear hs N1 R1 B1 hl;have n0:=X0.o.box.six.1;have n1:=X0.o.box.six.2.1;have n2:=X0.o.box.six.2.2.1;have n3:=X0.o.box.six.2.2.2.1;have n4:=X0.o.box.six.2.2.2.2.1;have n5:=X0.o.box.six.2.2.2.2.2;simp only [m7] at n1 n2 n3 n4 n5;obtain⟨k0,k1,k2,k3,k4,k5⟩:=X0.o.kid;have r0:=aB X0.o.res (i:=0) rfl;have r1:=aB X0.o.res (i:=1) rfl;have r2:=aB X0.o.res (i:=2) rfl;have r3:=aB X0.o.res (i:=3) rfl;have r4:=aB X0.o.res (i:=4) rfl;have r5:=aB X0.o.res (i:=5) rfl;have fz:=fun z=>aK X0.o.res z
 cases bt with
 | false=>
  go_enter Tryz.func43,Tryz.ntmps43;go_upto_region 1 with fail
  first | go_region_with (go_at_call 67;(with_reducible refine(CA.o _).mono ?_);rintro e w5 ⟨rfl,h5⟩;have X5:=aA (X0.o.kept ((Below.refl _ _).drew.trans h5));clear h5;have n0:=X5.o.box.six.1;have n1:=X5.o.box.six.2.1;have n2:=X5.o.box.six.2.2.1;have n3:=X5.o.box.six.2.2.2.1;have n4:=X5.o.box.six.2.2.2.2.1;have n5:=X5.o.box.six.2.2.2.2.2;simp only [m7] at n1 n2 n3 n4 n5;obtain⟨k0,k1,k2,k3,k4,k5⟩:=X5.o.kid;have r0:=aB X5.o.res (i:=0) rfl;have r1:=aB X5.o.res (i:=1) rfl;have r2:=aB X5.o.res (i:=2) rfl;have r3:=aB X5.o.res (i:=3) rfl;have r4:=aB X5.o.res (i:=4) rfl;have r5:=aB X5.o.res (i:=5) rfl;have fz:=fun z=>aK X5.o.res z) | fail
  all_goals go_wp2
  all_goals exact gX X5.o.put.1 rfl rfl rfl ⟨rfl,X5.o.put.2⟩
 | true=>
  go_enter Tryz.func43,Tryz.ntmps43;go_upto_region 1 with fail
  first | go_region_with (go_at_call 67;first |((with_reducible refine(CU.o _).mono ?_);rintro e w6 ⟨rfl,h6⟩;have X6:=aA (X5.o.kept h6);clear h6;have n0:=X6.o.box.six.1;have n1:=X6.o.box.six.2.1;have n2:=X6.o.box.six.2.2.1;have n3:=X6.o.box.six.2.2.2.1;have n4:=X6.o.box.six.2.2.2.2.1;have n5:=X6.o.box.six.2.2.2.2.2;simp only [m7] at n1 n2 n3 n4 n5;obtain⟨k0,k1,k2,k3,k4,k5⟩:=X6.o.kid;have r0:=aB X6.o.res (i:=0) rfl;have r1:=aB X6.o.res (i:=1) rfl;have r2:=aB X6.o.res (i:=2) rfl;have r3:=aB X6.o.res (i:=3) rfl;have r4:=aB X6.o.res (i:=4) rfl;have r5:=aB X6.o.res (i:=5) rfl;have fz:=fun z=>aK X6.o.res z) |((with_reducible refine(CA.o _).mono ?_);rintro e w5 ⟨rfl,h5⟩;have X5:=aA (X0.o.kept ((Below.refl _ _).drew.trans h5));clear h5;have n0:=X5.o.box.six.1;have n1:=X5.o.box.six.2.1;have n2:=X5.o.box.six.2.2.1;have n3:=X5.o.box.six.2.2.2.1;have n4:=X5.o.box.six.2.2.2.2.1;have n5:=X5.o.box.six.2.2.2.2.2;simp only [m7] at n1 n2 n3 n4 n5;obtain⟨k0,k1,k2,k3,k4,k5⟩:=X5.o.kid;have r0:=aB X5.o.res (i:=0) rfl;have r1:=aB X5.o.res (i:=1) rfl;have r2:=aB X5.o.res (i:=2) rfl;have r3:=aB X5.o.res (i:=3) rfl;have r4:=aB X5.o.res (i:=4) rfl;have r5:=aB X5.o.res (i:=5) rfl;have fz:=fun z=>aK X5.o.res z)) | fail
  all_goals go_wp2
  all_goals exact gX X6.o.put.1 rfl rfl rfl ⟨rfl,X6.o.put.2⟩
end
end Go.Proofs.YtlamifbjklpdbaaGreat
