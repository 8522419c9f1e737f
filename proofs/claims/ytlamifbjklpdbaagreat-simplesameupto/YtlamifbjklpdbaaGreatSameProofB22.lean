/-
  Parts of the proof.
-/
import Derived.Test.YtlamifbjklpdbaaGreatSameProofA0
import Derived.Test.YtlamifbjklpdbaaGreatSameProofB21
import Derived.Deep.RegionWith
import Derived.Deep.DeepCutAuto
import Derived.Deep.LoopGhost
import Derived.Deep.CutBlock
import Derived.WalkMore
import Derived.Laws.EntriesVeiled
import Derived.Test.YtlamifbjklpdbaaGreatSameProofB11
import Derived.Test.YtlamifbjklpdbaaGreatSameProofB8
import Derived.Test.YtlamifbjklpdbaaGreatSameProofB19
import Derived.Deep.RegionHeld
import Derived.Test.YtlamifbjklpdbaaGreatSameProofB20
import Derived.BigQuiet
import Derived.Test.YtlamifbjklpdbaaGreatSameProofB0
import Derived.Deep.Slices
import Derived.Deep.SlicePairs
import Derived.ChangeSame
import Derived.SizedLaws
set_option maxRecDepth 100000
set_option maxHeartbeats 8000000
namespace Go.Proofs.YtlamifbjklpdbaaGreat
open Go Go.RowKit
section
attribute [local go_sem] Oper.semAt_some
theorem pR{R:Ending->World->Prop}{a:Act}{W:World}{b:Nat}{f:Fl}(h:Six W b 0 f)(ha:a.tmps[4]?.getD undef=.pointer (some (aDr b 0)))(hd:a.defers=[])(hR:R (.returned (.agg (nDf f))) W):bodyPost Tryz.prog Tryz.f22 R .ret a W:=by
 obtain⟨z0,z1,z2,z3,z4,z5⟩:=h;simp only [m7] at z1 z2 z3 z4 z5;refine bodyPost_ret (v:=.agg (nDf f)) ?_ hd hR;simp [results,Tryz.results22,go_sem,ha,z0,z1,z2,z3,z4,z5]
theorem RSays.no{base:Nat}{w:World}{e:Ending}{w':World}(h:RSays base w (Option.map te none) e w'):∃ f':Fl,e=.returned (.tuple #[.agg #[.I f'.k,.I f'.n,.I f'.mn,.I f'.mx,.slice f'.rq f'.rs.length f'.rc,.slice f'.kq f'.kl f'.kc],.bool false])/\wBl w w':=by
 obtain⟨f',h1,h2,-⟩:=h;exact⟨f',h1,h2⟩
theorem RSays.yes{base:Nat}{w:World}{z:Ps}{e:Ending}{w':World}(h:RSays base w (Option.map te (some z)) e w'):∃ t':Tr,e=.returned (.tuple #[.agg #[.I t'.f.k,.I t'.f.n,.I t'.f.mn,.I t'.f.mx,.slice t'.f.rq t'.f.rs.length t'.f.rc,.slice t'.f.kq t'.f.kl t'.f.kc],.bool true])/\wBl w w'/\TA w' t'/\Foot (fun k=>base<=k) t'/\er t'=te z:=by
 obtain⟨f',h1,h2,h3⟩:=h;obtain⟨t',q1,q2,q3,q4⟩:=h3 (te z) rfl;subst q1;exact⟨t',h1,h2,q2,q3,q4⟩
structure SpC(w:World)(s0 b bz rb:Nat)(fk fn fmn fmx:Int)(frs:lIi)(tks:List Tr)(f:Fl)(W:World):Prop where
 fl:∃ q1 k1 q2 k2,f=⟨fk,fn,fmn,fmx,frs,q1,k1,q2,tks.length,k2⟩
 st:SpS w s0 b bz rb f [] tks W
 cap:tks.length<=f.kc/\f.kc<=maxLen
theorem bH3{w W0 V:World}{s1 b bz rb:Nat}{fk fn fmn fmx:Int}{frs:lIi}{tks:List Tr}{q0 fq0 q1 q2:Option Addr}{k0 fk0 k1 k2:Nat}(hw:w.heap.size<=b)(hbz:b<bz)(hz0:bz<W0.heap.size)(hs1:W0.heap.size<=s1)(hrb:rb<w.heap.size)
  (B0:wBl w W0) (B2:wBl W0 V) (N2:V.heap[b]?=some (.cells #[.I fk,.I fn,.I fmn,.I fmx,.slice q0 frs.length k0,.slice fq0 tks.length fk0] 25 (0,0)))
  (R2:V.heap[bz]?=some (.cells #[.I 0,.I 0,.I 0,.I 0,.slice none 0 0,.slice none 0 0] 25 (0,0))) (L2:RL V rb) (X:RR W0.heap.size V (.slice q1 frs.length k1) frs) (Y:V.ownsRow s1 25 6 (.slice q2 tks.length k2) tks.length (aV tks)) :
  SpC w W0.heap.size b bz rb fk fn fmn fmx frs tks ⟨fk,fn,fmn,fmx,frs,q1,k1,q2,tks.length,k2⟩ ((V.setCell (aDr b 4) (.slice q1 frs.length k1)).setCell (aDr b 5) (.slice q2 tks.length k2)):=by
 have F:Fr (fun z=>z=b) V ((V.setCell (aDr b 4) (.slice q1 frs.length k1)).setCell (aDr b 5) (.slice q2 tks.length k2)):=((Fr.refl (fun z=>z=b) V).setCell (p:=(aDr b 4)) rfl _).setCell (p:=(aDr b 5)) rfl _;have hY:((V.setCell (aDr b 4) (.slice q1 frs.length k1)).setCell (aDr b 5) (.slice q2 tks.length k2)).ownsRow s1 25 6 (.slice q2 tks.length k2) tks.length (aV tks):=aH Y F (fun k hk e=>by have:=(aF Y hk).1;omega);have hN:=aJ (aJ N2 4 (.slice q1 frs.length k1)) 5 (.slice q2 tks.length k2);refine⟨⟨q1,k1,q2,k2,rfl⟩,⟨hN,(F.block _ (aC R2) (by omega)).trans R2,X.fr F (fun k hk e=>by have:=(aF X hk).1;omega),bB (aG B0 B2 lz9) F lz9 (fun k e=>by omega),(F.block _ (aC L2) (by omega)).trans L2,?_,fun u hu=>by cases hu⟩,?_⟩
 ·rcases hY.2 with⟨e,hn0⟩ | ⟨g,cap,cur,e,hg1,hg2,hg3,hg4,hg5,hg6⟩
  ·injection e with e1 _ e3;exact .inl ⟨aAD hn0,e1,e3⟩
  ·injection e with e1 _ e3;subst e1 e3;exact .inr ⟨g,rfl,by omega,by omega,KR.of_row hY,fun u hu=>by cases hu⟩
 ·rcases hY.2 with⟨e,hn0⟩ | ⟨g,cap,cur,e,hg1,hg2,hg3,hg4,hg5,hg6⟩
  ·injection e with e1 _ e3;subst e3;exact⟨by show tks.length<=0;omega,o9 _⟩
  ·injection e with e1 _ e3;subst e3;exact⟨hg3,hg4⟩
theorem rY(c f:Bool)(rb:Nat):∀ (m:Nat) (t:Tr) (x:Ps) (w:World),t.sz<=m->TB w t->er t=te x->wf x->(∀ s∈pfl x,dG c f s)->x.sz<=2000->RL w rb->Calls Tryz.prog 22 #[.agg (nDf t.f),.slice (some (aDr rb 0)) 7 7] w (jZ w (te (sim unC x))):=by
 intro m
 induction m with
 | zero=>intro t x w hm;exact absurd (dO t) (by omega)
 | succ m ih=>
  intro t x w hm hta he hwf hsg hsz hrl;have IH:=aA ih;have HM:=aA hm;have HTA:=aA hta;have HE:=aA he;have HWF:=aA hwf;have HSG:=aA hsg;have HSZ:=aA hsz;have hrb:=aC hrl;have hkl:=hta.node.kl;have htsz:t.sz<=2000:=by rw [<- mT,he,pJ];exact hsz
  have hkn:t.ks.length<=2000:=by have:=eZ t.ks;have:=dA t;omega
  have hfit:=hta.node.fit;have hlen:=hta.node.len;have HMK:=aA (bA5 he);have HKT:=aA (sX he);have HKM:Hid (∀ u∈t.ks,u.sz<=m):=aA fun u hu=>by have:=bW hu;omega
  obtain⟨tf,tks⟩:=t;obtain⟨fk,fn,fmn,fmx,frs,frq,frc,fkq,fkl,fkc⟩:=tf;have hkl':fkl=tks.length:=hkl;subst hkl';change tks.length<=2000 at hkn;change Fit frs at hfit;change frs.length+3<=8796093022208 at hlen;change Hid (Er.mk fk fn fmn fmx frs (x.kids.map fun y=>te (sim unC y))=te (gL unC x)) at HMK;change Hid (tks.map er=x.kids.map te) at HKT;change Hid (∀ u∈tks,u.sz<=m) at HKM;show Calls Tryz.prog 22 #[.agg #[.I fk,.I fn,.I fmn,.I fmx,.slice frq frs.length frc,.slice fkq tks.length fkc],.slice (some (aDr rb 0)) 7 7] w (jZ w (te (sim unC x)));obtain⟨FIN,hfin⟩:∃ y,sim unC x=y:=⟨_,rfl⟩;rw [hfin];have HFIN:=aA (show nf unC (gL unC x)=FIN by rw [<- hfin,bH8]);have B0:Hid (wBl w ((w.alloc (.cells #[.I fk,.I fn,.I fmn,.I fmx,.slice frq frs.length frc,.slice fkq tks.length fkc] 25)).alloc (.cells #[.I 0,.I 0,.I 0,.I 0,.slice none 0 0,.slice none 0 0] 25))):=(bz9).alloc (by simp) _;have N0:Hid (BoxN ((w.alloc (.cells #[.I fk,.I fn,.I fmn,.I fmx,.slice frq frs.length frc,.slice fkq tks.length fkc] 25)).alloc (.cells #[.I 0,.I 0,.I 0,.I 0,.slice none 0 0,.slice none 0 0] 25)) w.heap.size ⟨fk,fn,fmn,fmx,frs,frq,frc,fkq,tks.length,fkc⟩):=(Below.heap_alloc _ _ _ (by simp)).trans (aD w _);have R0:Hid (((w.alloc (.cells #[.I fk,.I fn,.I fmn,.I fmx,.slice frq frs.length frc,.slice fkq tks.length fkc] 25)).alloc (.cells #[.I 0,.I 0,.I 0,.I 0,.slice none 0 0,.slice none 0 0] 25)).heap[w.heap.size+1]?=some (.cells #[.I 0,.I 0,.I 0,.I 0,.slice none 0 0,.slice none 0 0] 25 (0,0))):=(by
   have:=aD (w.alloc (.cells #[.I fk,.I fn,.I fmn,.I fmx,.slice frq frs.length frc,.slice fkq tks.length fkc] 25)) (.cells #[.I 0,.I 0,.I 0,.I 0,.slice none 0 0,.slice none 0 0] 25);rwa [v9] at this)
  have L0:Hid (RL ((w.alloc (.cells #[.I fk,.I fn,.I fmn,.I fmx,.slice frq frs.length frc,.slice fkq tks.length fkc] 25)).alloc (.cells #[.I 0,.I 0,.I 0,.I 0,.slice none 0 0,.slice none 0 0] 25)) rb):=(B0.o.block _ hrb).trans hrl;clear ih hm hta hkl he hwf hsg hsz hrl hfin htsz;go_enter Tryz.func22,Tryz.ntmps22;go_upto_region 1 with fail
  generalize ((w.alloc (.cells #[.I fk,.I fn,.I fmn,.I fmx,.slice frq frs.length frc,.slice fkq tks.length fkc] 25)).alloc (.cells #[.I 0,.I 0,.I 0,.I 0,.slice none 0 0,.slice none 0 0] 25))=W0 at B0 N0 R0 L0 ⊢;obtain⟨bz,hbz⟩:∃ bz,w.heap.size+1=bz:=⟨_,rfl⟩;rw [hbz] at R0 ⊢;have LZ:=aC R0.o;have LB:=aC N0.o
  go_step3
  go_upto_region 1 with fail
  go_cut [18] (fun _ wx=>∃ f',SpC w W0.heap.size w.heap.size bz rb fk fn fmn fmx frs tks f' wx)
  case first=>
   obtain⟨c0,c1,c2,c3,c4,c5⟩:=N0.o.six;simp only [m7] at c1 c2 c3 c4 c5;have A0:=aA (HTA.o.kept B0.o);have CR:Hid (∀ V,wBl W0 V->Calls Tryz.prog 40 #[.slice frq frs.length frc] V fun e w'=>∃ q' k',e=.returned (.slice q' frs.length k')/\RR V.heap.size w' (.slice q' frs.length k') frs/\wBl V w'):=aA fun V hV=>vS (A0.o.kept hV).node.r hlen;have CN:Hid (∀ V,wBl W0 V->Calls Tryz.prog 41 #[.slice fkq tks.length fkc] V fun e w'=>∃ q' k',e=.returned (.slice q' tks.length k')/\w'.ownsRow V.heap.size 25 6 (.slice q' tks.length k') tks.length (aV tks)/\wBl V w'):=aA fun V hV=>vT (ks:=tks) (A0.o.kept hV).node.k (by omega)
   first | go_region_with (first |(go_at_call 41;(with_reducible refine(CN.o _ B1.o).mono ?_);rintro e w2 ⟨q2,k2,rfl,h21,h22⟩;have Y2:=aA h21;have B2:=aA (aG B1.o h22 lz9);have Y1:=aA (X1.o.kept h22);have N2:w2.heap[w.heap.size]?=some (.cells #[.I fk,.I fn,.I fmn,.I fmx,.slice frq frs.length frc,.slice fkq tks.length fkc] 25 (0,0)):=(h22.block _ (o8 LB B1.o.size)).trans ((B1.o.block _ LB).trans N0.o);have g4:=aB N2 (i:=4) rfl;have g5:=aB N2 (i:=5) rfl;have fz:=fun z=>aK N2 z;clear h21 h22) |(go_at_call 40;(with_reducible refine(CR.o _ (Below.refl W0.heap.size W0).drew).mono ?_);rintro e w1 ⟨q1,k1,rfl,h11,h12⟩;have X1:Hid (RR W0.heap.size w1 (.slice q1 frs.length k1) frs):=aA h11;have B1:Hid (wBl W0 w1):=aA ((Below.refl W0.heap.size W0).drew.trans h12);have N1:w1.heap[w.heap.size]?=some (.cells #[.I fk,.I fn,.I fmn,.I fmx,.slice frq frs.length frc,.slice fkq tks.length fkc] 25 (0,0)):=(B1.o.block _ LB).trans N0.o;have f4:=aB N1 (i:=4) rfl;have f5:=aB N1 (i:=5) rfl;clear h11 h12)) | fail
   all_goals have S2:=aA (bH3 lz9 (by omega) LZ B1.o.size hrb B0.o B2.o N2 ((B2.o.block _ LZ).trans R0.o) ((B2.o.block _ (aC L0.o)).trans L0.o) Y1.o Y2.o)
   all_goals go_wp2
   all_goals go_meet
   all_goals exact⟨_,S2.o⟩
  case rest=>
  obtain⟨f',hC⟩:=hcut;have HC:=aA hC;clear hC N0 R0 L0;obtain⟨q1,k1,q2,k2,rfl⟩:=HC.o.fl;have c5:wc.cell? (aDr w.heap.size 5)=some (.slice q2 tks.length k2):=aB HC.o.st.box (i:=5) rfl
  go_upto_block 0 with fail
  go_cut [22] from 22 to 34 (fun _ wx=>∃ t',SI w w.heap.size bz rb c f FIN (gL unC x) t' wx)
  case first=>
   have HCP:=aA HC.o.cap;have HST:=aA HC.o.st;clear HC;go_wp2;go_loopw [22] (fun i wr=>∃ (j:Nat) (nk:List Tr),j<=tks.length/\i=.I (j:Int)/\nk.length=j/\nk.map er=(x.kids.take j).map (fun y=>te (sim unC y))/\SpS w W0.heap.size w.heap.size bz rb ⟨fk,fn,fmn,fmx,frs,q1,k1,q2,tks.length,k2⟩ nk (tks.drop j) wr) (fun i _=>tks.length-(intOf i).toNat)
   case atStart=>exact⟨0,[],o9 _,rfl,rfl,rfl,HST.o⟩
   case round=>
    clear HST c5;obtain⟨j,nk,hj,rfl,hnk,hmap,hcs⟩:=hrel;have HS:=aA hcs;have HMP:=aA hmap;have HNK:=aA hnk;clear hcs hmap hnk;by_cases hjl:j<tks.length
    ·have i0:(j:Int)<(tks.length:Int):=by omega
     obtain⟨u,hu⟩:∃ u,tks[j]?=some u:=⟨_,g9 hjl⟩;have hdr:tks.drop j=u :: tks.drop (j+1):=by
      rw [aBO hjl]
      congr 1
      rw [g9 hjl] at hu;injection hu
     obtain⟨g,hq,hbg,hzg,hkr,-⟩:=HS.o.at (by rw [hdr];simp);change q2=some (aDr g 0) at hq;subst hq;have hsx:=hkr.six j u (by rw [hdr,aAA (by have:=HNK.o;omega),HNK.o,aBF];rfl);have hin:u∈tks:=n8 hu;have hug:=hkr.lt;have hxl:tks.length=x.kids.length:=(by have:=congrArg List.length HKT.o;simpa using this);obtain⟨y,hy⟩:∃ y,x.kids[j]?=some y:=⟨_,g9 (by omega)⟩;have hyin:y∈x.kids:=n8 hy;have huy:er u=te y:=by
      have h1:(tks.map er)[j]?=some (er u):=(by simp [hu]);rw [HKT.o] at h1;simp [hy] at h1;exact h1.symm
     clear hxl;obtain⟨d0,d1,d2,d3,d4,d5⟩:=hsx;have K4:wBl wr (wr.alloc (.cells (nDf u.f) 25)):=bz9;have S4:=aA (HS.o.kept K4);have N4:Hid (BoxN (wr.alloc (.cells (nDf u.f) 25)) wr.heap.size u.f):=aD wr _;have HY:=aA hy;have HDR:=aA hdr;have T4:=aA ((HTA.o.kid (u:=u) hin).kept (aG HS.o.bel K4 lz9));have L4:g<(wr.alloc (.cells (nDf u.f) 25)).heap.size:=o8 hug K4.size;have I4:Hid (∀ V,TB V u->RL V rb->Calls Tryz.prog 22 #[.agg (nDf u.f),.slice (some (aDr rb 0)) 7 7] V (jZ V (te (sim unC y)))):=aA fun V hV hR=>IH.o u y V (HKM.o u hin) hV huy (eJ HWF.o hyin) (fun s hs=>HSG.o s (oQ hyin hs)) (by have:=zD hyin;have:=HSZ.o;omega) hR;clear hu hdr K4 hy hkr;go_upto_region 5 with fail
     generalize (wr.alloc (.cells (nDf u.f) 25))=W4 at S4 N4 T4 L4 ⊢;obtain⟨n0,n1,n2,n3,n4,n5⟩:=N4.o.six;simp only [m7] at n1 n2 n3 n4 n5;have b5:W4.cell? (aDr w.heap.size 5)=some (.slice (some (aDr g 0)) tks.length k2):=S4.o.box.six.2.2.2.2.2;have IHU:Hid (Calls Tryz.prog 22 #[.agg (nDf u.f),.slice (some (aDr rb 0)) 7 7] W4.drew fun e w5=>∃ t5:Tr,e=.returned (.agg (nDf t5.f))/\SpS w W0.heap.size w.heap.size bz rb ⟨fk,fn,fmn,fmx,frs,q1,k1,some (aDr g 0),tks.length,k2⟩ nk (tks.drop j) w5/\Six w5 g (j*6) u.f/\SpS w W0.heap.size w.heap.size bz rb ⟨fk,fn,fmn,fmx,frs,q1,k1,some (aDr g 0),tks.length,k2⟩ (nk++[t5]) (tks.drop j).tail (cD w5 g (j*6) t5.f)/\er t5=te (sim unC y)/\KR w5 g (nk++tks.drop j)):=aA ((I4.o W4.drew (T4.o.kept (Below.refl _ _).drew) S4.o.rul).mono fun e w5 ⟨t5,h50,h51,h52,h53,h54⟩=>(by
      have S5:=(S4.o.kept (Below.refl _ _).drew).kept h54;obtain⟨g',e',-,-,hkr,-⟩:=S5.at (by rw [HDR.o];simp);cases e';refine⟨t5,h50,S5,hkr.six j u (by rw [HDR.o,aAA (by have:=HNK.o;omega),HNK.o,aBF];rfl),S5.next (t:=t5) rfl HNK.o (by rw [HDR.o];simp) hrb lz9 h51 (h52.mono (fun k hk=>o8 L4 hk)),h53,hkr⟩))
     clear I4
     go_region_with (go_at_call 22;(with_reducible refine(IHU.o).mono ?_);rintro e w5 ⟨t5,rfl,h51,h52,h53,h54,h55⟩;obtain⟨y0,y1,y2,y3,y4,y5⟩:=h52;have S5:=aA h51;have fz:=fun z=>h55.frz z;have bb5:w5.cell? (aDr w.heap.size 5)=some (.slice (some (aDr g 0)) tks.length k2):=S5.o.box.six.2.2.2.2.2;have S6:=aA h53;have E6:=aA h54;clear h51 h53 h54 h55)
     all_goals have HMN:=aA (show (nk++[t5]).map er=(x.kids.take (j+1)).map (fun y=>te (sim unC y)) by rw [s7,HY.o,aAK,aAK,HMP.o];simp [E6.o])
     all_goals have S7:=S6.o
     all_goals rw [List.tail_drop] at S7
     all_goals unfold cD at S7
     all_goals have S8:=aA S7
     all_goals clear S7
     all_goals go_wp2_with fail
     all_goals go_roundw
     all_goals first | exact⟨j+1,nk++[t5],by omega,by go_num,by rw [o5,HNK.o];rfl,HMN.o,S8.o⟩ |(simp [intOf];omega) |(simp only [intOf];omega)
    ·have i0:¬ (j:Int)<(tks.length:Int):=by omega
     have hxl:tks.length=x.kids.length:=(by have:=congrArg List.length HKT.o;simpa using this);have S9:=HS.o;rw [List.drop_eq_nil_of_le (by omega)] at S9;have hmp:=HMP.o;rw [o4 (by omega)] at hmp;have hnl:=HNK.o;have T9:=S9.tree LZ (by show tks.length=_;omega) (by have:=HCP.o.1;show nk.length<=k2;change tks.length<=k2 at this;omega) HCP.o.2 hfit hlen;have HSI:Hid (SI w w.heap.size bz rb c f FIN (gL unC x) (.mk ⟨fk,fn,fmn,fmx,frs,q1,k1,q2,tks.length,k2⟩ nk) wr):=aA ⟨S9.box,S9.res,S9.bel,S9.rul,T9.1,T9.2,⟨by rw [bY];show Er.mk fk fn fmn fmx frs (nk.map er)=_;rw [hmp];exact HMK.o,Nd.ofk unC HWF.o,bA7 HSG.o,o0 (bA6 x) HSZ.o⟩,HFIN.o⟩;clear S9 T9 hmp hnl HS hxl;go_wp2;go_meet;exact⟨_,HSI.o⟩
  case rest=>
  obtain⟨t1,hSI⟩:=hcut;have H1:=aA hSI;clear hSI HC c5 HMK HKT HKM HFIN HTA HE HWF HSG HSZ HM IH B0 LZ LB hkn hfit hlen;go_wp2
  go_step3
  go_wp2
  go_loopg [35] 2000 (fun k _ wr=>∃ z t,z.sz<=k/\SI w w.heap.size bz rb c f FIN z t wr)
  case atStart=>exact⟨_,t1,H1.o.ns.sz,H1.o⟩
  case round=>
   obtain⟨z,t,hzk,hsi⟩:=hrel;have HS0:=aA hsi;clear hsi H1;go_wp2
   go_loopg [37] 7 (fun k i wr=>∃ j:Nat,j+k=7/\i=.I (j:Int)/\(∀ i,i<j->rl i z=none)/\SI w w.heap.size bz rb c f FIN z t wr)
   case atStart=>exact⟨0,rfl,rfl,fun i hi=>absurd hi (Nat.not_lt_zero _),HS0.o⟩
   case round=>
    obtain⟨j,hjk,rfl,hno,hsi⟩:=hrel;have HSI:=aA hsi;have HNO:=aA hno;clear hsi hno HS0;have hj:j=0\/j=1\/j=2\/j=3\/j=4\/j=5\/j=6\/j=7:=(by omega);rcases hj with hj0 | hj1 | hj2 | hj3 | hj4 | hj5 | hj6 | hj7
    ·subst hj0;have l0:wr.cell? (aDr rb 0)=some (.I 9):=aB HSI.o.rul (i:=0) rfl;have l1:wr.cell? (aDr rb 1)=some (.func (.func 42) #[] #[]):=aB HSI.o.rul (i:=1) rfl;have K1:wBl wr (wr.alloc (.cells #[.I 9,.func (.func 42) #[] #[]] 91)):=bz9;have S1:=aA (HSI.o.kept K1);have M1:=aA (aD wr (.cells #[.I 9,.func (.func 42) #[] #[]] 91));have SC:Hid (∀ V,wBl wr V->z.kd=9->Calls Tryz.prog 42 #[.agg (nDf t.f)] V (RSays (bz+1) V ((rl 0 z).map te))):=aA fun V hV hk=>aL3 HSI.o.ns (HSI.o.kept hV).ta HSI.o.ft hk;go_upto_region 10 with fail
     generalize (wr.alloc (.cells #[.I 9,.func (.func 42) #[] #[]] 91))=V1 at K1 S1 M1 ⊢;clear l0 l1;obtain⟨c0,c1,c2,c3,c4,c5⟩:=S1.o.box.six;simp only [m7] at c1 c2 c3 c4 c5;have m0:=aB M1.o (i:=0) rfl;have m1:=aB M1.o (i:=1) rfl;by_cases hk:z.kd=9
     ·have e45:((9:Int) != t.f.k)=false:=by rw [<- dR,HSI.o.ns.er,dS,hk];rfl
      have SC1:=SC.o V1 K1 hk;clear SC hk
      cases ho:rl 0 z with
      | none=>
       rw [ho] at SC1;have SD:=aA (SC1.mono fun e w' q=>q.no);have HNX:=aA (show ∀ i,i<0+1->rl i z=none from fun i hi=>if hij:i<0 then HNO.o i hij else by have:i=0:=(by omega);subst this;exact ho);clear SC1 ho;go_wp2_with (go_at_call 42;(with_reducible refine SD.o.mono ?_);rintro e w7 ⟨f7,rfl,h72⟩;have S7:=aA ((S1.o.kept h72).kept ((Below.refl _ _).alloc lz9 (.cells (nDf f7) 25)));clear h72)
       go_roundg 6
       case measure=>omega
       case rel=>exact⟨1,rfl,rfl,HNX.o,S7.o⟩
      | some z'=>
       rw [ho] at SC1;have SD:=aA (SC1.mono fun e w' q=>q.yes);have HOO:=aA ho;clear SC1 ho;go_upto_region 13 with (go_at_call 42;(with_reducible refine SD.o.mono ?_);rintro e w7 ⟨t7,rfl,h72,h73,h74,h75⟩;have B7:=aA h72;have T7:=aA h73;have F7:=aA h74;have E7:=aA h75;clear h72 h73 h74 h75)
       have K8:wBl w7 (w7.alloc (.cells (nDf t7.f) 25)):=bz9;have S8:=aA ((S1.o.kept B7.o).kept K8);have N8:Hid (BoxN (w7.alloc (.cells (nDf t7.f) 25)) w7.heap.size t7.f):=aA (aD w7 _);have T8:=aA (T7.o.kept K8);clear c0 c1 c2 c3 c4 c5 m0 m1;generalize (w7.alloc (.cells (nDf t7.f) 25))=w8 at K8 S8 N8 T8 ⊢;obtain⟨c0,c1,c2,c3,c4,c5⟩:=S8.o.box.six;simp only [m7] at c1 c2 c3 c4 c5;obtain⟨n0,n1,n2,n3,n4,n5⟩:=N8.o.six;simp only [m7] at n1 n2 n3 n4 n5;have fz:=fun z=>aK S8.o.box z;obtain⟨h91,h92⟩:=S8.o.step HNO.o HOO.o T8.o F7.o E7.o (by omega) hrb lz9;unfold cD at h91;have S9:=aA h91;clear h91;go_wp2
       go_roundg z'.sz
       case measure=>omega
       case rel=>exact⟨z',t7,t8 _,S9.o⟩
     ·have e45:((9:Int) != t.f.k)=true:=by rw [<- dR,HSI.o.ns.er,dS];simpa using (fun q=>hk q.symm)
      have HNX:=aA (show ∀ i,i<0+1->rl i z=none from fun i hi=>if hij:i<0 then HNO.o i hij else by have:i=0:=(by omega);subst this;exact iO (by unfold rk;simpa using hk));clear SC hk;go_wp2
      go_roundg 6
      case measure=>omega
      case rel=>exact⟨1,rfl,rfl,HNX.o,S1.o⟩
    ·subst hj1;have l0:wr.cell? (aDr rb 2)=some (.I 9):=aB HSI.o.rul (i:=2) rfl;have l1:wr.cell? (aDr rb 3)=some (.func (.func 43) #[] #[]):=aB HSI.o.rul (i:=3) rfl;have K1:wBl wr (wr.alloc (.cells #[.I 9,.func (.func 43) #[] #[]] 91)):=bz9;have S1:=aA (HSI.o.kept K1);have M1:=aA (aD wr (.cells #[.I 9,.func (.func 43) #[] #[]] 91));have SC:Hid (∀ V,wBl wr V->z.kd=9->Calls Tryz.prog 43 #[.agg (nDf t.f)] V (RSays (bz+1) V ((rl 1 z).map te))):=aA fun V hV hk=>aC2 HSI.o.ns (HSI.o.kept hV).ta HSI.o.ft hk;go_upto_region 10 with fail
     generalize (wr.alloc (.cells #[.I 9,.func (.func 43) #[] #[]] 91))=V1 at K1 S1 M1 ⊢;clear l0 l1;obtain⟨c0,c1,c2,c3,c4,c5⟩:=S1.o.box.six;simp only [m7] at c1 c2 c3 c4 c5;have m0:=aB M1.o (i:=0) rfl;have m1:=aB M1.o (i:=1) rfl;by_cases hk:z.kd=9
     ·have e45:((9:Int) != t.f.k)=false:=by rw [<- dR,HSI.o.ns.er,dS,hk];rfl
      have SC1:=SC.o V1 K1 hk;clear SC hk
      cases ho:rl 1 z with
      | none=>
       rw [ho] at SC1;have SD:=aA (SC1.mono fun e w' q=>q.no);have HNX:=aA (show ∀ i,i<1+1->rl i z=none from fun i hi=>if hij:i<1 then HNO.o i hij else by have:i=1:=(by omega);subst this;exact ho);clear SC1 ho;go_wp2_with (go_at_call 43;(with_reducible refine SD.o.mono ?_);rintro e w7 ⟨f7,rfl,h72⟩;have S7:=aA ((S1.o.kept h72).kept ((Below.refl _ _).alloc lz9 (.cells (nDf f7) 25)));clear h72)
       go_roundg 5
       case measure=>omega
       case rel=>exact⟨2,rfl,rfl,HNX.o,S7.o⟩
      | some z'=>
       rw [ho] at SC1;have SD:=aA (SC1.mono fun e w' q=>q.yes);have HOO:=aA ho;clear SC1 ho;go_upto_region 13 with (go_at_call 43;(with_reducible refine SD.o.mono ?_);rintro e w7 ⟨t7,rfl,h72,h73,h74,h75⟩;have B7:=aA h72;have T7:=aA h73;have F7:=aA h74;have E7:=aA h75;clear h72 h73 h74 h75)
       have K8:wBl w7 (w7.alloc (.cells (nDf t7.f) 25)):=bz9;have S8:=aA ((S1.o.kept B7.o).kept K8);have N8:Hid (BoxN (w7.alloc (.cells (nDf t7.f) 25)) w7.heap.size t7.f):=aA (aD w7 _);have T8:=aA (T7.o.kept K8);clear c0 c1 c2 c3 c4 c5 m0 m1;generalize (w7.alloc (.cells (nDf t7.f) 25))=w8 at K8 S8 N8 T8 ⊢;obtain⟨c0,c1,c2,c3,c4,c5⟩:=S8.o.box.six;simp only [m7] at c1 c2 c3 c4 c5;obtain⟨n0,n1,n2,n3,n4,n5⟩:=N8.o.six;simp only [m7] at n1 n2 n3 n4 n5;have fz:=fun z=>aK S8.o.box z;obtain⟨h91,h92⟩:=S8.o.step HNO.o HOO.o T8.o F7.o E7.o (by omega) hrb lz9;unfold cD at h91;have S9:=aA h91;clear h91;go_wp2
       go_roundg z'.sz
       case measure=>omega
       case rel=>exact⟨z',t7,t8 _,S9.o⟩
     ·have e45:((9:Int) != t.f.k)=true:=by rw [<- dR,HSI.o.ns.er,dS];simpa using (fun q=>hk q.symm)
      have HNX:=aA (show ∀ i,i<1+1->rl i z=none from fun i hi=>if hij:i<1 then HNO.o i hij else by have:i=1:=(by omega);subst this;exact iO (by unfold rk;simpa using hk));clear SC hk;go_wp2
      go_roundg 5
      case measure=>omega
      case rel=>exact⟨2,rfl,rfl,HNX.o,S1.o⟩
    ·subst hj2;have l0:wr.cell? (aDr rb 4)=some (.I 9):=aB HSI.o.rul (i:=4) rfl;have l1:wr.cell? (aDr rb 5)=some (.func (.func 44) #[] #[]):=aB HSI.o.rul (i:=5) rfl;have K1:wBl wr (wr.alloc (.cells #[.I 9,.func (.func 44) #[] #[]] 91)):=bz9;have S1:=aA (HSI.o.kept K1);have M1:=aA (aD wr (.cells #[.I 9,.func (.func 44) #[] #[]] 91));have SC:Hid (∀ V,wBl wr V->z.kd=9->Calls Tryz.prog 44 #[.agg (nDf t.f)] V (RSays (bz+1) V ((rl 2 z).map te))):=aA fun V hV hk=>aX5 HSI.o.ns (HSI.o.kept hV).ta hk;go_upto_region 10 with fail
     generalize (wr.alloc (.cells #[.I 9,.func (.func 44) #[] #[]] 91))=V1 at K1 S1 M1 ⊢;clear l0 l1;obtain⟨c0,c1,c2,c3,c4,c5⟩:=S1.o.box.six;simp only [m7] at c1 c2 c3 c4 c5;have m0:=aB M1.o (i:=0) rfl;have m1:=aB M1.o (i:=1) rfl;by_cases hk:z.kd=9
     ·have e45:((9:Int) != t.f.k)=false:=by rw [<- dR,HSI.o.ns.er,dS,hk];rfl
      have SC1:=SC.o V1 K1 hk;clear SC hk
      cases ho:rl 2 z with
      | none=>
       rw [ho] at SC1;have SD:=aA (SC1.mono fun e w' q=>q.no);have HNX:=aA (show ∀ i,i<2+1->rl i z=none from fun i hi=>if hij:i<2 then HNO.o i hij else by have:i=2:=(by omega);subst this;exact ho);clear SC1 ho;go_wp2_with (go_at_call 44;(with_reducible refine SD.o.mono ?_);rintro e w7 ⟨f7,rfl,h72⟩;have S7:=aA ((S1.o.kept h72).kept ((Below.refl _ _).alloc lz9 (.cells (nDf f7) 25)));clear h72)
       go_roundg 4
       case measure=>omega
       case rel=>exact⟨3,rfl,rfl,HNX.o,S7.o⟩
      | some z'=>
       rw [ho] at SC1;have SD:=aA (SC1.mono fun e w' q=>q.yes);have HOO:=aA ho;clear SC1 ho;go_upto_region 13 with (go_at_call 44;(with_reducible refine SD.o.mono ?_);rintro e w7 ⟨t7,rfl,h72,h73,h74,h75⟩;have B7:=aA h72;have T7:=aA h73;have F7:=aA h74;have E7:=aA h75;clear h72 h73 h74 h75)
       have K8:wBl w7 (w7.alloc (.cells (nDf t7.f) 25)):=bz9;have S8:=aA ((S1.o.kept B7.o).kept K8);have N8:Hid (BoxN (w7.alloc (.cells (nDf t7.f) 25)) w7.heap.size t7.f):=aA (aD w7 _);have T8:=aA (T7.o.kept K8);clear c0 c1 c2 c3 c4 c5 m0 m1;generalize (w7.alloc (.cells (nDf t7.f) 25))=w8 at K8 S8 N8 T8 ⊢;obtain⟨c0,c1,c2,c3,c4,c5⟩:=S8.o.box.six;simp only [m7] at c1 c2 c3 c4 c5;obtain⟨n0,n1,n2,n3,n4,n5⟩:=N8.o.six;simp only [m7] at n1 n2 n3 n4 n5;have fz:=fun z=>aK S8.o.box z;obtain⟨h91,h92⟩:=S8.o.step HNO.o HOO.o T8.o F7.o E7.o (by omega) hrb lz9;unfold cD at h91;have S9:=aA h91;clear h91;go_wp2
       go_roundg z'.sz
       case measure=>omega
       case rel=>exact⟨z',t7,t8 _,S9.o⟩
     ·have e45:((9:Int) != t.f.k)=true:=by rw [<- dR,HSI.o.ns.er,dS];simpa using (fun q=>hk q.symm)
      have HNX:=aA (show ∀ i,i<2+1->rl i z=none from fun i hi=>if hij:i<2 then HNO.o i hij else by have:i=2:=(by omega);subst this;exact iO (by unfold rk;simpa using hk));clear SC hk;go_wp2
      go_roundg 4
      case measure=>omega
      case rel=>exact⟨3,rfl,rfl,HNX.o,S1.o⟩
    ·subst hj3;have l0:wr.cell? (aDr rb 6)=some (.I 9):=aB HSI.o.rul (i:=6) rfl;have l1:wr.cell? (aDr rb 7)=some (.func (.func 45) #[] #[]):=aB HSI.o.rul (i:=7) rfl;have K1:wBl wr (wr.alloc (.cells #[.I 9,.func (.func 45) #[] #[]] 91)):=bz9;have S1:=aA (HSI.o.kept K1);have M1:=aA (aD wr (.cells #[.I 9,.func (.func 45) #[] #[]] 91));have SC:Hid (∀ V,wBl wr V->z.kd=9->Calls Tryz.prog 45 #[.agg (nDf t.f)] V (RSays (bz+1) V ((rl 3 z).map te))):=aA fun V hV hk=>sE HSI.o.ns (HSI.o.kept hV).ta hk;go_upto_region 10 with fail
     generalize (wr.alloc (.cells #[.I 9,.func (.func 45) #[] #[]] 91))=V1 at K1 S1 M1 ⊢;clear l0 l1;obtain⟨c0,c1,c2,c3,c4,c5⟩:=S1.o.box.six;simp only [m7] at c1 c2 c3 c4 c5;have m0:=aB M1.o (i:=0) rfl;have m1:=aB M1.o (i:=1) rfl;by_cases hk:z.kd=9
     ·have e45:((9:Int) != t.f.k)=false:=by rw [<- dR,HSI.o.ns.er,dS,hk];rfl
      have SC1:=SC.o V1 K1 hk;clear SC hk
      cases ho:rl 3 z with
      | none=>
       rw [ho] at SC1;have SD:=aA (SC1.mono fun e w' q=>q.no);have HNX:=aA (show ∀ i,i<3+1->rl i z=none from fun i hi=>if hij:i<3 then HNO.o i hij else by have:i=3:=(by omega);subst this;exact ho);clear SC1 ho;go_wp2_with (go_at_call 45;(with_reducible refine SD.o.mono ?_);rintro e w7 ⟨f7,rfl,h72⟩;have S7:=aA ((S1.o.kept h72).kept ((Below.refl _ _).alloc lz9 (.cells (nDf f7) 25)));clear h72)
       go_roundg 3
       case measure=>omega
       case rel=>exact⟨4,rfl,rfl,HNX.o,S7.o⟩
      | some z'=>
       rw [ho] at SC1;have SD:=aA (SC1.mono fun e w' q=>q.yes);have HOO:=aA ho;clear SC1 ho;go_upto_region 13 with (go_at_call 45;(with_reducible refine SD.o.mono ?_);rintro e w7 ⟨t7,rfl,h72,h73,h74,h75⟩;have B7:=aA h72;have T7:=aA h73;have F7:=aA h74;have E7:=aA h75;clear h72 h73 h74 h75)
       have K8:wBl w7 (w7.alloc (.cells (nDf t7.f) 25)):=bz9;have S8:=aA ((S1.o.kept B7.o).kept K8);have N8:Hid (BoxN (w7.alloc (.cells (nDf t7.f) 25)) w7.heap.size t7.f):=aA (aD w7 _);have T8:=aA (T7.o.kept K8);clear c0 c1 c2 c3 c4 c5 m0 m1;generalize (w7.alloc (.cells (nDf t7.f) 25))=w8 at K8 S8 N8 T8 ⊢;obtain⟨c0,c1,c2,c3,c4,c5⟩:=S8.o.box.six;simp only [m7] at c1 c2 c3 c4 c5;obtain⟨n0,n1,n2,n3,n4,n5⟩:=N8.o.six;simp only [m7] at n1 n2 n3 n4 n5;have fz:=fun z=>aK S8.o.box z;obtain⟨h91,h92⟩:=S8.o.step HNO.o HOO.o T8.o F7.o E7.o (by omega) hrb lz9;unfold cD at h91;have S9:=aA h91;clear h91;go_wp2
       go_roundg z'.sz
       case measure=>omega
       case rel=>exact⟨z',t7,t8 _,S9.o⟩
     ·have e45:((9:Int) != t.f.k)=true:=by rw [<- dR,HSI.o.ns.er,dS];simpa using (fun q=>hk q.symm)
      have HNX:=aA (show ∀ i,i<3+1->rl i z=none from fun i hi=>if hij:i<3 then HNO.o i hij else by have:i=3:=(by omega);subst this;exact iO (by unfold rk;simpa using hk));clear SC hk;go_wp2
      go_roundg 3
      case measure=>omega
      case rel=>exact⟨4,rfl,rfl,HNX.o,S1.o⟩
    ·subst hj4;have l0:wr.cell? (aDr rb 8)=some (.I 5):=aB HSI.o.rul (i:=8) rfl;have l1:wr.cell? (aDr rb 9)=some (.func (.func 46) #[] #[]):=aB HSI.o.rul (i:=9) rfl;have K1:wBl wr (wr.alloc (.cells #[.I 5,.func (.func 46) #[] #[]] 91)):=bz9;have S1:=aA (HSI.o.kept K1);have M1:=aA (aD wr (.cells #[.I 5,.func (.func 46) #[] #[]] 91));have SC:Hid (∀ V,wBl wr V->z.kd=5->Calls Tryz.prog 46 #[.agg (nDf t.f)] V (RSays (bz+1) V ((rl 4 z).map te))):=aA fun V hV hk=>tY HSI.o.ns (HSI.o.kept hV).ta (aC (HSI.o.kept hV).res) hk;go_upto_region 10 with fail
     generalize (wr.alloc (.cells #[.I 5,.func (.func 46) #[] #[]] 91))=V1 at K1 S1 M1 ⊢;clear l0 l1;obtain⟨c0,c1,c2,c3,c4,c5⟩:=S1.o.box.six;simp only [m7] at c1 c2 c3 c4 c5;have m0:=aB M1.o (i:=0) rfl;have m1:=aB M1.o (i:=1) rfl;by_cases hk:z.kd=5
     ·have e45:((5:Int) != t.f.k)=false:=by rw [<- dR,HSI.o.ns.er,dS,hk];rfl
      have SC1:=SC.o V1 K1 hk;clear SC hk
      cases ho:rl 4 z with
      | none=>
       rw [ho] at SC1;have SD:=aA (SC1.mono fun e w' q=>q.no);have HNX:=aA (show ∀ i,i<4+1->rl i z=none from fun i hi=>if hij:i<4 then HNO.o i hij else by have:i=4:=(by omega);subst this;exact ho);clear SC1 ho;go_wp2_with (go_at_call 46;(with_reducible refine SD.o.mono ?_);rintro e w7 ⟨f7,rfl,h72⟩;have S7:=aA ((S1.o.kept h72).kept ((Below.refl _ _).alloc lz9 (.cells (nDf f7) 25)));clear h72)
       go_roundg 2
       case measure=>omega
       case rel=>exact⟨5,rfl,rfl,HNX.o,S7.o⟩
      | some z'=>
       rw [ho] at SC1;have SD:=aA (SC1.mono fun e w' q=>q.yes);have HOO:=aA ho;clear SC1 ho;go_upto_region 13 with (go_at_call 46;(with_reducible refine SD.o.mono ?_);rintro e w7 ⟨t7,rfl,h72,h73,h74,h75⟩;have B7:=aA h72;have T7:=aA h73;have F7:=aA h74;have E7:=aA h75;clear h72 h73 h74 h75)
       have K8:wBl w7 (w7.alloc (.cells (nDf t7.f) 25)):=bz9;have S8:=aA ((S1.o.kept B7.o).kept K8);have N8:Hid (BoxN (w7.alloc (.cells (nDf t7.f) 25)) w7.heap.size t7.f):=aA (aD w7 _);have T8:=aA (T7.o.kept K8);clear c0 c1 c2 c3 c4 c5 m0 m1;generalize (w7.alloc (.cells (nDf t7.f) 25))=w8 at K8 S8 N8 T8 ⊢;obtain⟨c0,c1,c2,c3,c4,c5⟩:=S8.o.box.six;simp only [m7] at c1 c2 c3 c4 c5;obtain⟨n0,n1,n2,n3,n4,n5⟩:=N8.o.six;simp only [m7] at n1 n2 n3 n4 n5;have fz:=fun z=>aK S8.o.box z;obtain⟨h91,h92⟩:=S8.o.step HNO.o HOO.o T8.o F7.o E7.o (by omega) hrb lz9;unfold cD at h91;have S9:=aA h91;clear h91;go_wp2
       go_roundg z'.sz
       case measure=>omega
       case rel=>exact⟨z',t7,t8 _,S9.o⟩
     ·have e45:((5:Int) != t.f.k)=true:=by rw [<- dR,HSI.o.ns.er,dS];simpa using (fun q=>hk q.symm)
      have HNX:=aA (show ∀ i,i<4+1->rl i z=none from fun i hi=>if hij:i<4 then HNO.o i hij else by have:i=4:=(by omega);subst this;exact iO (by unfold rk;simpa using hk));clear SC hk;go_wp2
      go_roundg 2
      case measure=>omega
      case rel=>exact⟨5,rfl,rfl,HNX.o,S1.o⟩
    ·subst hj5;have l0:wr.cell? (aDr rb 10)=some (.I 6):=aB HSI.o.rul (i:=10) rfl;have l1:wr.cell? (aDr rb 11)=some (.func (.func 47) #[] #[]):=aB HSI.o.rul (i:=11) rfl;have K1:wBl wr (wr.alloc (.cells #[.I 6,.func (.func 47) #[] #[]] 91)):=bz9;have S1:=aA (HSI.o.kept K1);have M1:=aA (aD wr (.cells #[.I 6,.func (.func 47) #[] #[]] 91));have SC:Hid (∀ V,wBl wr V->z.kd=6->Calls Tryz.prog 47 #[.agg (nDf t.f)] V (RSays (bz+1) V ((rl 5 z).map te))):=aA fun V hV hk=>aC3 HSI.o.ns (HSI.o.kept hV).ta (aC (HSI.o.kept hV).res) hk;go_upto_region 10 with fail
     generalize (wr.alloc (.cells #[.I 6,.func (.func 47) #[] #[]] 91))=V1 at K1 S1 M1 ⊢;clear l0 l1;obtain⟨c0,c1,c2,c3,c4,c5⟩:=S1.o.box.six;simp only [m7] at c1 c2 c3 c4 c5;have m0:=aB M1.o (i:=0) rfl;have m1:=aB M1.o (i:=1) rfl;by_cases hk:z.kd=6
     ·have e45:((6:Int) != t.f.k)=false:=by rw [<- dR,HSI.o.ns.er,dS,hk];rfl
      have SC1:=SC.o V1 K1 hk;clear SC hk
      cases ho:rl 5 z with
      | none=>
       rw [ho] at SC1;have SD:=aA (SC1.mono fun e w' q=>q.no);have HNX:=aA (show ∀ i,i<5+1->rl i z=none from fun i hi=>if hij:i<5 then HNO.o i hij else by have:i=5:=(by omega);subst this;exact ho);clear SC1 ho;go_wp2_with (go_at_call 47;(with_reducible refine SD.o.mono ?_);rintro e w7 ⟨f7,rfl,h72⟩;have S7:=aA ((S1.o.kept h72).kept ((Below.refl _ _).alloc lz9 (.cells (nDf f7) 25)));clear h72)
       go_roundg 1
       case measure=>omega
       case rel=>exact⟨6,rfl,rfl,HNX.o,S7.o⟩
      | some z'=>
       rw [ho] at SC1;have SD:=aA (SC1.mono fun e w' q=>q.yes);have HOO:=aA ho;clear SC1 ho;go_upto_region 13 with (go_at_call 47;(with_reducible refine SD.o.mono ?_);rintro e w7 ⟨t7,rfl,h72,h73,h74,h75⟩;have B7:=aA h72;have T7:=aA h73;have F7:=aA h74;have E7:=aA h75;clear h72 h73 h74 h75)
       have K8:wBl w7 (w7.alloc (.cells (nDf t7.f) 25)):=bz9;have S8:=aA ((S1.o.kept B7.o).kept K8);have N8:Hid (BoxN (w7.alloc (.cells (nDf t7.f) 25)) w7.heap.size t7.f):=aA (aD w7 _);have T8:=aA (T7.o.kept K8);clear c0 c1 c2 c3 c4 c5 m0 m1;generalize (w7.alloc (.cells (nDf t7.f) 25))=w8 at K8 S8 N8 T8 ⊢;obtain⟨c0,c1,c2,c3,c4,c5⟩:=S8.o.box.six;simp only [m7] at c1 c2 c3 c4 c5;obtain⟨n0,n1,n2,n3,n4,n5⟩:=N8.o.six;simp only [m7] at n1 n2 n3 n4 n5;have fz:=fun z=>aK S8.o.box z;obtain⟨h91,h92⟩:=S8.o.step HNO.o HOO.o T8.o F7.o E7.o (by omega) hrb lz9;unfold cD at h91;have S9:=aA h91;clear h91;go_wp2
       go_roundg z'.sz
       case measure=>omega
       case rel=>exact⟨z',t7,t8 _,S9.o⟩
     ·have e45:((6:Int) != t.f.k)=true:=by rw [<- dR,HSI.o.ns.er,dS];simpa using (fun q=>hk q.symm)
      have HNX:=aA (show ∀ i,i<5+1->rl i z=none from fun i hi=>if hij:i<5 then HNO.o i hij else by have:i=5:=(by omega);subst this;exact iO (by unfold rk;simpa using hk));clear SC hk;go_wp2
      go_roundg 1
      case measure=>omega
      case rel=>exact⟨6,rfl,rfl,HNX.o,S1.o⟩
    ·subst hj6;have l0:wr.cell? (aDr rb 12)=some (.I 6):=aB HSI.o.rul (i:=12) rfl;have l1:wr.cell? (aDr rb 13)=some (.func (.func 48) #[] #[]):=aB HSI.o.rul (i:=13) rfl;have K1:wBl wr (wr.alloc (.cells #[.I 6,.func (.func 48) #[] #[]] 91)):=bz9;have S1:=aA (HSI.o.kept K1);have M1:=aA (aD wr (.cells #[.I 6,.func (.func 48) #[] #[]] 91));have SC:Hid (∀ V,wBl wr V->z.kd=6->Calls Tryz.prog 48 #[.agg (nDf t.f)] V (RSays (bz+1) V ((rl 6 z).map te))):=aA fun V hV hk=>wT HSI.o.ns (HSI.o.kept hV).ta (aC (HSI.o.kept hV).res) hk;go_upto_region 10 with fail
     generalize (wr.alloc (.cells #[.I 6,.func (.func 48) #[] #[]] 91))=V1 at K1 S1 M1 ⊢;clear l0 l1;obtain⟨c0,c1,c2,c3,c4,c5⟩:=S1.o.box.six;simp only [m7] at c1 c2 c3 c4 c5;have m0:=aB M1.o (i:=0) rfl;have m1:=aB M1.o (i:=1) rfl;by_cases hk:z.kd=6
     ·have e45:((6:Int) != t.f.k)=false:=by rw [<- dR,HSI.o.ns.er,dS,hk];rfl
      have SC1:=SC.o V1 K1 hk;clear SC hk
      cases ho:rl 6 z with
      | none=>
       rw [ho] at SC1;have SD:=aA (SC1.mono fun e w' q=>q.no);have HNX:=aA (show ∀ i,i<6+1->rl i z=none from fun i hi=>if hij:i<6 then HNO.o i hij else by have:i=6:=(by omega);subst this;exact ho);clear SC1 ho;go_wp2_with (go_at_call 48;(with_reducible refine SD.o.mono ?_);rintro e w7 ⟨f7,rfl,h72⟩;have S7:=aA ((S1.o.kept h72).kept ((Below.refl _ _).alloc lz9 (.cells (nDf f7) 25)));clear h72)
       go_roundg 0
       case measure=>omega
       case rel=>exact⟨7,rfl,rfl,HNX.o,S7.o⟩
      | some z'=>
       rw [ho] at SC1;have SD:=aA (SC1.mono fun e w' q=>q.yes);have HOO:=aA ho;clear SC1 ho;go_upto_region 13 with (go_at_call 48;(with_reducible refine SD.o.mono ?_);rintro e w7 ⟨t7,rfl,h72,h73,h74,h75⟩;have B7:=aA h72;have T7:=aA h73;have F7:=aA h74;have E7:=aA h75;clear h72 h73 h74 h75)
       have K8:wBl w7 (w7.alloc (.cells (nDf t7.f) 25)):=bz9;have S8:=aA ((S1.o.kept B7.o).kept K8);have N8:Hid (BoxN (w7.alloc (.cells (nDf t7.f) 25)) w7.heap.size t7.f):=aA (aD w7 _);have T8:=aA (T7.o.kept K8);clear c0 c1 c2 c3 c4 c5 m0 m1;generalize (w7.alloc (.cells (nDf t7.f) 25))=w8 at K8 S8 N8 T8 ⊢;obtain⟨c0,c1,c2,c3,c4,c5⟩:=S8.o.box.six;simp only [m7] at c1 c2 c3 c4 c5;obtain⟨n0,n1,n2,n3,n4,n5⟩:=N8.o.six;simp only [m7] at n1 n2 n3 n4 n5;have fz:=fun z=>aK S8.o.box z;obtain⟨h91,h92⟩:=S8.o.step HNO.o HOO.o T8.o F7.o E7.o (by omega) hrb lz9;unfold cD at h91;have S9:=aA h91;clear h91;go_wp2
       go_roundg z'.sz
       case measure=>omega
       case rel=>exact⟨z',t7,t8 _,S9.o⟩
     ·have e45:((6:Int) != t.f.k)=true:=by rw [<- dR,HSI.o.ns.er,dS];simpa using (fun q=>hk q.symm)
      have HNX:=aA (show ∀ i,i<6+1->rl i z=none from fun i hi=>if hij:i<6 then HNO.o i hij else by have:i=6:=(by omega);subst this;exact iO (by unfold rk;simpa using hk));clear SC hk;go_wp2
      go_roundg 0
      case measure=>omega
      case rel=>exact⟨7,rfl,rfl,HNX.o,S1.o⟩
    ·subst hj7;have hz:z=FIN:=(by rw [<- HSI.o.fin,aK1 unC HSI.o.ns.nd (aY3 HNO.o)]);have E9:=aA (show er t=te FIN by rw [<- hz];exact HSI.o.ns.er);have P9:=aA (dP wr bz 0 t.f);have X9:=aA (dT (b:=bz) (o:=0) (f:=⟨0,0,0,0,[],none,0,none,0,0⟩) (g:=t.f) ⟨aB HSI.o.res (i:=0) rfl,aB HSI.o.res (i:=1) rfl,aB HSI.o.res (i:=2) rfl,aB HSI.o.res (i:=3) rfl,aB HSI.o.res (i:=4) rfl,aB HSI.o.res (i:=5) rfl⟩);unfold cD at P9 X9;obtain⟨c0,c1,c2,c3,c4,c5⟩:=HSI.o.box.six;simp only [m7] at c1 c2 c3 c4 c5;have r0:=aB HSI.o.res (i:=0) rfl;have r1:=aB HSI.o.res (i:=1) rfl;have r2:=aB HSI.o.res (i:=2) rfl;have r3:=aB HSI.o.res (i:=3) rfl;have r4:=aB HSI.o.res (i:=4) rfl;have r5:=aB HSI.o.res (i:=5) rfl;have fz:=fun z=>aK HSI.o.res z;clear hz;go_wp2
     try rw [Exit.noGoto_ret]
     refine pR X9.o rfl rfl ?_;exact⟨t,rfl,HSI.o.ta.ckN HSI.o.ft (P9.o.ckeep (fun k e z=>by omega)),HSI.o.ft.mono (fun k hk=>by omega),E9.o,bB HSI.o.bel P9.o lz9 (fun k e=>by omega)⟩
end
section
attribute [local go_sem] Oper.semAt_some
theorem aX8(w:World):Calls Tryz.prog 23 #[] w fun e w'=>∃ rb,e=.returned (.slice (some (aDr rb 0)) 7 7)/\RL w' rb/\wBl w w':=by
 go_enter Tryz.func23,Tryz.ntmps23;go_wp2;go_ret;exact⟨w.heap.size,rfl,aD w _,bz9⟩
theorem mE{R:Ending->World->Prop}{a:Act}{W:World}{b:Nat}{f:Fl}{e:Int}(h:Six W b 0 f)(ha:a.tmps[4]?.getD undef=.pointer (some (aDr b 0)))(he:a.tmps[5]?.getD undef=.I e)(hd:a.defers=[])(hR:R (.returned (.tuple #[.agg (nDf f),.I e])) W):bodyPost Tryz.prog Tryz.f7 R .ret a W:=by
 obtain⟨z0,z1,z2,z3,z4,z5⟩:=h;simp only [m7] at z1 z2 z3 z4 z5;refine bodyPost_ret (v:=.tuple #[.agg (nDf f),.I e]) ?_ hd hR;simp [results,Tryz.results7,go_sem,ha,he,z0,z1,z2,z3,z4,z5]
structure Sm3(w:World)(f:Fl)(c o:Bool)(W:World):Prop where
 bel:wBl w W
 box:BoxN W w.heap.size f
 mode:W.heap[w.heap.size+1]?=some (.cells #[.bool c,.bool o] 27 (0,0))
 res:W.heap[w.heap.size+2]?=some (.cells #[.I 0,.I 0,.I 0,.I 0,.slice none 0 0,.slice none 0 0] 25 (0,0))
theorem Sm3.new(w:World)(f:Fl)(c o:Bool):Sm3 w f c o (((w.alloc (.cells (nDf f) 25)).alloc (.cells #[.bool c,.bool o] 27)).alloc (.cells #[.I 0,.I 0,.I 0,.I 0,.slice none 0 0,.slice none 0 0] 25)):=by
 refine⟨((bz9).alloc (by simp) _).alloc (by simp;omega) _,?_,?_,?_⟩
 ·exact(Below.heap_alloc _ _ _ (by simp;omega)).trans ((Below.heap_alloc _ _ _ (by simp)).trans (aD w _))
 ·have:=aD (w.alloc (.cells (nDf f) 25)) (.cells #[.bool c,.bool o] 27);rw [v9] at this;exact(Below.heap_alloc _ _ _ (by simp)).trans this
 ·have:=aD ((w.alloc (.cells (nDf f) 25)).alloc (.cells #[.bool c,.bool o] 27)) (.cells #[.I 0,.I 0,.I 0,.I 0,.slice none 0 0,.slice none 0 0] 25);rwa [v9,v9] at this
theorem Sm3.kept{w W W':World}{f:Fl}{c o:Bool}(h:Sm3 w f c o W)(hb:wBl W W'):Sm3 w f c o W':=
 ⟨aG h.bel hb lz9,(hb.block _ (aC h.box)).trans h.box,(hb.block _ (aC h.mode)).trans h.mode,(hb.block _ (aC h.res)).trans h.res⟩
theorem lX{w:World}{t:Tr}(c o:Bool)(hta:TB w t)(hr:aZ c o 0 0 (pp [] t)≠0):Calls Tryz.prog 7 #[.agg (nDf t.f),.agg #[.bool c,.bool o]] w fun e w'=>e=.returned (.tuple #[.agg #[.I 0,.I 0,.I 0,.I 0,.slice none 0 0,.slice none 0 0],.I (aZ c o 0 0 (pp [] t))])/\wBl w w':=by
 have S0:=aA (Sm3.new w t.f c o);have RC:=aA (fun V (hV:wBl w V)=>uE c o (hta.kept hV));obtain⟨R,hR⟩:∃ R,aZ c o 0 0 (pp [] t)=R:=⟨_,rfl⟩;rw [hR] at RC hr ⊢;have hr1:(R != 0)=true:=by simpa using hr
 clear hta hR hr;go_enter Tryz.func7,Tryz.ntmps7;go_upto_region 1 with fail
 generalize (((w.alloc (.cells (nDf t.f) 25)).alloc (.cells #[.bool c,.bool o] 27)).alloc (.cells #[.I 0,.I 0,.I 0,.I 0,.slice none 0 0,.slice none 0 0] 25))=W at S0 ⊢;obtain⟨c0,c1,c2,c3,c4,c5⟩:=S0.o.box.six;simp only [m7] at c1 c2 c3 c4 c5;have m0:=aB S0.o.mode (i:=0) rfl;have m1:=aB S0.o.mode (i:=1) rfl;have RD:=aA (RC.o W S0.o.bel);clear RC;go_wp2_with (go_at_call 21;(with_reducible refine RD.o.mono ?_);rintro e w5 ⟨rfl,h5⟩;have S5:=aA (S0.o.kept h5);clear h5;have r0:=aB S5.o.res (i:=0) rfl;have r1:=aB S5.o.res (i:=1) rfl;have r2:=aB S5.o.res (i:=2) rfl;have r3:=aB S5.o.res (i:=3) rfl;have r4:=aB S5.o.res (i:=4) rfl;have r5:=aB S5.o.res (i:=5) rfl;have fz:=fun z=>aK S5.o.res z;have E0:=aA (mF S5.o.bel S5.o.res (by omega)))
 exact mE E0.o.1 rfl rfl rfl ⟨rfl,E0.o.2⟩
theorem gD{w:World}{t:Tr}{x:Ps}{c o:Bool}(hta:TB w t)(he:er t=te x)(hx:PsOK c o x):Calls Tryz.prog 7 #[.agg (nDf t.f),.agg #[.bool c,.bool o]] w fun e w'=>∃ t':Tr,e=.returned (.tuple #[.agg #[.I t'.f.k,.I t'.f.n,.I t'.f.mn,.I t'.f.mx,.slice t'.f.rq t'.f.rs.length t'.f.rc,.slice t'.f.kq t'.f.kl t'.f.kc],.I 0])/\TA w' t'/\Foot (fun k=>w.heap.size<=k) t'/\er t'=te (sim unC x)/\wBl w w':=by
 have S0:=aA (Sm3.new w t.f c o);have RC:Hid (∀ V,wBl w V->Calls Tryz.prog 21 #[.agg (nDf t.f),.agg #[.bool c,.bool o]] V fun e w'=>e=.returned (.I 0)/\wBl V w'):=aA fun V hV=>(uE c o (hta.kept hV)).mono fun e w' ⟨h1,h2⟩=>⟨by rw [h1,hx.right he],h2⟩;have SC:Hid (∀ V rb,wBl w V->RL V rb->Calls Tryz.prog 22 #[.agg (nDf t.f),.slice (some (aDr rb 0)) 7 7] V (jZ V (te (sim unC x)))):=aA fun V rb hV hR=>rY c o rb t.sz t x V lz9 (hta.kept hV) he hx.wf hx.sg hx.sz hR;obtain⟨X,hX⟩:∃ X,te (sim unC x)=X:=⟨_,rfl⟩;rw [hX] at SC ⊢;clear hta he hx hX;go_enter Tryz.func7,Tryz.ntmps7;go_upto_region 1 with fail
 generalize (((w.alloc (.cells (nDf t.f) 25)).alloc (.cells #[.bool c,.bool o] 27)).alloc (.cells #[.I 0,.I 0,.I 0,.I 0,.slice none 0 0,.slice none 0 0] 25))=W at S0 ⊢;obtain⟨c0,c1,c2,c3,c4,c5⟩:=S0.o.box.six;simp only [m7] at c1 c2 c3 c4 c5;have m0:=aB S0.o.mode (i:=0) rfl;have m1:=aB S0.o.mode (i:=1) rfl;have RD:=aA (RC.o W S0.o.bel);clear RC;go_upto_region 4 with (go_at_call 21;(with_reducible refine RD.o.mono ?_);rintro e w5 ⟨rfl,h5⟩;have S5:=aA (S0.o.kept h5);clear h5)
 clear c0 c1 c2 c3 c4 c5 m0 m1 RD;obtain⟨c0,c1,c2,c3,c4,c5⟩:=S5.o.box.six;simp only [m7] at c1 c2 c3 c4 c5;have RU:=aA (fun V=>aX8 V)
 first | go_region_with (first |(go_at_call 22;(with_reducible refine(SC.o _ _ S6.o.bel L6.o).mono ?_);rintro e w7 ⟨t7,rfl,h71,h72,h73,h74⟩;have S7:=aA (S6.o.kept h74);have T7:=aA h71;have F7:=aA h72;have E7:=aA h73;clear h71 h72 h73 h74;have r0:=aB S7.o.res (i:=0) rfl;have r1:=aB S7.o.res (i:=1) rfl;have r2:=aB S7.o.res (i:=2) rfl;have r3:=aB S7.o.res (i:=3) rfl;have r4:=aB S7.o.res (i:=4) rfl;have r5:=aB S7.o.res (i:=5) rfl;have fz:=fun z=>aK S7.o.res z) |(go_at_call 23;(with_reducible refine(RU.o _).mono ?_);rintro e w6 ⟨rb,rfl,h61,h62⟩;have S6:=aA (S5.o.kept ((Below.refl w5.heap.size w5).drew.trans h62));have L6:=aA h61;clear h61 h62;have d0:=S6.o.box.six.1;have d1:=S6.o.box.six.2.1;have d2:=S6.o.box.six.2.2.1;have d3:=S6.o.box.six.2.2.2.1;have d4:=S6.o.box.six.2.2.2.2.1;have d5:=S6.o.box.six.2.2.2.2.2;simp only [m7] at d1 d2 d3 d4 d5)) | fail
 all_goals go_wp2
 all_goals have E0:=aA (oP t7 S7.o.bel S7.o.res (by omega) T7.o (F7.o.mono fun k hk=>o8 (aC S6.o.res) hk))
 all_goals exact mE E0.o.1 rfl rfl rfl ⟨t7,rfl,E0.o.2.2,F7.o.mono (fun k hk=>o0 S6.o.bel.size hk),E7.o,E0.o.2.1⟩
end
def chP(c:Int):Ps:=.lf 2 0 [(c,c)]
theorem aJ4(c:Int):te (chP c)=.mk 2 0 0 0 [(c,c)] []:=by unfold chP;rw [te]
theorem vR{a b:Int}(h:a<=b):Cls [(a,b)]:=⟨fun r hr=>by simp at hr;subst hr;exact h,by simp⟩
theorem aC1{a b:Int}(h:a<=b)(h0:0<=a)(h1:b<=255):lC false false [(a,b)]:=by
 refine⟨⟨vR h,gJ (by omega),fun c=>⟨fun q=>⟨q,?_⟩,fun q=>q.1⟩⟩,fun q=>by cases q⟩;rw [dZ] at q;exact⟨by omega,by unfold top;simp;omega,fun z=>by cases z⟩
theorem aL1{c:Int}(h0:0<=c)(h1:c<=255):dG false false (.lf 2 0 [(c,c)]):=⟨fun _=>⟨aC1 (aAW _) h0 h1,rfl⟩,fun h=>absurd rfl h,fun h=>absurd h (by decide),fun _=>rfl⟩
theorem aH8(c:Int):wf (chP c):=by unfold chP;rw [wf];exact .inl rfl
def x1P:Ps:=.rep 1 1 (chP 97)
def stP:Ps:=.rep 0 (-1) (chP 97)
def x2P:Ps:=.rep 0 (-1) stP
def x3P:Ps:=.alt [chP 97,chP 98,chP 97]
theorem bO5:PsOK false false x1P:=by
 refine⟨by unfold x1P;rw [wf];exact⟨rfl,aH8 97⟩,?_,?_,?_,?_⟩
 ·intro s hs;simp [x1P,chP,pfl] at hs;rcases hs with rfl | rfl
  ·exact aL1 (by decide) (by decide)
  ·show eX 1 1=true;decide
 ·simp [x1P,chP,pfl,hk]
 ·simp [x1P,chP,Ps.dp]
 ·simp [x1P,chP,Ps.sz]
theorem bO4:PsOK false false x2P:=by
 refine⟨by unfold x2P stP;rw [wf];exact⟨rfl,by rw [wf];exact⟨rfl,aH8 97⟩⟩,?_,?_,?_,?_⟩
 ·intro s hs;simp [x2P,stP,chP,pfl] at hs;rcases hs with rfl | rfl
  ·exact aL1 (by decide) (by decide)
  ·show eX 0 (-1)=true;decide
 ·simp [x2P,stP,chP,pfl,hk]
 ·simp [x2P,stP,chP,Ps.dp]
 ·simp [x2P,stP,chP,Ps.sz]
theorem bO3:PsOK false false x3P:=by
 refine⟨by unfold x3P;rw [wf];exact⟨by simp,by intro x hx;simp at hx;rcases hx with rfl | rfl | rfl <;> rfl,(dC _).2 (by intro x hx;simp at hx;rcases hx with rfl | rfl | rfl <;> exact aH8 _)⟩,?_,?_,?_,?_⟩
 ·intro s hs;simp [x3P,chP,pfl,lH,eH] at hs;rcases hs with rfl | rfl | rfl | rfl | rfl <;> first | exact aL1 (by decide) (by decide) | trivial
 ·simp [x3P,chP,pfl,lH,eH,hk]
 ·simp [x3P,chP,Ps.dp,gK]
 ·simp [x3P,chP,Ps.sz,bU]
theorem sD(c:Int):sim unC (chP c)=chP c:=by unfold chP;rw [sim]
theorem bH6:sim unC x1P=chP 97:=by
 unfold x1P;rw [sim,sD];unfold iL;rw [if_pos ⟨rfl,rfl⟩]
theorem bH7:sim unC stP=stP:=by
 unfold stP;rw [sim,sD];unfold iL;rw [if_neg (by decide),if_neg (by rintro ⟨-,-,h⟩;cases h),if_neg (by rintro ⟨h,-⟩;cases h),if_neg (by intro h;cases h)]
theorem bH5:sim unC x2P=stP:=by
 unfold x2P;rw [sim,bH7];unfold iL;rw [if_neg (by decide),if_pos ⟨rfl,rfl,rfl⟩]
theorem bN6:unC [(97,97),(98,98),(97,97)]=[(97,98)]:=by
 refine lP _ _ (rS _) (vR (by decide)) fun c=>?_;rw [pE,bK,bK,dZ,dZ];simp only;omega
theorem bH4:sim unC x3P=.lf 2 0 [(97,98)]:=by
 unfold x3P;rw [sim,cC,cC,cC,cC,sD,sD];unfold kO bG;have hf:[chP 97,chP 98,chP 97].filter isS=[chP 97,chP 98,chP 97]:=rfl;rw [hf,if_pos (by simp)];have hu:[chP 97,chP 98,chP 97].flatMap rsP=[(97,97),(98,98),(97,97)]:=rfl;rw [hu,bN6];have hs:bV [(97,98)] false [chP 97,chP 98,chP 97]=[.lf 2 0 [(97,98)]]:=rfl;rw [hs,aW,if_neg (by simp),aW]
 rfl
theorem bC7{t:Tr}(h:er t=.mk 5 0 0 0 [] [.mk 2 0 0 0 [(97,97)] []]):aZ false false 0 0 (pp [] t)=50:=by
 obtain⟨k1,n1,m1,x1,r1,l1⟩:=iR h;obtain⟨a,e1,ha⟩:=sV l1;have hp:∃ rest,pp [] t=([],t) :: rest:=by rw [bX];exact⟨_,rfl⟩
 obtain⟨rest,hp⟩:=hp;rw [hp];simp [aZ,bR,bQ,cP,aS,dY,k1,n1,m1,x1,r1,e1]
theorem bL4{W:World}{g:Nat}{us:List Tr}(h:W.heap[g]?=some (.cells (aV us).toArray 25 (0,0))):KR W g us:=by
 refine⟨⟨_,h⟩,fun i t hi=>?_⟩;have key:∀ (j:Nat) (u:Value),j<6->t.f.cells[j]?=some u->W.cell? ⟨g,i*6+j,none⟩=some u:=fun j u hj hu=>by
  refine aB h (i:=i*6+j) ?_;have:=iU us i j t hi hj;rw [List.getElem?_toArray,this,hu]
 exact⟨key 0 _ (by omega) rfl,key 1 _ (by omega) rfl,key 2 _ (by omega) rfl,key 3 _ (by omega) rfl,key 4 _ (by omega) rfl,key 5 _ (by omega) rfl⟩
theorem aJ7{W:World}{g:Nat}{us:List Tr}(k n mn mx:Int)(h:W.heap[g]?=some (.cells (aV us).toArray 25 (0,0)))(hu:∀ u∈us,TB W u)(hl:us.length<=1000):TB W (.mk ⟨k,n,mn,mx,[],none,0,some (aDr g 0),us.length,us.length⟩ us):=
 (aI _).2 ⟨⟨.inl ⟨none,0,rfl,rfl,fun _=>rfl⟩,(bL4 h).arg lz9 (by show us.length<=maxLen;unfold maxLen;omega),(fun r hr=>by cases hr),by simp [Tr.f]⟩,(aT _).2 hu⟩
abbrev Sg:=Int×Int×Int×Int×lIi×Nat
def sig(t:Tr):Sg:=(t.f.k,t.f.n,t.f.mn,t.f.mx,t.f.rs,t.ks.length)
def sgs(l:List El):List Sg:=l.map fun x=>sig x.2
theorem iM(a b:List El):sgs (a++b)=sgs a++sgs b:=by simp [sgs]
theorem bI3{a b:Tr}(h:er a=er b):sig a=sig b:=by
 obtain⟨h1,h2,h3,h4,h5,h6⟩:=(qG a b).1 h;have:=congrArg List.length h6;rw [aAC,aAC] at this;unfold sig;rw [h1,h2,h3,h4,h5,this]
theorem aW8(a:Tr):∀ (b:Tr) (p q:Way) (X Y:List Sg),sgs (pp p a)++X=sgs (pp q b)++Y->er a=er b/\X=Y:=by
 refine Tr.ind (P:=fun a=>∀ (b:Tr) (p q:Way) (X Y:List Sg),sgs (pp p a)++X=sgs (pp q b)++Y->er a=er b/\X=Y) (fun a ih b p q X Y h=>?_) a;have key:∀ (ks js:List Tr) (i i':Nat) (X Y:List Sg),(∀ u∈ks,u∈a.ks)->ks.length=js.length->sgs (pps a p i ks)++X=sgs (pps b q i' js)++Y->ks.map er=js.map er/\X=Y:=by
  intro ks
  induction ks with
  | nil=>
   intro js i i' X Y _ hl h
   cases js with
   | nil=>rw [bA,bA] at h;exact⟨rfl,h⟩
   | cons v js=>cases hl
  | cons u ks ihk=>
   intro js i i' X Y hm hl h
   cases js with
   | nil=>cases hl
   | cons v js=>
    rw [aX,aX,iM,iM,r8,r8] at h;obtain⟨h1,h2⟩:=ih u (hm u n9) v _ _ _ _ h;obtain⟨h3,h4⟩:=ihk js _ _ X Y (fun z hz=>hm z (m9 _ hz)) (by simpa using hl) h2;rw [s6,s6,h1,h3];exact⟨rfl,h4⟩
 rw [bX,bX] at h;simp only [sgs,s6,t4] at h;injection h with h1 h2;obtain⟨h5,h6⟩:=key a.ks b.ks 0 0 X Y (fun _ z=>z) (congrArg (fun s:Sg=>s.2.2.2.2.2) h1) h2;refine⟨(qG a b).2 ⟨congrArg (fun s:Sg=>s.1) h1,congrArg (fun s:Sg=>s.2.1) h1,congrArg (fun s:Sg=>s.2.2.1) h1,congrArg (fun s:Sg=>s.2.2.2.1) h1,congrArg (fun s:Sg=>s.2.2.2.2.1) h1,h5⟩,h6⟩
theorem bI4(a:Tr):∀ (b:Tr) (p q:Way),er a=er b->sgs (pp p a)=sgs (pp q b):=by
 refine Tr.ind (P:=fun a=>∀ (b:Tr) (p q:Way),er a=er b->sgs (pp p a)=sgs (pp q b)) (fun a ih b p q h=>?_) a;have hs:=bI3 h;obtain⟨-,-,-,-,-,h6⟩:=(qG a b).1 h;have key:∀ (ks js:List Tr) (i i':Nat),(∀ u∈ks,u∈a.ks)->ks.map er=js.map er->sgs (pps a p i ks)=sgs (pps b q i' js):=by
  intro ks
  induction ks with
  | nil=>
   intro js i i' _ hl
   cases js with
   | nil=>rw [bA,bA]
   | cons v js=>cases hl
  | cons u ks ihk=>
   intro js i i' hm hl
   cases js with
   | nil=>cases hl
   | cons v js=>
    rw [s6,s6] at hl;injection hl with h1 h2;rw [aX,aX,iM,iM,ih u (hm u n9) v _ _ h1,ihk js _ _ (fun z hz=>hm z (m9 _ hz)) h2]
 rw [bX,bX];have:=key a.ks b.ks 0 0 (fun _ z=>z) h6;simp only [sgs,s6] at this ⊢;rw [hs,this]
theorem pP(a b:Tr):eQ (er a) (er b)=true↔sgs (pp [] a)=sgs (pp [] b):=by
 rw [eU];refine⟨bI4 a b [] [],fun h=>(aW8 a b [] [] [] [] (by rw [h])).1⟩
theorem aW7(a b:Tr)(h:sgs (pp [] a)=sgs (pp [] b)):(pp [] a).length=(pp [] b).length:=by
 have:=congrArg List.length h;simpa [sgs] using this
noncomputable def rsB (a b:Tr):Bool:=!decide (2000<(pp [] a).length) && !decide (2000<(pp [] b).length)&&eQ (er a) (er b)
theorem aL7{a b:Tr}(h:gA a≠gA b\/2000<gA a):rsB a b=false:=by
 unfold rsB gA at *
 cases hs:eQ (er a) (er b) with
 | false=>rw [Bool.and_false]
 | true=>
  have hl:=aW7 a b ((pP a b).1 hs);rw [aAM (show 2000<(pp [] a).length by omega)]
  rfl
theorem bI7{a b:Tr}(h1:gA a=gA b)(h2:¬ 2000<gA a):rsB a b=eQ (er a) (er b)/\(pp [] a).length<=2000/\(pp [] b).length<=2000:=by
 unfold rsB gA at *;have l1:(pp [] a).length<=2000:=by omega
 have l2:(pp [] b).length<=2000:=by omega
 rw [r9 (by omega),r9 (by omega)];exact⟨rfl,l1,l2⟩
theorem wV{w:World}{a b:Tr}(ha:TB w a)(hb:TB w b):Calls Tryz.prog 16 #[.agg (nDf a.f),.agg (nDf b.f)] w fun e w'=>e=.returned (.bool (rsB a b))/\wBl w w':=by
 have B1:Hid (wBl w ((w.alloc (.cells (nDf a.f) 25)).alloc (.cells (nDf b.f) 25))):=(bz9).alloc (by simp) _;have NA1:Hid (BoxN ((w.alloc (.cells (nDf a.f) 25)).alloc (.cells (nDf b.f) 25)) w.heap.size a.f):=(Below.heap_alloc _ _ _ (by simp)).trans (aD w _);have NB1:Hid (BoxN ((w.alloc (.cells (nDf a.f) 25)).alloc (.cells (nDf b.f) 25)) (w.heap.size+1) b.f):=(by
  have:=aD (w.alloc (.cells (nDf a.f) 25)) (.cells (nDf b.f) 25);rwa [v9] at this)
 have HA:=aA ha;have HB:=aA hb;obtain⟨R,hR⟩:∃ R,rsB a b=R:=⟨_,rfl⟩;rw [hR];have HR:=aA hR;clear ha hb hR;go_enter Tryz.func16,Tryz.ntmps16;go_upto_region 1 with fail
 generalize ((w.alloc (.cells (nDf a.f) 25)).alloc (.cells (nDf b.f) 25))=W1 at B1 NA1 NB1 ⊢;generalize w.heap.size+1=bb at NB1 ⊢;obtain⟨c0,c1,c2,c3,c4,c5⟩:=NA1.o.six;simp only [m7] at c1 c2 c3 c4 c5;have LA:=aA (sW (w:=W1) 2001 (by omega) (HA.o.kept B1.o));have hza:=rF a;have HMA:=aA (jN 2001 a);generalize gM 2001 a=ZA at LA hza HMA;have HZA:=aA hza;clear hza;go_upto_region 2 with (go_at_call 19;refine(LA.o).mono ?_;rintro e w5 ⟨q5,k5,rfl,h51,h52⟩;have Z5:=aA h51;have B5:=aA h52;clear h51 h52)
 clear c0 c1 c2 c3 c4 c5 LA;obtain⟨c0,c1,c2,c3,c4,c5⟩:=(show BoxN w5 bb b.f from (B5.o.block _ (aC NB1.o)).trans NB1.o).six;simp only [m7] at c1 c2 c3 c4 c5;have B6:=aA (aG B1.o B5.o lz9);have LB:=aA (sW (w:=w5) 2001 (by omega) (HB.o.kept B6.o));have hzb:=rF b;have HMB:=aA (jN 2001 b);generalize gM 2001 b=ZB at LB hzb HMB;have HZB:=aA hzb;clear hzb;go_upto_region 3 with (go_at_call 19;refine(LB.o).mono ?_;rintro e w7 ⟨q7,k7,rfl,h51,h52⟩;have Z7:=aA h51;have B7:=aA h52;clear h51 h52)
 have Y7:Hid (ZR W1.heap.size w7 (.slice q5 ZA.length k5) ZA):=aH Z5.o (Fr.of_below (S:=fun _=>False) B7.o) (fun _ _ z=>z);have B8:=aA (aG B6.o B7.o lz9);have hua:gA a<=2001:=Nat.min_le_right _ _;have hub:gA b<=2001:=Nat.min_le_right _ _;have hal:ZA.length<=2001:=by rw [HZA.o];exact hua
 have hbl:ZB.length<=2001:=by rw [HZB.o];exact hub
 clear c0 c1 c2 c3 c4 c5 LB B1 B5 B6 B7 Z5 NA1 NB1 hua hub;by_cases hne:ZA.length=ZB.length
 ·have e0:((ZA.length:Int) != (ZB.length:Int))=false:=by simp;omega
  by_cases hbig:2000<ZA.length
  ·have e1:(2000:Int)<(ZA.length:Int):=by omega
   have HF:=aA (HR.o.symm.trans (aL7 (.inr (by rw [<- HZA.o];exact hbig))));clear hne hbig;go_wp2;go_ret;exact⟨by rw [HF.o];rfl,B8.o⟩
  ·have e1:¬ (2000:Int)<(ZA.length:Int):=by omega
   obtain⟨h1,h2,h3⟩:=bI7 (a:=a) (b:=b) (by rw [<- HZA.o,<- HZB.o];exact hne) (by rw [<- HZA.o];exact hbig);have HQ:=aA (HR.o.symm.trans h1);have HEA:=aA (show ZA.map (·.1)=pp [] a by rw [HMA.o,o4 (by omega)]);have HEB:=aA (show ZB.map (·.1)=pp [] b by rw [HMB.o,o4 (by omega)]);have HNE:=aA hne;clear h1 h2 h3 hbig HMA HMB HZA HZB;go_upto_region 6 with fail
   go_loopw [7] (fun i wr=>∃ j:Nat,j<=ZA.length/\i=.I (j:Int)/\wBl w7 wr/\(sgs (pp [] a)).take j=(sgs (pp [] b)).take j) (fun i _=>ZA.length-(intOf i).toNat)
   case atStart=>exact⟨0,o9 _,rfl,Below.refl _ _,rfl⟩
   case round=>
    obtain⟨j,hj,rfl,hbw,hsg⟩:=hrel;have HBW:=aA hbw;have HSG:=aA hsg;clear hbw hsg;by_cases hjl:j<ZA.length
    ·have i0:(j:Int)<(ZA.length:Int):=by omega
     have i1:(j:Int)<(ZB.length:Int):=(by omega);obtain⟨x,hx⟩:∃ x,ZA[j]?=some x:=⟨_,g9 hjl⟩;obtain⟨y,hy⟩:∃ y,ZB[j]?=some y:=⟨_,g9 (by omega)⟩;obtain⟨ga,ca,hqa⟩:=aO Y7.o (by omega);obtain⟨gb,cb,hqb⟩:=aO Z7.o (by omega);injection hqa with hqa1 _ hqa2;injection hqb with hqb1 _ hqb2;subst hqa1 hqa2 hqb1 hqb2;have YA:ZR W1.heap.size wr (.slice (some (aDr ga 0)) ZA.length k5) ZA:=aH Y7.o (Fr.of_below (S:=fun _=>False) HBW.o) (fun _ _ z=>z);have YB:ZR w5.heap.size wr (.slice (some (aDr gb 0)) ZB.length k7) ZB:=aH Z7.o (Fr.of_below (S:=fun _=>False) HBW.o) (fun _ _ z=>z);have x0:wr.cell? ⟨ga,j*12,none⟩=some (.I x.1.2.f.k):=YA.cells hx (j:=0) rfl;have x1:wr.cell? ⟨ga,j*12+1,none⟩=some (.I x.1.2.f.n):=YA.cells hx (j:=1) rfl;have x2:wr.cell? ⟨ga,j*12+2,none⟩=some (.I x.1.2.f.mn):=YA.cells hx (j:=2) rfl;have x3:wr.cell? ⟨ga,j*12+3,none⟩=some (.I x.1.2.f.mx):=YA.cells hx (j:=3) rfl;have x4:wr.cell? ⟨ga,j*12+4,none⟩=some (.slice x.1.2.f.rq x.1.2.f.rs.length x.1.2.f.rc):=YA.cells hx (j:=4) rfl;have x5:wr.cell? ⟨ga,j*12+5,none⟩=some (.slice x.1.2.f.kq x.1.2.f.kl x.1.2.f.kc):=YA.cells hx (j:=5) rfl;have y0:wr.cell? ⟨gb,j*12,none⟩=some (.I y.1.2.f.k):=YB.cells hy (j:=0) rfl;have y1:wr.cell? ⟨gb,j*12+1,none⟩=some (.I y.1.2.f.n):=YB.cells hy (j:=1) rfl;have y2:wr.cell? ⟨gb,j*12+2,none⟩=some (.I y.1.2.f.mn):=YB.cells hy (j:=2) rfl;have y3:wr.cell? ⟨gb,j*12+3,none⟩=some (.I y.1.2.f.mx):=YB.cells hy (j:=3) rfl;have y4:wr.cell? ⟨gb,j*12+4,none⟩=some (.slice y.1.2.f.rq y.1.2.f.rs.length y.1.2.f.rc):=YB.cells hy (j:=4) rfl;have y5:wr.cell? ⟨gb,j*12+5,none⟩=some (.slice y.1.2.f.kq y.1.2.f.kl y.1.2.f.kc):=YB.cells hy (j:=5) rfl;have hxa:(pp [] a)[j]?=some x.1:=(by rw [<- HEA.o,aAO,hx];rfl);have hyb:(pp [] b)[j]?=some y.1:=(by rw [<- HEB.o,aAO,hy];rfl);have lga:ga<wr.heap.size:=(aF YA (g:=ga) rfl).2.1;have lgb:gb<wr.heap.size:=(aF YB (g:=gb) rfl).2.1;have BW:=aG B8.o HBW.o lz9;have TX:=(HA.o.at (n8 hxa)).node.ck (CK.of_below BW);have TY:=(HB.o.at (n8 hyb)).node.ck (CK.of_below BW);have klx:=TX.kl;have kly:=TY.kl;have SN:Hid (sig x.1.2=sig y.1.2->(sgs (pp [] a)).take (j+1)=(sgs (pp [] b)).take (j+1)):=fun h=>(by
      rw [s7,s7,HSG.o];simp only [sgs,aAO,hxa,hyb,Option.map_some];rw [h])
     have SD:Hid (sig x.1.2≠sig y.1.2->R=false):=fun h=>(by
      rw [HQ.o]
      cases hs:eQ (er a) (er b) with
      | false=>rfl
      | true=>
       exfalso
       have:=(pP a b).1 hs;have h2:=congrArg (fun l=>l[j]?) this;simp only [sgs,aAO,hxa,hyb,Option.map_some] at h2;injection h2 with h2;exact h h2)
     have SG:=aA (show sig x.1.2=sig y.1.2↔x.1.2.f.k=y.1.2.f.k/\x.1.2.f.n=y.1.2.f.n/\x.1.2.f.mn=y.1.2.f.mn/\x.1.2.f.mx=y.1.2.f.mx/\x.1.2.f.rs=y.1.2.f.rs/\x.1.2.f.kl=y.1.2.f.kl by
      unfold sig;rw [klx,kly];simp [Prod.ext_iff])
     obtain⟨⟨wa,ta⟩,oa⟩:=x;obtain⟨⟨wb,tb⟩,ob⟩:=y;dsimp only at *;have TX':=aA TX;have TY':=aA TY;clear hx hy hxa hyb YA YB TX TY klx kly BW;go_upto_region 10 with fail
     have K2:wBl wr ((wr.alloc (.cells (nDf ta.f) 25)).alloc (.cells (nDf tb.f) 25)):=(bz9).alloc (by simp) _;have N8:Hid (BoxN ((wr.alloc (.cells (nDf ta.f) 25)).alloc (.cells (nDf tb.f) 25)) wr.heap.size ta.f):=(Below.heap_alloc _ _ _ (by simp)).trans (aD wr _);have N9:Hid (BoxN ((wr.alloc (.cells (nDf ta.f) 25)).alloc (.cells (nDf tb.f) 25)) (wr.heap.size+1) tb.f):=(by
      have:=aD (wr.alloc (.cells (nDf ta.f) 25)) (.cells (nDf tb.f) 25);rwa [v9] at this)
     have AK:=aA (tL (TX'.o.ck (CK.of_below K2)).r (TY'.o.ck (CK.of_below K2)).r);have HK2:=aA K2;clear K2;generalize ((wr.alloc (.cells (nDf ta.f) 25)).alloc (.cells (nDf tb.f) 25))=W2 at N8 N9 AK HK2 ⊢;generalize wr.heap.size+1=b9 at N9 ⊢;obtain⟨b8,hb8⟩:∃ b8,wr.heap.size=b8:=⟨_,rfl⟩;rw [hb8] at N8 ⊢;clear hb8;have a4:W2.cell? (aDr b8 4)=some (.slice ta.f.rq ta.f.rs.length ta.f.rc):=N8.o.six.2.2.2.2.1;have d4:W2.cell? (aDr b9 4)=some (.slice tb.f.rq tb.f.rs.length tb.f.rc):=N9.o.six.2.2.2.2.1;obtain⟨rr,hrr⟩:∃ rr,decide (ta.f.rs=tb.f.rs)=rr:=⟨_,rfl⟩;rw [hrr] at AK;have HRR:=aA hrr;clear hrr x0 x1 x2 x3 x4 x5 y0 y1 y2 y3 y4 y5;go_upto_region 11 with (go_at_call 31;(with_reducible refine(AK.o).mono ?_);rintro e W3 ⟨rfl,h3⟩;have B3:=aA h3;have N8':=aA ((h3.block _ (aC N8.o)).trans N8.o);have N9':=aA ((h3.block _ (aC N9.o)).trans N9.o);clear h3)
     have HB4:=aA (aG HBW.o (aG HK2.o B3.o lz9) (by have:=HBW.o.size;omega));obtain⟨x0,x1,x2,x3,x4,x5⟩:=(show BoxN W3 b8 ta.f from N8'.o).six;obtain⟨y0,y1,y2,y3,y4,y5⟩:=(show BoxN W3 b9 tb.f from N9'.o).six;simp only [m7] at x1 x2 x3 x4 x5 y1 y2 y3 y4 y5;clear a4 d4 N8 N9 AK HK2 B3 N8' N9';obtain⟨S,hS⟩:∃ S:Bool,(S=true↔sig ta=sig tb):=by
      by_cases h:sig ta=sig tb
      ·exact⟨true,⟨fun _=>h,fun _=>rfl⟩⟩
      ·exact⟨false,⟨fun z=>(by cases z),fun z=>absurd z h⟩⟩
     have HSS:=aA hS;clear hS;go_cut [84] (fun u wx=>u=.bool (!S)/\wx=W3)
     case first=>
      by_cases hk:ta.f.k=tb.f.k
      case neg=>
       have ek:(ta.f.k != tb.f.k)=true:=(by simpa using hk);have HF:=aA (show S=false from Bool.eq_false_iff.2 fun z0=>(fun z=>hk ((SG.o.1 z).1)) (HSS.o.1 z0));clear hk;go_wp2;go_meet;exact⟨by rw [HF.o];rfl,rfl⟩
      have ek:(ta.f.k != tb.f.k)=false:=(by simpa using hk);have Hk9:=aA hk;clear hk;by_cases hn:ta.f.n=tb.f.n
      case neg=>
       have en:(ta.f.n != tb.f.n)=true:=(by simpa using hn);have HF:=aA (show S=false from Bool.eq_false_iff.2 fun z0=>(fun z=>hn ((SG.o.1 z).2.1)) (HSS.o.1 z0));clear hn;go_wp2;go_meet;exact⟨by rw [HF.o];rfl,rfl⟩
      have en:(ta.f.n != tb.f.n)=false:=(by simpa using hn);have Hn9:=aA hn;clear hn;by_cases hm:ta.f.mn=tb.f.mn
      case neg=>
       have em:(ta.f.mn != tb.f.mn)=true:=(by simpa using hm);have HF:=aA (show S=false from Bool.eq_false_iff.2 fun z0=>(fun z=>hm ((SG.o.1 z).2.2.1)) (HSS.o.1 z0));clear hm;go_wp2;go_meet;exact⟨by rw [HF.o];rfl,rfl⟩
      have em:(ta.f.mn != tb.f.mn)=false:=(by simpa using hm);have Hm9:=aA hm;clear hm;by_cases hx:ta.f.mx=tb.f.mx
      case neg=>
       have ex:(ta.f.mx != tb.f.mx)=true:=(by simpa using hx);have HF:=aA (show S=false from Bool.eq_false_iff.2 fun z0=>(fun z=>hx ((SG.o.1 z).2.2.2.1)) (HSS.o.1 z0));clear hx;go_wp2;go_meet;exact⟨by rw [HF.o];rfl,rfl⟩
      have ex:(ta.f.mx != tb.f.mx)=false:=(by simpa using hx);have Hx9:=aA hx;clear hx
      cases rr with
      | false=>
       have HF:=aA (show S=false from Bool.eq_false_iff.2 fun z0=>(fun z=>(of_decide_eq_false HRR.o) ((SG.o.1 z).2.2.2.2.1)) (HSS.o.1 z0));go_wp2;go_meet;exact⟨by rw [HF.o];rfl,rfl⟩
      | true=>
       by_cases hl:ta.f.kl=tb.f.kl
       ·have el:((ta.f.kl:Int) != (tb.f.kl:Int))=false:=by simp;omega
        have HF:=aA (show S=true from HSS.o.2 (SG.o.2 ⟨Hk9.o,Hn9.o,Hm9.o,Hx9.o,of_decide_eq_true HRR.o,hl⟩));clear hl;go_wp2;go_meet;exact⟨by rw [HF.o];rfl,rfl⟩
       ·have el:((ta.f.kl:Int) != (tb.f.kl:Int))=true:=by simp;omega
        have HF:=aA (show S=false from Bool.eq_false_iff.2 fun z0=>(fun z=>hl ((SG.o.1 z).2.2.2.2.2)) (HSS.o.1 z0));clear hl;go_wp2;go_meet;exact⟨by rw [HF.o];rfl,rfl⟩
     case rest=>
      obtain⟨rfl,hW⟩:=hcut;subst hW
      cases S with
      | true=>
       have HN:=aA (SN.o (HSS.o.1 rfl));go_wp2;go_roundw
       case rel=>exact⟨j+1,by omega,by go_num,HB4.o,HN.o⟩
       case measure=>simp only [intOf];omega
      | false=>
       have HF:=aA (SD.o fun z=>by have:=HSS.o.2 z;cases this);go_wp2;go_ret;exact⟨by rw [HF.o];rfl,aG B8.o HB4.o lz9⟩
    ·have i0:¬ (j:Int)<(ZA.length:Int):=by omega
     have HF:=aA (show R=true by
      rw [HQ.o];refine(pP a b).2 ?_;have h:=HSG.o;have la:(sgs (pp [] a)).length=ZA.length:=(by rw [<- HEA.o];simp [sgs]);have lb:(sgs (pp [] b)).length=ZB.length:=(by rw [<- HEB.o];simp [sgs]);have:=HNE.o;rwa [o4 (by omega),o4 (by omega)] at h)
     go_wp2;go_ret;exact⟨by rw [HF.o];rfl,aG B8.o HBW.o lz9⟩
 ·have e0:((ZA.length:Int) != (ZB.length:Int))=true:=by simp;omega
  have HF:=aA (HR.o.symm.trans (aL7 (.inl (by rw [<- HZA.o,<- HZB.o];exact hne))));clear hne;go_wp2;go_ret;exact⟨by rw [HF.o];rfl,B8.o⟩
section
attribute [local go_sem] Oper.semAt_some
theorem aC7{R:Ending->World->Prop}{a:Act}{W:World}{b:Nat}{f:Fl}(h:Six W b 0 f)(ha:a.tmps[2]?.getD undef=.pointer (some (aDr b 0)))(hd:a.defers=[])(hR:R (.returned (.agg (nDf f))) W):bodyPost Tryz.prog Tryz.f18 R .ret a W:=by
 obtain⟨z0,z1,z2,z3,z4,z5⟩:=h;simp only [m7] at z1 z2 z3 z4 z5;refine bodyPost_ret (v:=.agg (nDf f)) ?_ hd hR;simp [results,Tryz.results18,go_sem,ha,z0,z1,z2,z3,z4,z5]
theorem yX{w:World}(c:Int)(hc:0<=c/\c<=1000000):Calls Tryz.prog 18 #[.I c] w (jZ w (.mk 2 0 0 0 [(c,c)] [])):=by
 go_enter Tryz.func18,Tryz.ntmps18;go_wp2;have B1:wBl w ((w.alloc (.cells #[.I 2,.I 0,.I 0,.I 0,.slice (some ⟨w.heap.size+1,0,none⟩) 1 1,.slice none 0 0] 25)).alloc (.cells #[.I c,.I c] 53)):=(bz9).alloc (by simp) _;have N1:BoxN ((w.alloc (.cells #[.I 2,.I 0,.I 0,.I 0,.slice (some ⟨w.heap.size+1,0,none⟩) 1 1,.slice none 0 0] 25)).alloc (.cells #[.I c,.I c] 53)) w.heap.size ⟨2,0,0,0,[(c,c)],some ⟨w.heap.size+1,0,none⟩,1,none,0,0⟩:=(Below.heap_alloc _ _ _ (by simp)).trans (aD w _);have M1:((w.alloc (.cells #[.I 2,.I 0,.I 0,.I 0,.slice (some ⟨w.heap.size+1,0,none⟩) 1 1,.slice none 0 0] 25)).alloc (.cells #[.I c,.I c] 53)).heap[w.heap.size+1]?=some (.cells #[.I c,.I c] 53 (0,0)):=(by
  have:=aD (w.alloc (.cells #[.I 2,.I 0,.I 0,.I 0,.slice (some ⟨w.heap.size+1,0,none⟩) 1 1,.slice none 0 0] 25)) (.cells #[.I c,.I c] 53);rwa [v9] at this)
 refine aC7 N1.six rfl rfl ?_;refine⟨.mk ⟨2,0,0,0,[(c,c)],some ⟨w.heap.size+1,0,none⟩,1,none,0,0⟩ [],rfl,(aI _).2 ⟨⟨.inr ⟨w.heap.size+1,0,1,rfl,aC M1,t8 _,by unfold maxLen;decide,fun i r hi=>?_⟩,.inl ⟨none,0,rfl,rfl,fun _=>rfl⟩,gJ (by omega),by simp [Tr.f],⟨fun a e _=>(by cases e;exact⟨_,M1⟩),fun a e=>(by cases e)⟩⟩,(aT _).2 fun u hu=>by cases hu⟩,(aI _).2 ⟨⟨fun a e _=>?_,fun a e=>(by cases e)⟩,(aT _).2 fun u hu=>by cases hu⟩,by rw [bY];rfl,B1⟩
 ·match i,hi with
  | 0,hi=>
   simp [Tr.f] at hi;subst hi;exact⟨aB M1 (i:=0) rfl,aB M1 (i:=1) rfl⟩
 ·have e':some (⟨w.heap.size+1,0,none⟩:Addr)=some a:=e;injection e' with e';subst e';exact aCA _
def RB(W:World)(B:Nat)(X:Er):Prop:=∃ t,BoxN W B t.f/\TA W t/\er t=X
def SJ(W V:World):Prop:=wBl W V
theorem SJ.o{W V:World}(h:SJ W V):wBl W V:=h
theorem SJ.drew(W:World):SJ W W.drew:=(Below.refl _ _).drew
theorem SJ.alloc{W V:World}(h:SJ W V)(o:Obj):SJ W (V.alloc o):=Below.alloc h h.o.size o
theorem SJ.set{W V:World}(h:SJ W V){b:Nat}(hb:W.heap.size<=b)(i:Nat)(v:Value):SJ W (V.setCell (aDr b i) v):=Below.setCell h hb v
theorem SJ.call{W V V':World}(h:SJ W V)(hb:wBl V V'):SJ W V':=aG h.o hb lz9
theorem SJ.size{W V:World}(h:SJ W V):W.heap.size<=V.heap.size:=h.o.size
theorem SJ.six{W V:World}{b:Nat}{f:Fl}(h:SJ W V)(x:BoxN W b f):Six V b 0 f:=BoxN.six ((h.o.block _ (aC x)).trans x)
theorem sP(V:World)(o o':Obj):((V.alloc o).alloc o').heap[V.heap.size]?=some o:=(Below.heap_alloc _ _ _ (by simp)).trans (World.alloc_heap_new V o)
theorem sO(V:World)(o o':Obj):((V.alloc o).alloc o').heap[V.heap.size+1]?=some o':=by
 have:=World.alloc_heap_new (V.alloc o) o';rwa [v9] at this
theorem bE5(V:World)(o:Obj):(V.alloc o).drew.heap[V.heap.size]?=some o:=World.alloc_heap_new V o
theorem aE1(V:World)(o o':Obj):((V.alloc o).alloc o').drew.heap[V.heap.size]?=some o:=sP V o o'
theorem aE0(V:World)(o o':Obj):((V.alloc o).alloc o').drew.heap[V.heap.size+1]?=some o':=sO V o o'
theorem SJ.ad{W V:World}(h:SJ W V.drew)(o:Obj):SJ W (V.alloc o).drew:=SJ.alloc h o
theorem vY(V:World)(o:Obj):wBl V (V.alloc o):=bz9
theorem bQ3(V:World)(o o':Obj):wBl V ((V.alloc o).alloc o'):=(vY V o).alloc (by simp) _
theorem bQ2{V:World}{k:Nat}{o:Obj}(h:V.heap[k]?=some o)(o':Obj):(V.alloc o').heap[k]?=some o:=(Below.heap_alloc _ _ _ (aC h)).trans h
theorem bD7{V w6:World}{k:Nat}{o:Obj}(zV:V.heap[k]?=some o)(g:wBl V w6):w6.heap[k]?=some o:=(g.block _ (aC zV)).trans zV
theorem aH6{V w6:World}{t:Tr}{k:Nat}{o:Obj}(zV:V.heap[k]?=some o)(g:wBl V w6)(hf:Foot (fun i=>V.heap.size<=i) t):w6.heap[k]?=some o/\Foot (fun i=>k<i) t:=⟨bD7 zV g,hf.mono (fun _ hk=>o8 (aC zV) hk)⟩
theorem aM6{W:World}{b:Nat}(h:W.heap[b]?=some (.cells #[.I 0,.I 0,.I 0,.I 0,.slice none 0 0,.slice none 0 0] 25 (0,0)))(f:Fl):BoxN (cD W b 0 f) b f:=by
 have h0:=aJ h 0 (.I f.k);have h1:=aJ h0 1 (.I f.n);have h2:=aJ h1 2 (.I f.mn);have h3:=aJ h2 3 (.I f.mx);have h4:=aJ h3 4 (.slice f.rq f.rs.length f.rc);have h5:=aJ h4 5 (.slice f.kq f.kl f.kc);exact h5
theorem bB9{W w6:World}{b:Nat}{t:Tr}{X:Er}(hS:SJ W w6)(hb:W.heap.size<=b)(z:w6.heap[b]?=some (.cells #[.I 0,.I 0,.I 0,.I 0,.slice none 0 0,.slice none 0 0] 25 (0,0))/\Foot (fun i=>b<i) t)(ht:TA w6 t)(hX:er t=X):RB ((((((w6.setCell (aDr b 0) (.I t.f.k)).setCell (aDr b 1) (.I t.f.n)).setCell (aDr b 2) (.I t.f.mn)).setCell (aDr b 3) (.I t.f.mx)).setCell (aDr b 4) (.slice t.f.rq t.f.rs.length t.f.rc)).setCell (aDr b 5) (.slice t.f.kq t.f.kl t.f.kc)) b X/\wBl W ((((((w6.setCell (aDr b 0) (.I t.f.k)).setCell (aDr b 1) (.I t.f.n)).setCell (aDr b 2) (.I t.f.mn)).setCell (aDr b 3) (.I t.f.mx)).setCell (aDr b 4) (.slice t.f.rq t.f.rs.length t.f.rc)).setCell (aDr b 5) (.slice t.f.kq t.f.kl t.f.kc)):=by
 have h:RB (cD w6 b 0 t.f) b X/\wBl W (cD w6 b 0 t.f):=⟨⟨t,aM6 z.1 t.f,(hU ht z.2 z.1).2.1,hX⟩,bB hS.o (dP w6 b 0 t.f) lz9 (fun k e=>by omega)⟩;unfold cD at h;simpa only [m7] using h
theorem bC0{W w6:World}{t:Tr}{X:Er}(hS:SJ W w6)(ht:TA w6 t)(hX:er t=X):RB (w6.alloc (.cells (nDf t.f) 25)) w6.heap.size X/\wBl W (w6.alloc (.cells (nDf t.f) 25)):=
 ⟨⟨t,aD _ _,ht.kept (vY _ _),hX⟩,(hS.alloc _).out⟩
structure E13(w:World)(bm:Nat)(l:List (Nat×Tr))(V:World):Prop where
 bel:wBl w V
 mode:V.heap[bm]?=some (.cells #[.bool false,.bool false] 27 (0,0))
 at':∀ p∈l,BoxN V p.1 p.2.f/\TB V p.2
theorem E13.kept{w V V':World}{bm:Nat}{l:List (Nat×Tr)}(h:E13 w bm l V)(hb:wBl V V'):E13 w bm l V':=
 ⟨aG h.bel hb lz9,(hb.block _ (aC h.mode)).trans h.mode,fun p hp=>⟨(hb.block _ (aC (h.at' p hp).1)).trans (h.at' p hp).1,(h.at' p hp).2.kept hb⟩⟩
theorem E13.add{w V:World}{bm b:Nat}{l:List (Nat×Tr)}{t:Tr}(h:E13 w bm l V)(hb:BoxN V b t.f)(ht:TB V t):E13 w bm ((b,t) :: l) V:=
 ⟨h.bel,h.mode,fun p hp=>by
  rcases u0.1 hp with rfl | hp
  ·exact⟨hb,ht⟩
  ·exact h.at' p hp⟩
theorem E13.put{w V:World}{bm:Nat}{l:List (Nat×Tr)}{t:Tr}(h:E13 w bm l V)(ht:TB V t):E13 w bm ((V.heap.size,t) :: l) (V.alloc (.cells (nDf t.f) 25)):=
 (h.kept (bz9)).add (aD V _) (ht.kept (bz9))
def qA(k mn mx:Int)(g:Nat)(us:List Tr):Tr:=.mk ⟨k,0,mn,mx,[],none,0,some (aDr g 0),us.length,us.length⟩ us
theorem jK(k mn mx:Int)(g:Nat)(us:List Tr):er (qA k mn mx g us)=.mk k 0 mn mx [] (us.map er):=by rw [bY];rfl
theorem E13.row{w V:World}{bm:Nat}{l:List (Nat×Tr)}(h:E13 w bm l V)(us:List Tr)(hu:∀ u∈us,TB V u)(hl:us.length<=1000)(k mn mx:Int):E13 w bm l (V.alloc (.cells (aV us).toArray 25))/\TB (V.alloc (.cells (aV us).toArray 25)) (qA k mn mx V.heap.size us):=by
 have K:wBl V (V.alloc (.cells (aV us).toArray 25)):=bz9;exact⟨h.kept K,aJ7 k 0 mn mx (aD V _) (fun u hu'=>(hu u hu').kept K) hl⟩
theorem wW{a b:Tr}(h:er a=er b)(hs:a.sz<=2000):rsB a b=true:=by
 have hb:b.sz=a.sz:=by rw [<- mT,<- mT,h]
 unfold rsB;rw [bL,bL,hb,r9 (by omega),h,(eU _ _).2 rfl]
 rfl
theorem aW1{W:World}{g:Nat}{a b:Int}(h:W.heap[g]?=some (.cells #[.I a,.I b] 53 (0,0)))(hf:Fit [(a,b)]):TB W (.mk ⟨2,0,0,0,[(a,b)],some (aDr g 0),1,none,0,0⟩ []):=by
 refine(aI _).2 ⟨⟨.inr ⟨g,0,1,rfl,aC h,by simp [Tr.f],by unfold maxLen;omega,fun i r hr=>?_⟩,.inl ⟨none,0,rfl,rfl,fun _=>rfl⟩,hf,by simp [Tr.f]⟩,(aT _).2 fun u hu=>by simp [Tr.ks] at hu⟩
 match i,hr with
 | 0,hr=>
  simp [Tr.f] at hr;subst hr;exact⟨aB h rfl,aB h rfl⟩
 | i+1,hr=>simp [Tr.f] at hr
theorem tD(w:World):Calls Tryz.prog 5 #[] w fun e w'=>e=.returned (.bool true)/\wBl w w':=by
 have SC:=aA (fun V=>yX (w:=V) 97 (by omega));have SD:=aA (fun V=>yX (w:=V) 98 (by omega));have E0:Hid (E13 w w.heap.size [] (w.alloc (.cells #[.bool false,.bool false] 27))):=aA ⟨bz9,aD w _,fun p hp=>by cases hp⟩;go_enter Tryz.func5,Tryz.ntmps5;go_upto_region 2 with fail
 generalize (w.alloc (.cells #[.bool false,.bool false] 27))=V1 at E0 ⊢;obtain⟨bm,hbm⟩:∃ b,w.heap.size=b:=⟨_,rfl⟩;rw [show (Value.pointer (some (aDr w.heap.size 0)))=Value.pointer (some (aDr bm 0)) by rw [hbm]];have E1:Hid (E13 w bm [] V1):=by rw [<- hbm];exact E0
 clear E0 hbm;go_upto_region 3 with (go_at_call 18;(with_reducible refine(SC.o _).mono ?_);rintro e w2 ⟨ta,rfl,h1,-,h3,h4⟩;have E2:=aA ((E1.o.kept h4).put h1.tb);have HA:=aA (h3.trans (aJ4 97).symm);clear h1 h3 h4)
 obtain⟨ba,hba⟩:∃ b,w2.heap.size=b:=⟨_,rfl⟩;generalize (w2.alloc (.cells (nDf ta.f) 25))=V2 at E2 ⊢;rw [hba] at E2 ⊢;clear hba E1 SC;have A2:=E2.o.at' (ba,ta) (by simp);obtain⟨a0,a1,a2,a3,a4,a5⟩:=(show BoxN V2 ba ta.f from A2.1).six;simp only [m7] at a1 a2 a3 a4 a5;obtain⟨r31,r32⟩:=E2.o.row [ta] (fun u hu=>by simp at hu;subst hu;exact A2.2) (by simp) 9 0 (-1);have E3:Hid (E13 w bm [(V2.heap.size+1,qA 9 0 (-1) V2.heap.size [ta]),(ba,ta)] ((V2.alloc (.cells (nDf ta.f) 25)).alloc (.cells #[.I 9,.I 0,.I 0,.I (-1),.slice none 0 0,.slice (some (aDr V2.heap.size 0)) 1 1] 25))):=aA (by
  have:=r31.put r32;simp only [v9] at this;exact this)
 have HST:=aA (show er (qA 9 0 (-1) V2.heap.size [ta])=te stP by rw [jK];unfold stP;rw [te,aBI,HA.o]);clear r31 r32 A2;go_upto_region 4 with fail
 generalize hts:qA 9 0 (-1) V2.heap.size [ta]=ts at E3 HST;generalize ((V2.alloc (.cells (nDf ta.f) 25)).alloc (.cells #[.I 9,.I 0,.I 0,.I (-1),.slice none 0 0,.slice (some (aDr V2.heap.size 0)) 1 1] 25))=V3 at E3 ⊢;obtain⟨bs,hbs⟩:∃ b,V2.heap.size+1=b:=⟨_,rfl⟩;rw [hbs] at E3 ⊢;clear hts hbs E2 a0 a1 a2 a3 a4 a5;have A4:=E3.o.at' (ba,ta) (by simp);obtain⟨a0,a1,a2,a3,a4,a5⟩:=(show BoxN V3 ba ta.f from A4.1).six;simp only [m7] at a1 a2 a3 a4 a5;have R4:=aA (E3.o.row [ta] (fun u hu=>by simp at hu;subst hu;exact A4.2) (by simp) 9 1 1);have m0:(V3.alloc (.cells (nDf ta.f) 25)).cell? (aDr bm 0)=some (.bool false):=aB R4.o.1.mode (i:=0) rfl;have m1:(V3.alloc (.cells (nDf ta.f) 25)).cell? (aDr bm 1)=some (.bool false):=aB R4.o.1.mode (i:=1) rfl;have SM4:Hid (Calls Tryz.prog 7 #[.agg #[.I 9,.I 0,.I 1,.I 1,.slice none 0 0,.slice (some (aDr V3.heap.size 0)) 1 1],.agg #[.bool false,.bool false]] (V3.alloc (.cells (nDf ta.f) 25)) fun e w'=>∃ t':Tr,e=.returned (.tuple #[.agg #[.I t'.f.k,.I t'.f.n,.I t'.f.mn,.I t'.f.mx,.slice t'.f.rq t'.f.rs.length t'.f.rc,.slice t'.f.kq t'.f.kl t'.f.kc],.I 0])/\TA w' t'/\Foot (fun k=>(V3.alloc (.cells (nDf ta.f) 25)).heap.size<=k) t'/\er t'=te (chP 97)/\Below (V3.alloc (.cells (nDf ta.f) 25)).heap.size (V3.alloc (.cells (nDf ta.f) 25)) w'):=aA (by
  have:=gD (c:=false) (o:=false) R4.o.2 (x:=x1P) (by rw [jK];unfold x1P;rw [te,aBI,HA.o]) bO5;rw [bH6] at this;exact this)
 clear A4;go_upto_region 5 with (go_at_call 7;(with_reducible refine SM4.o.mono ?_);rintro e w4 ⟨tx,rfl,h1,-,h3,h4⟩;have E4:=aA ((R4.o.1.kept h4).put h1.tb);have HX:=aA h3;clear h1 h3 h4)
 obtain⟨bx,hbx⟩:∃ b,w4.heap.size=b:=⟨_,rfl⟩;generalize (w4.alloc (.cells (nDf tx.f) 25))=V4 at E4 ⊢;rw [hbx] at E4 ⊢;clear hbx a0 a1 a2 a3 a4 a5 m0 m1 R4 SM4 E3;have A5:=E4.o.at' (bs,ts) (by simp);obtain⟨a0,a1,a2,a3,a4,a5⟩:=(show BoxN V4 bs ts.f from A5.1).six;simp only [m7] at a1 a2 a3 a4 a5;have R5:=aA (E4.o.row [ts] (fun u hu=>by simp at hu;subst hu;exact A5.2) (by simp) 9 0 (-1));have m0:(V4.alloc (.cells (nDf ts.f) 25)).cell? (aDr bm 0)=some (.bool false):=aB R5.o.1.mode (i:=0) rfl;have m1:(V4.alloc (.cells (nDf ts.f) 25)).cell? (aDr bm 1)=some (.bool false):=aB R5.o.1.mode (i:=1) rfl;have SM5:Hid (Calls Tryz.prog 7 #[.agg #[.I 9,.I 0,.I 0,.I (-1),.slice none 0 0,.slice (some (aDr V4.heap.size 0)) 1 1],.agg #[.bool false,.bool false]] (V4.alloc (.cells (nDf ts.f) 25)) fun e w'=>∃ t':Tr,e=.returned (.tuple #[.agg #[.I t'.f.k,.I t'.f.n,.I t'.f.mn,.I t'.f.mx,.slice t'.f.rq t'.f.rs.length t'.f.rc,.slice t'.f.kq t'.f.kl t'.f.kc],.I 0])/\TA w' t'/\Foot (fun k=>(V4.alloc (.cells (nDf ts.f) 25)).heap.size<=k) t'/\er t'=te stP/\Below (V4.alloc (.cells (nDf ts.f) 25)).heap.size (V4.alloc (.cells (nDf ts.f) 25)) w'):=aA (by
  have:=gD (c:=false) (o:=false) R5.o.2 (x:=x2P) (by rw [jK];unfold x2P;rw [te,aBI,HST.o]) bO4;rw [bH5] at this;exact this)
 clear A5;go_upto_region 6 with (go_at_call 7;(with_reducible refine SM5.o.mono ?_);rintro e w5 ⟨ty,rfl,h1,-,h3,h4⟩;have E5:=aA ((R5.o.1.kept h4).put h1.tb);have HY:=aA h3;clear h1 h3 h4)
 obtain⟨by5,hbx⟩:∃ b,w5.heap.size=b:=⟨_,rfl⟩;generalize (w5.alloc (.cells (nDf ty.f) 25))=V5 at E5 ⊢;rw [hbx] at E5 ⊢;clear hbx a0 a1 a2 a3 a4 a5 m0 m1 R5 SM5 E4;go_cut [8,9] (fun u v wx=>∃ B,u=.pointer (some (aDr B 0))/\v=.I 0/\RB wx B (te (.lf 2 0 [(97,98)]))/\wBl V5 wx)
 case first=>
  have BA:=(E5.o.at' (ba,ta) (by simp)).1;have TAA:=aA (E5.o.at' (ba,ta) (by simp)).2;change BoxN V5 ba ta.f at BA;have ra0:∀ V:World,SJ V5 V->V.cell? (aDr ba 0)=some (.I ta.f.k):=fun V h=>(h.six BA).1;have ra1:∀ V:World,SJ V5 V->V.cell? (aDr ba 1)=some (.I ta.f.n):=fun V h=>(h.six BA).2.1;have ra2:∀ V:World,SJ V5 V->V.cell? (aDr ba 2)=some (.I ta.f.mn):=fun V h=>(h.six BA).2.2.1;have ra3:∀ V:World,SJ V5 V->V.cell? (aDr ba 3)=some (.I ta.f.mx):=fun V h=>(h.six BA).2.2.2.1;have ra4:∀ V:World,SJ V5 V->V.cell? (aDr ba 4)=some (.slice ta.f.rq ta.f.rs.length ta.f.rc):=fun V h=>(h.six BA).2.2.2.2.1;have ra5:∀ V:World,SJ V5 V->V.cell? (aDr ba 5)=some (.slice ta.f.kq ta.f.kl ta.f.kc):=fun V h=>(h.six BA).2.2.2.2.2;have rm0:∀ V:World,SJ V5 V->V.cell? (aDr bm 0)=some (.bool false):=fun V h=>aB ((h.o.block _ (aC E5.o.mode)).trans E5.o.mode) (i:=0) rfl;have rm1:∀ V:World,SJ V5 V->V.cell? (aDr bm 1)=some (.bool false):=fun V h=>aB ((h.o.block _ (aC E5.o.mode)).trans E5.o.mode) (i:=1) rfl;have SMQ:Hid (∀ (U:World) (g:Nat) (tb:Tr),SJ V5 U->TB U tb->er tb=te (chP 98)->U.heap[g]?=some (.cells #[.I ta.f.k,.I ta.f.n,.I ta.f.mn,.I ta.f.mx,.slice ta.f.rq ta.f.rs.length ta.f.rc,.slice ta.f.kq ta.f.kl ta.f.kc,.I tb.f.k,.I tb.f.n,.I tb.f.mn,.I tb.f.mx,.slice tb.f.rq tb.f.rs.length tb.f.rc,.slice tb.f.kq tb.f.kl tb.f.kc,.I ta.f.k,.I ta.f.n,.I ta.f.mn,.I ta.f.mx,.slice ta.f.rq ta.f.rs.length ta.f.rc,.slice ta.f.kq ta.f.kl ta.f.kc] 25 (0,0))->Calls Tryz.prog 7 #[.agg #[.I 6,.I 0,.I 0,.I 0,.slice none 0 0,.slice (some (aDr g 0)) 3 3],.agg #[.bool false,.bool false]] U fun e w'=>∃ t':Tr,e=.returned (.tuple #[.agg #[.I t'.f.k,.I t'.f.n,.I t'.f.mn,.I t'.f.mx,.slice t'.f.rq t'.f.rs.length t'.f.rc,.slice t'.f.kq t'.f.kl t'.f.kc],.I 0])/\TA w' t'/\er t'=te (.lf 2 0 [(97,98)])/\Foot (fun k=>U.heap.size<=k) t'/\wBl U w'):=aA fun U g tb hS hT hE hg=>by
   have ht:TB U (qA 6 0 0 g [ta,tb,ta]):=aJ7 6 0 0 0 (us:=[ta,tb,ta]) hg (fun u hu=>by
    simp at hu;rcases hu with rfl | rfl | rfl
    ·exact TAA.o.kept hS.o
    ·exact hT
    ·exact TAA.o.kept hS.o) (by simp)
   have:=gD (c:=false) (o:=false) ht (x:=x3P) (by rw [jK];unfold x3P;rw [te,bP];simp [HA.o,hE]) bO3;rw [bH4] at this;exact this.mono fun e w' ⟨t',h1,h2,h3,h4,h5⟩=>⟨t',h1,h2,h4,h3,h5⟩
  clear BA
  go_region_held (fun V=>SJ V5 V) ((first | with_reducible assumption | with_reducible exact SJ.drew _ | with_reducible exact SJ.alloc (by assumption) _ | with_reducible exact SJ.ad (by assumption) _ | with_reducible exact(((((S6.set (by omega) _ _).set (by omega) _ _).set (by omega) _ _).set (by omega) _ _).set (by omega) _ _).set (by omega) _ _)) (first |(go_at_call 7;(have q5:=T5.o);clear q5;refine(SMQ.o _ _ t5 (by with_reducible assumption) (by(first | exact T5.o.tb.kept (vY _ _) | exact T5.o.tb.kept (bQ3 _ _ _))) X5.o (by(with_reducible first | exact aD _ _ | exact bE5 _ _ | exact sP _ _ _ | exact sO _ _ _ | exact aE1 _ _ _ | exact aE0 _ _ _))).mono ?_;rintro e w6 ⟨t6,rfl,g1,g2,g3,g4⟩;have T6:=aA g1;have X6:=aA g2;have S6:SJ V5 w6:=SJ.call (by with_reducible assumption) g4;first |(have Z6:w6.heap[V5.heap.size]?=some (.cells #[.I 0,.I 0,.I 0,.I 0,.slice none 0 0,.slice none 0 0] 25 (0,0))/\Foot (fun i=>V5.heap.size<i) t6:=aH6 (bQ2 Z5 _) g4 g3;have zf:=fun z=>aK Z6.1 z;have z0:=aB Z6.1 (i:=0) rfl;have z1:=aB Z6.1 (i:=1) rfl;have z2:=aB Z6.1 (i:=2) rfl;have z3:=aB Z6.1 (i:=3) rfl;have z4:=aB Z6.1 (i:=4) rfl;have z5:=aB Z6.1 (i:=5) rfl) |(have Z6:w6.heap[w5.heap.size]?=some (.cells #[.I 0,.I 0,.I 0,.I 0,.slice none 0 0,.slice none 0 0] 25 (0,0))/\Foot (fun i=>w5.heap.size<i) t6:=aH6 (sP _ _ _) g4 g3;have zf:=fun z=>aK Z6.1 z;have z0:=aB Z6.1 (i:=0) rfl;have z1:=aB Z6.1 (i:=1) rfl;have z2:=aB Z6.1 (i:=2) rfl;have z3:=aB Z6.1 (i:=3) rfl;have z4:=aB Z6.1 (i:=4) rfl;have z5:=aB Z6.1 (i:=5) rfl) |(have Z6:w6.heap[w5.heap.size+1]?=some (.cells #[.I 0,.I 0,.I 0,.I 0,.slice none 0 0,.slice none 0 0] 25 (0,0))/\Foot (fun i=>w5.heap.size+1<i) t6:=aH6 (sO _ _ _) g4 g3;have zf:=fun z=>aK Z6.1 z;have z0:=aB Z6.1 (i:=0) rfl;have z1:=aB Z6.1 (i:=1) rfl;have z2:=aB Z6.1 (i:=2) rfl;have z3:=aB Z6.1 (i:=3) rfl;have z4:=aB Z6.1 (i:=4) rfl;have z5:=aB Z6.1 (i:=5) rfl) | skip;clear g1 g2 g3 g4) |(go_at_call 18;refine(SD.o _).mono ?_;rintro e w5 ⟨t5,rfl,g1,g2,g3,g4⟩;have T5:=aA g1;have X5:=aA (g3.trans (aJ4 98).symm);have S5:SJ V5 w5:=SJ.call (by with_reducible assumption) g4;have l5:=S5.size;first |(have Z5:w5.heap[V5.heap.size]?=some (.cells #[.I 0,.I 0,.I 0,.I 0,.slice none 0 0,.slice none 0 0] 25 (0,0)):=(by with_reducible exact bD7 (bE5 _ _) g4)) | skip;clear g1 g2 g3 g4))
  all_goals go_wp2_with fail
  all_goals go_meet
  all_goals first |(with_reducible exact⟨_,rfl,rfl,bB9 S6 (by omega) Z6 T6.o X6.o⟩) |(with_reducible exact⟨_,rfl,rfl,bC0 S6 T6.o X6.o⟩)
 case rest=>
 obtain⟨b8,rfl,rfl,⟨tz,hz1,hz2,hz3⟩,hbl⟩:=hcut;have E6:=aA ((E5.o.kept hbl).add hz1 hz2.tb);have HZ:=aA hz3;clear E5 hz1 hz2 hz3 hbl;have A7:=E6.o.at' (ba,ta) (by simp);obtain⟨a0,a1,a2,a3,a4,a5⟩:=(show BoxN wc ba ta.f from A7.1).six;simp only [m7] at a1 a2 a3 a4 a5;have R7:=aA (E6.o.row [ta] (fun u hu=>by simp at hu;subst hu;exact A7.2) (by simp) 5 0 0);have m0:(wc.alloc (.cells (nDf ta.f) 25)).cell? (aDr bm 0)=some (.bool false):=aB R7.o.1.mode (i:=0) rfl;have m1:(wc.alloc (.cells (nDf ta.f) 25)).cell? (aDr bm 1)=some (.bool false):=aB R7.o.1.mode (i:=1) rfl;have SM7:Hid (Calls Tryz.prog 7 #[.agg #[.I 5,.I 0,.I 0,.I 0,.slice none 0 0,.slice (some (aDr wc.heap.size 0)) 1 1],.agg #[.bool false,.bool false]] (wc.alloc (.cells (nDf ta.f) 25)) fun e w'=>e=.returned (.tuple #[.agg #[.I 0,.I 0,.I 0,.I 0,.slice none 0 0,.slice none 0 0],.I 50])/\Below (wc.alloc (.cells (nDf ta.f) 25)).heap.size (wc.alloc (.cells (nDf ta.f) 25)) w'):=aA (by
  have hr:aZ false false 0 0 (pp [] (qA 5 0 0 wc.heap.size [ta]))=50:=bC7 (by rw [jK,aBI,HA.o,aJ4]);have:=lX false false R7.o.2 (by rw [hr];decide);rw [hr] at this;exact this)
 clear A7;go_upto_region 8 with (go_at_call 7;(with_reducible refine SM7.o.mono ?_);rintro e w7 ⟨rfl,h4⟩;have E7:=aA ((R7.o.1.kept h4).kept (vY _ (.cells #[.I 0,.I 0,.I 0,.I 0,.slice none 0 0,.slice none 0 0] 25)));clear h4)
 generalize (w7.alloc (.cells #[.I 0,.I 0,.I 0,.I 0,.slice none 0 0,.slice none 0 0] 25))=V7 at E7 ⊢;clear a0 a1 a2 a3 a4 a5 m0 m1 R7 SM7 E6;have A8:=E7.o.at' (bx,tx) (by simp);have C8:=E7.o.at' (ba,ta) (by simp);obtain⟨a0,a1,a2,a3,a4,a5⟩:=(show BoxN V7 bx tx.f from A8.1).six;obtain⟨d0,d1,d2,d3,d4,d5⟩:=(show BoxN V7 ba ta.f from C8.1).six;simp only [m7] at a1 a2 a3 a4 a5 d1 d2 d3 d4 d5;have RS8:Hid (Calls Tryz.prog 16 #[.agg (nDf tx.f),.agg (nDf ta.f)] V7 fun e w'=>e=.returned (.bool true)/\wBl V7 w'):=aA ((wV A8.2 C8.2).mono fun e w' ⟨h1,h2⟩=>⟨by rw [h1];show Ending.returned (.bool (rsB tx ta))=_;rw [wW (HX.o.trans HA.o.symm) (by rw [<- mT,HX.o,pJ];simp [chP,Ps.sz])],h2⟩);clear A8 C8;go_upto_region 9 with (go_at_call 16;(with_reducible refine RS8.o.mono ?_);rintro e w8 ⟨rfl,h1⟩;have E8:=aA (E7.o.kept h1);clear h1)
 clear a0 a1 a2 a3 a4 a5 d0 d1 d2 d3 d4 d5 RS8 E7;have A9:=E8.o.at' (by5,ty) (by simp);have C9:=E8.o.at' (bs,ts) (by simp);obtain⟨a0,a1,a2,a3,a4,a5⟩:=(show BoxN w8 by5 ty.f from A9.1).six;obtain⟨d0,d1,d2,d3,d4,d5⟩:=(show BoxN w8 bs ts.f from C9.1).six;simp only [m7] at a1 a2 a3 a4 a5 d1 d2 d3 d4 d5;have RS9:Hid (Calls Tryz.prog 16 #[.agg (nDf ty.f),.agg (nDf ts.f)] w8 fun e w'=>e=.returned (.bool true)/\wBl w8 w'):=aA ((wV A9.2 C9.2).mono fun e w' ⟨h1,h2⟩=>⟨by rw [h1];show Ending.returned (.bool (rsB ty ts))=_;rw [wW (HY.o.trans HST.o.symm) (by rw [<- mT,HY.o,pJ];simp [stP,chP,Ps.sz])],h2⟩);clear A9 C9;go_upto_region 10 with (go_at_call 16;(with_reducible refine RS9.o.mono ?_);rintro e w9 ⟨rfl,h1⟩;have E9:=aA (E8.o.kept h1);clear h1)
 clear a0 a1 a2 a3 a4 a5 d0 d1 d2 d3 d4 d5 RS9 E8;have A10:=E9.o.at' (b8,tz) (by simp);obtain⟨a0,a1,a2,a3,a4,a5⟩:=(show BoxN w9 b8 tz.f from A10.1).six;simp only [m7] at a1 a2 a3 a4 a5;have KR10:wBl w9 (w9.alloc (.cells #[.I 97,.I 98] 53)):=vY _ _;have RS10:Hid (Calls Tryz.prog 16 #[.agg (nDf tz.f),.agg #[.I 2,.I 0,.I 0,.I 0,.slice (some (aDr w9.heap.size 0)) 1 1,.slice none 0 0]] (w9.alloc (.cells #[.I 97,.I 98] 53)) fun e w'=>e=.returned (.bool true)/\Below (w9.alloc (.cells #[.I 97,.I 98] 53)).heap.size (w9.alloc (.cells #[.I 97,.I 98] 53)) w'):=aA ((wV (A10.2.kept KR10) (aW1 (aD w9 _) (gJ (by omega)))).mono fun e w' ⟨h1,h2⟩=>⟨by
  rw [h1];show Ending.returned (.bool (rsB tz _))=_;rw [wW (by rw [HZ.o,te,bY];rfl) (by rw [<- mT,HZ.o,pJ];simp [Ps.sz])],h2⟩)
 have EB:=aA (aG E9.o.bel KR10 lz9);clear A10 KR10;go_wp2_with (go_at_call 16;(with_reducible refine RS10.o.mono ?_);rintro e w10 ⟨rfl,h1⟩;have B10:=aA (aG EB.o h1 lz9);clear h1)
 go_ret;exact⟨rfl,B10.o⟩
end
section
attribute [local go_sem] Oper.semAt_some
theorem bB8{w:World}{t:Tr}(c o:Bool)(hta:TB w t)(hsm:Sm t):Calls Tryz.prog 8 #[.agg (nDf t.f),.agg #[.bool c,.bool o]] w fun e w'=>e=.returned (.I (tvI (kV c) c o t))/\wBl w w':=by
 have X1:Hid (Bx2 w ((w.alloc (.cells (nDf t.f) 25)).alloc (.cells #[.bool c,.bool o] 27)) t.f c o):=⟨(bz9).alloc (by simp) _,(Below.heap_alloc _ _ _ (by simp)).trans (aD w _),nF _ (by simp only [v9])⟩;have HTA:=aA hta;have HSM:=aA hsm;have HV:=aA (bG2 c o t);clear hta hsm;go_enter Tryz.func8,Tryz.ntmps8;go_upto_region 1 with fail
 generalize ((w.alloc (.cells (nDf t.f) 25)).alloc (.cells #[.bool c,.bool o] 27))=w1 at X1 ⊢;obtain⟨n0,n1,n2,n3,n4,n5⟩:=X1.o.2.1.six;simp only [m7] at n1 n2 n3 n4 n5;have a0:=aB X1.o.2.2 (i:=0) rfl;have a1:=aB X1.o.2.2 (i:=1) rfl;have RT:=aA (aC6 c o (HTA.o.kept X1.o.1) HSM.o);by_cases hr:aZ c o 0 0 (pp [] t)=0
 ·have HR:=aA hr;rw [aAM hr] at RT;rw [if_pos hr] at HV;clear hr;have CS:Hid (∀ W,wBl w W->Calls Tryz.prog 25 #[.agg (nDf t.f),.agg #[.bool c,.bool o]] W fun e w'=>e=.returned (.I (sG c t))/\wBl W w'):=fun W hW=>aA0 c o t.sz t W lz9 (aM1 HR.o) (HTA.o.kept hW) (uC HR.o);obtain⟨X,hX⟩:∃ X,sG c t=X:=⟨_,rfl⟩;rw [hX] at HV CS;clear hX;go_upto_region 4 with (go_at_call 24;refine(RT.o).mono ?_;rintro e w2 ⟨rfl,h2⟩;have X2:=aA (X1.o.kept h2);clear h2)
  clear n0 n1 n2 n3 n4 n5 a0 a1;obtain⟨n0,n1,n2,n3,n4,n5⟩:=X2.o.2.1.six;simp only [m7] at n1 n2 n3 n4 n5;have a0:=aB X2.o.2.2 (i:=0) rfl;have a1:=aB X2.o.2.2 (i:=1) rfl;go_wp2_with (go_at_call 25;refine(CS.o _ X2.o.1).mono ?_;rintro e w3 ⟨rfl,h3⟩;have B3:=aA (aG X2.o.1 h3 lz9);clear h3)
  go_ret;exact⟨by rw [HV.o];rfl,B3.o⟩
 ·rw [r9 hr] at RT;rw [if_neg hr] at HV;clear hr;go_wp2_with (go_at_call 24;refine(RT.o).mono ?_;rintro e w2 ⟨rfl,h2⟩;have B2:=aA (aG X1.o.1 h2 lz9);clear h2)
  go_ret;exact⟨by rw [HV.o];rfl,B2.o⟩
end
section
open Go Go.RowKit Go.Shelf
attribute [local go_sem] Oper.semAt_some aU
structure LSm(w:World)(Ha Hb:Gh)(pq:Option Addr)(pc:Nat)(pl:List Nat)(rsa:lOn)(wka:Int)(mua:Bool)(rsb:lOn)(wkb:Int)(mub:Bool)(V:World):Prop where
 wa:WM Ha V rsa wka mua
 wb:WM Hb V rsb wkb mub
 apt:Apt2 Ha Hb rsa rsb
 fa:Foot (fun k=>k<Hb.base) Ha.t
 fb:Foot (fun k=>k<Ha.base) Hb.t
 pl:Ls12 Ha.base V pq pc pl
 bel:wBl w V
 lo:w.heap.size<=Ha.base/\Ha.base<=Hb.base
variable {w V V':World} {Ha Hb:Gh} {pq:Option Addr} {pc:Nat} {pl:List Nat} {rsa rsa' rsb rsb':lOn} {wka wka' wkb wkb':Int} {mua mua' mub mub':Bool}
theorem LSm.kept(h:LSm w Ha Hb pq pc pl rsa wka mua rsb wkb mub V)(hb:wBl V V'):LSm w Ha Hb pq pc pl rsa wka mua rsb wkb mub V':=
 ⟨h.wa.below hb,h.wb.below hb,h.apt,h.fa,h.fb,h.pl.kept hb,aG h.bel hb lz9,h.lo⟩
theorem LSm.endsA(h:LSm w Ha Hb pq pc pl rsa wka mua rsb wkb mub V)(he:ES Ha V rsa wka mua V' rsa' wka' mua'):LSm w Ha Hb pq pc pl rsa' wka' mua' rsb wkb mub V':=
 ⟨he.wm,h.wb.other h.wa he.f h.apt h.fb,h.apt.left h.wb he.g,h.fa,h.fb,cT h.pl h.wa he.f (fun _ _ e=>e) ⟨by decide,by decide,by decide⟩,h.bel.trans (he.f.below h.bel.size (fun k q=>by
  rcases q with q | q
  ·have:=h.wa.wf_lo q;have:=h.lo;omega
  ·exact q.elim)),h.lo⟩
theorem LSm.endsB(h:LSm w Ha Hb pq pc pl rsa wka mua rsb wkb mub V)(he:ES Hb V rsb wkb mub V' rsb' wkb' mub'):LSm w Ha Hb pq pc pl rsa wka mua rsb' wkb' mub' V':=
 ⟨h.wa.other h.wb he.f h.apt.symm h.fa,he.wm,(h.apt.symm.left h.wa he.g).symm,h.fa,h.fb,cT h.pl h.wb he.f (fun _ _ e=>e) ⟨by decide,by decide,by decide⟩,h.bel.trans (he.f.below h.bel.size (fun k q=>by
  rcases q with q | q
  ·have:=h.wb.wf_lo q;have:=h.lo;omega
  ·exact q.elim)),h.lo⟩
theorem aK6{c o:Bool}{x:Ps}(h:∀ s∈pfl x,dG c o s){t:Tr}(e:er t=te x):∀ z∈pp [] t,z.2.f.rs.length<=600000:=by
 have key:∀ t:Tr,er t=te x->bF (fun v=>v.f.rs.length<=600000) t:=by
  refine Ps.ind (P:=fun x=>(∀ s∈pfl x,dG c o s)->∀ t:Tr,er t=te x->bF (fun v=>v.f.rs.length<=600000) t) (fun x ih=>?_) x h;intro h t e;refine(aI _).2 ⟨?_,(aT _).2 fun u hu=>?_⟩
  ·rw [<- yF,e]
   cases x with
   | lf k n rs=>
    rw [te];show rs.length<=_;by_cases hk:k=2
    ·subst hk;exact mA ((h (.lf 2 n rs) (by rw [pfl];simp)).1 rfl).1.1
    ·rw [(h (.lf k n rs) (by rw [pfl];simp)).2.1 hk];simp
   | grp n y=>rw [te];simp [Er.rgs]
   | rep a b y=>rw [te];simp [Er.rgs]
   | row l=>rw [te];split <;> simp [Er.rgs]
   | alt l=>rw [te];simp [Er.rgs]
  ·have hm:er u∈x.kids.map te:=by rw [<- sX e];exact s4.2 ⟨u,hu,rfl⟩
   obtain⟨y,hy,ey⟩:=s4.1 hm;exact ih y hy (fun s hs=>h s (oQ hy hs)) u ey.symm
 exact fun z hz=>((aI _).1 (fD t [] (key t e) z hz)).1
theorem xY{w:World}{t:Tr}(c o:Bool)(s:ByteArray)(hT:TB w t)(hf:∀ x∈pp [] t,x.2.f.rs.length<=1048576) :
  Calls Tryz.prog 3 #[.agg (nDf t.f),.string s,.agg #[.bool c,.bool o]] w fun e w'=>e=.returned (.bool true)/\wBl w w':=by
 have hsm:∀ x∈pp [] t,x.2.f.rs.length<=1048580:=fun x hx=>o0 (hf x hx) (by omega);have X1:Hid (Bx2 w ((w.alloc (.cells (nDf t.f) 25)).alloc (.cells #[.bool c,.bool o] 27)) t.f c o):=⟨(bz9).alloc (by simp) _,(Below.heap_alloc _ _ _ (by simp)).trans (aD w _),nF _ (by simp only [v9])⟩;have HTA:=aA hT;have HSM:=aA hsm;have EX:=aA (fun W=>tD W);have DR:=aA (fun W (hW:wBl w W)=>sH c o (hT.kept hW) hsm);obtain⟨R,hR⟩:∃ R,aZ c o 0 0 (pp [] t)=R:=⟨_,rfl⟩;rw [hR] at DR;have HR:=aA hR;clear hT hf hsm hR;go_enter Tryz.func3,Tryz.ntmps3;go_upto_region 1 with fail
 generalize ((w.alloc (.cells (nDf t.f) 25)).alloc (.cells #[.bool c,.bool o] 27))=w1 at X1 ⊢;go_upto_region 2 with (go_at_call 5;(with_reducible refine(EX.o _).mono ?_);rintro e w2 ⟨rfl,h5⟩;have X2:=aA (X1.o.kept h5);clear h5)
 clear X1 EX;obtain⟨n0,n1,n2,n3,n4,n5⟩:=X2.o.2.1.six;simp only [m7] at n1 n2 n3 n4 n5;have a0:=aB X2.o.2.2 (i:=0) rfl;have a1:=aB X2.o.2.2 (i:=1) rfl;have DR2:=aA (DR.o w2 X2.o.1);clear DR;go_upto_region 3 with (go_at_call 6;(with_reducible refine(DR2.o).mono ?_);rintro e w3 ⟨rfl,h5⟩;have X3:=aA (X2.o.kept h5);clear h5)
 clear n0 n1 n2 n3 n4 n5 a0 a1 X2 DR2;obtain⟨n0,n1,n2,n3,n4,n5⟩:=X3.o.2.1.six;simp only [m7] at n1 n2 n3 n4 n5;have a0:=aB X3.o.2.2 (i:=0) rfl;have a1:=aB X3.o.2.2 (i:=1) rfl;by_cases hr0:R=0
 ·subst hr0;obtain⟨x,hex,hok⟩:=bO6 HR.o;have HEX:=aA hex;have HOK:=aA hok;have SM:=aA (gD (HTA.o.kept X3.o.1) hex hok);clear hex hok;go_upto_region 4 with (go_at_call 7;(with_reducible refine(SM.o).mono ?_);rintro e w4 ⟨m,rfl,h1,h2,h3,h4⟩;have X4:=aA ((X3.o.kept h4).kept (vY _ (.cells (nDf m.f) 25)));have M4:=aA (h1.tb.kept (vY _ (.cells (nDf m.f) 25)));have N4:Hid (BoxN (w4.alloc (.cells (nDf m.f) 25)) w4.heap.size m.f):=aA (aD w4 _);have HM:=aA h3;have hw4:=(aG X3.o.1 h4 lz9).size;clear h1 h2 h3 h4)
  clear n0 n1 n2 n3 n4 n5 a0 a1 X3 SM;generalize (w4.alloc (.cells (nDf m.f) 25))=w5 at X4 M4 N4 ⊢;obtain⟨bm,hbm⟩:∃ b,w4.heap.size=b:=⟨_,rfl⟩;rw [hbm] at N4 hw4 ⊢;have HMR:=aA (HOK.o.sim.right HM.o);have DM:Hid (∀ W,wBl w5 W->Calls Tryz.prog 6 #[.agg (nDf m.f),.agg #[.bool c,.bool o]] W fun e w'=>e=.returned (.I 0)/\wBl W w'):=aA fun W hW=>(sH c o (M4.o.kept hW) (fun z hz=>o0 (aK6 HOK.o.sim.sg HM.o z hz) (by omega))).mono fun e w' ⟨h1,h2⟩=>⟨by rw [h1,HMR.o],h2⟩;have DM5:=aA (DM.o w5 (Below.refl _ _));clear hbm DM;obtain⟨m0,m1,m2,m3,m4,m5⟩:=N4.o.six;simp only [m7] at m1 m2 m3 m4 m5;have a0:=aB X4.o.2.2 (i:=0) rfl;have a1:=aB X4.o.2.2 (i:=1) rfl;go_upto_region 8 with (go_at_call 6;(with_reducible refine(DM5.o).mono ?_);rintro e w6 ⟨rfl,h5⟩;have X6:=aA (X4.o.kept h5);have M6:=aA (M4.o.kept h5);have N6:Hid (BoxN w6 bm m.f):=aA ((h5.block _ (aC N4.o)).trans N4.o);clear h5)
  clear m0 m1 m2 m3 m4 m5 a0 a1 X4 M4 N4 DM5;obtain⟨n0,n1,n2,n3,n4,n5⟩:=X6.o.2.1.six;simp only [m7] at n1 n2 n3 n4 n5;have a0:=aB X6.o.2.2 (i:=0) rfl;have a1:=aB X6.o.2.2 (i:=1) rfl;by_cases hl:30<s.size
  ·have hl1:(30:Int)<(s.size:Int):=by omega
   go_wp2;go_ret;exact⟨rfl,X6.o.1⟩
  ·have hl1:¬ (30:Int)<(s.size:Int):=by omega
   have DS:=aA (bB8 c o (HTA.o.kept X6.o.1) HSM.o);obtain⟨S,hS⟩:∃ S,tvI (kV c) c o t=S:=⟨_,rfl⟩;rw [hS] at DS;clear hS;by_cases hS1:10000<S
   ·go_wp2_with (go_at_call 8;(with_reducible refine(DS.o).mono ?_);rintro e w7 ⟨rfl,h5⟩;have X7:=aA (X6.o.kept h5);clear h5)
    go_ret;exact⟨rfl,X7.o.1⟩
   ·go_upto_region 10 with (go_at_call 8;(with_reducible refine(DS.o).mono ?_);rintro e w7 ⟨rfl,h5⟩;have X7:=aA (X6.o.kept h5);have M7:=aA (M6.o.kept h5);have N7:Hid (BoxN w7 bm m.f):=aA ((h5.block _ (aC N6.o)).trans N6.o);clear h5)
    clear n0 n1 n2 n3 n4 n5 a0 a1 X6 M6 N6 DS hS1;obtain⟨n0,n1,n2,n3,n4,n5⟩:=X7.o.2.1.six;simp only [m7] at n1 n2 n3 n4 n5;have a0:=aB X7.o.2.2 (i:=0) rfl;have a1:=aB X7.o.2.2 (i:=1) rfl;have NW:=aA (zI (HTA.o.kept X7.o.1) HR.o (s:=s) (by omega));go_upto_region 11 with (go_at_call 9;(with_reducible refine(NW.o).mono ?_);rintro e w8 ⟨Ha,rsa,rfl,h1,h2,h3,h4,h5,h6,h7,h9,h8⟩;have WA:=aA h1;have KA:=aA h2;have TA1:=aA h3;have SA:=aA h4;have CA:=aA h5;have OA:=aA h6;have BA:=aA h7;have UA:=aA h9;have X8:=aA (X7.o.kept h8);have M8:=aA (M7.o.kept h8);have N8:Hid (BoxN w8 bm m.f):=aA ((h8.block _ (aC N7.o)).trans N7.o);have FM:=aA (M7.o.foot);have hs8:=h8.size;have hs7:=X7.o.1.size;clear h1 h2 h3 h4 h5 h6 h7 h8 h9)
    clear n0 n1 n2 n3 n4 n5 a0 a1 X7 M7 N7 NW;obtain⟨m0,m1,m2,m3,m4,m5⟩:=N8.o.six;simp only [m7] at m1 m2 m3 m4 m5;have a0:=aB X8.o.2.2 (i:=0) rfl;have a1:=aB X8.o.2.2 (i:=1) rfl;have NV:=aA (zI M8.o HMR.o (s:=s) (by omega));go_upto_region 12 with (go_at_call 9;(with_reducible refine(NV.o).mono ?_);rintro e w9 ⟨Hb,rsb,rfl,h1,h2,h3,h4,h5,h6,h7,h9,h8⟩;have WB:=aA h1;have KB:=aA h2;have TB1:=aA h3;have SB:=aA h4;have CB:=aA h5;have OB:=aA h6;have BB:=aA h7;have UB:=aA h9;have X9:=aA (X8.o.kept h8);have WA9:=aA (WA.o.below h8);have hs9:=h8.size;clear h1 h2 h3 h4 h5 h6 h7 h8 h9)
    clear m0 m1 m2 m3 m4 m5 a0 a1 M8 N8 NV;have a0:=aB X9.o.2.2 (i:=0) rfl;have a1:=aB X9.o.2.2 (i:=1) rfl;have AP:Hid (Apt2 Ha Hb rsa rsb):=aA fun k q r=>by
     have h1:=(WA.o.wf_ty q).1;have h2:=WB.o.wf_lo r;have:=BB.o;omega
    have PC:=aA (uI s (by omega) c o w9);have SE:Hid (∀ a j,(∃ y,Mt Ha.L Ha.t (cf0 a) y/\y.p=j) ↔ ∃ y,Mt Hb.L Hb.t (cf0 a) y/\y.p=j):=aA fun a j=>aC4 HOK.o KA.o KB.o UA.o UB.o (by rw [TA1.o];exact HEX.o) (by rw [TB1.o];exact HM.o) (by rw [SA.o,SB.o]) (by rw [CA.o,CB.o]) (by rw [OA.o,OB.o]) a j;go_upto_region 13 with (go_at_call 10;(with_reducible refine(PC.o).mono ?_);rintro e w10 ⟨pq,pc,pl,rfl,h1,h2,h3,h4⟩;have J10:=aA h2;have hpl:=h3;have L10:Hid (LSm w Ha Hb pq pc pl rsa 0 false rsb 0 false w10):=aA ⟨WA9.o.below h4,WB.o.below h4,AP.o,WA.o.tf.mono (fun k hk=>by have:=BA.o;have:=BB.o;omega),(by rw [TB1.o];exact FM.o.mono (fun k hk=>by have:=BA.o;omega)),h1.mono (by have:=BA.o;omega),(X9.o.kept h4).1,⟨by have:=BA.o;omega,by have:=BA.o;have:=BB.o;omega⟩⟩;clear h1 h2 h3 h4)
    clear a0 a1 X8 X9 WA WA9 WB AP PC hs8 hs9 hs7;have HSA:Hid (∀ a:Nat,a<=s.size->a<=Ha.L.s.size):=aA fun a h=>by rw [SA.o];exact h
    have HSB:Hid (∀ a:Nat,a<=s.size->a<=Hb.L.s.size):=aA fun a h=>by rw [SB.o];exact h
    clear TA1 TB1 SA SB CA CB OA OB BA BB UA UB HMR HM FM HTA HSM HR HEX HOK;go_upto_region 14 with fail
    go_loopw [14] (fun iv wr=>∃ (i:Nat) (ra:lOn) (ka:Int) (rb:lOn) (kb:Int) (ma mb:Bool),i<=pl.length/\iv=.I (i:Int)/\LSm w Ha Hb pq pc pl ra ka ma rb kb mb wr) (fun iv _=>pl.length-(intOf iv).toNat)
    case atStart=>exact⟨0,rsa,0,rsb,0,false,false,o9 _,rfl,L10.o⟩
    case round=>
     obtain⟨i,ra,ka,rb,kb,ma,mb,hi5,rfl,hl5⟩:=hrel;have HL:=aA hl5;clear hl5 L10;by_cases hil:i<pl.length
     ·have i0:(i:Int)<(pl.length:Int):=by omega
      obtain⟨a,ha⟩:∃ a,pl[i]?=some a:=⟨_,g9 hil⟩;have has:=J10.o a (n8 ha);obtain⟨gp,rfl,gp1,gp2,gp3⟩:=HL.o.pl.at (by omega);have y0:=HL.o.pl.cell ha;have EN:=aA (wG KA.o HL.o.wa (HSA.o a has));have HAA:=aA ha;clear ha gp1 gp2 gp3;go_upto_region 17 with (go_at_call 11;(with_reducible refine(EN.o).mono ?_);rintro e w6 ⟨eq,ec,l,ra6,ka6,ma6,rfl,h1,h2,h3,h4,h5⟩;have E6:=aA h1;have P6:=aA h2;have M6:=aA h3;have C6:=aA h4;have L6:=aA (HL.o.endsA h5);clear h1 h2 h3 h4 h5)
      clear y0 EN HL;have y0:=L6.o.pl.cell HAA.o;have EM:=aA (wG KB.o L6.o.wb (HSB.o a has));go_upto_region 18 with (go_at_call 11;(with_reducible refine(EM.o).mono ?_);rintro e w7 ⟨fq,fc,l2,rb7,kb7,mb7,rfl,h1,h2,h3,h4,h5⟩;have F7:=aA h1;have P7:=aA h2;have M7:=aA h3;have C7:=aA h4;have L7:=aA (L6.o.endsB h5);have E7:Hid (Ls12 wr.heap.size w7 eq ec l):=aA (cT E6.o L6.o.wb h5.f (fun _ _ e=>e) ⟨by decide,by decide,by decide⟩);clear h1 h2 h3 h4 h5)
      clear y0 EM L6 E6;have ca:=L7.o.wa.cell (i:=17) (v:=.bool ma6) rfl;have cb:=L7.o.wb.cell (i:=17) (v:=.bool mb7) rfl
      cases ma6 with
      | true=>
       go_wp2;go_ret;exact⟨rfl,L7.o.bel⟩
      | false=>
       cases mb7 with
       | true=>
        go_wp2;go_ret;exact⟨rfl,L7.o.bel⟩
       | false=>
        have hll:l2=l:=(aC5 l l2 P6.o P7.o fun j=>by
         constructor
         ·intro q;obtain⟨y,h1,h2⟩:=(SE.o a j).1 (M6.o j q);rw [<- h2];exact C7.o rfl y h1
         ·intro q;obtain⟨y,h1,h2⟩:=(SE.o a j).2 (M7.o j q);rw [<- h2];exact C6.o rfl y h1).symm
        subst hll;have hlm:l2.length<=9223372036854775807:=by
         rcases E7.o.2 with⟨e,hn⟩ | ⟨g,cap,cur,e,h1,h2,h3,h4,_⟩
         ·omega
         ·have:maxLen=9223372036854775807:=rfl;omega
        clear P6 P7 M6 M7 C6 C7;go_upto_region 23 with fail
        clear ca cb;go_loopw [17] (fun kv wr=>∃ k:Nat,k<=l2.length/\kv=.I (k:Int)/\wBl w7 wr) (fun kv _=>l2.length-(intOf kv).toNat)
        case atStart=>exact⟨0,o9 _,rfl,Below.refl _ _⟩
        case round=>
         obtain⟨k,hk,rfl,hb⟩:=hrel;have B7:=aA hb;clear hb;by_cases hkl:k<l2.length
         ·have k0:(k:Int)<(l2.length:Int):=by omega
          obtain⟨j,hj⟩:∃ j,l2[k]?=some j:=⟨_,g9 hkl⟩;have E8:=E7.o.kept B7.o;have F8:=F7.o.kept B7.o;obtain⟨ge,rfl,-,-,-⟩:=E8.at (by omega);obtain⟨gf,rfl,-,-,-⟩:=F8.at (by omega);have y1:=E8.cell hj;have y2:=F8.cell hj;have jj:((j:Int) != (j:Int))=false:=(by simp);clear hj E8 F8;go_upto_region 25 with fail
          go_region
          all_goals go_wp2
          all_goals go_roundw
          all_goals first | exact⟨k+1,by omega,by go_num,B7.o.drew⟩ |(simp [intOf];omega) |(simp only [intOf];omega)
         ·have k0:¬ (k:Int)<(l2.length:Int):=by omega
          go_wp2;go_roundw
          case rel=>exact⟨i+1,_,_,_,_,_,_,by omega,by go_num,L7.o.kept B7.o⟩
          case measure=>simp [intOf];omega
     ·have i0:¬ (i:Int)<(pl.length:Int):=by omega
      go_wp2;go_ret;exact⟨rfl,HL.o.bel⟩
 ·have SB:=aA (lX c o (HTA.o.kept X3.o.1) (by rw [HR.o];exact hr0));rw [HR.o] at SB;have hr1:(R != 0)=true:=by simpa using hr0
  clear hr0;go_wp2_with (go_at_call 7;(with_reducible refine(SB.o).mono ?_);rintro e w4 ⟨rfl,h5⟩;have X4:=aA ((X3.o.kept h5).kept (vY _ (.cells #[.I 0,.I 0,.I 0,.I 0,.slice none 0 0,.slice none 0 0] 25)));have Z4:=aD w4 (.cells #[.I 0,.I 0,.I 0,.I 0,.slice none 0 0,.slice none 0 0] 25);have z0:=aB Z4 (i:=0) rfl;have z5:=aB Z4 (i:=5) rfl;clear h5)
  go_ret;exact⟨by simp,X4.o.1⟩
end
section
open Go Go.ChangeShapes Go.WideShapes Go.ChangeAt Go.RowKit
theorem qI:Tryz.prog.cellsOf 25=6:=by kernel_rfl
theorem aG7:Tryz.prog.cellsOf 53=2:=by kernel_rfl
theorem yJ:Tryz.prog.cellsOf 22=1:=by kernel_rfl
theorem yK:Tryz.prog.cellsOf 23=1:=by kernel_rfl
theorem vX{w:World}{g o:Nat}{v:Value}(h:w.cell? (aDr g o)=some v):g<w.heap.size:=by
 rcases Nat.lt_or_ge g w.heap.size with h' | h'
 ·exact h'
 ·have:w.heap[g]?=none:=Array.getElem?_eq_none h';simp [World.cell?,this] at h
theorem wD{a:Addr}{W:World}{v:Value}(h:W.cell? (a.add 0)=some v):∃ b off,a=(aDr b off):=by
 obtain⟨b,off,bN7⟩:=a
 cases bN7 with
 | none=>exact⟨b,off,rfl⟩
 | some k=>
  exfalso
  unfold Addr.add World.cell? at h;simp at h
  split at h <;> simp_all
theorem vV:Tryz.prog.cellsOf 27=2:=by kernel_rfl
theorem vW:Tryz.prog.cellsOf 4=1:=by kernel_rfl
theorem xS{H:Type}{enc:TypeId×Value->H}{W:World}{base:Nat}{v:Value}{d:DataW H}{p:List MemPlace}(hok:Value.okWide Tryz.prog W .any base 27 v)
  (h:DataW.Trod enc Tryz.prog W 0 (fun _=>true) true 27 v d p):∃ c f:Bool,v=.agg #[.bool c,.bool f]:=by
 obtain⟨cs,rfl,hsz⟩:=okWide_struct Tryz.underlying27 hok;obtain⟨fuel,hf⟩:=h;obtain⟨xs,k,hk,hxy,hcl,hxl,hfs⟩:=DataW.trod_struct Tryz.underlying27 hf;rw [vV] at hcl;obtain⟨l⟩:=cs;simp [Value.cells] at hcl hfs
 match xs,hxl,l,hcl,hfs with
 | [y0,y1],_,[c0,c1],_,hf=>
  have F0:=hf 0 _ rfl;have F1:=hf 1 _ rfl;simp [vW] at F0 F1;obtain⟨b0,e0,-⟩:=DataW.trod_bool Tryz.underlying4 F0;obtain⟨b1,e1,-⟩:=DataW.trod_bool Tryz.underlying4 F1;cases e0;cases e1;exact⟨b0,b1,rfl⟩
end
end Go.Proofs.YtlamifbjklpdbaaGreat
