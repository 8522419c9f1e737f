/-
  Parts of the proof.
-/
import Derived.Test.YtlamifbjklpdbaaGreatLessProofA0
import Derived.Test.YtlamifbjklpdbaaGreatLessProofB14
import Derived.Deep.RegionWith
import Derived.Deep.DeepCutAuto
import Derived.Deep.LoopGhost
import Derived.Deep.CutBlock
import Derived.WalkMore
import Derived.Laws.EntriesVeiled
import Derived.Test.YtlamifbjklpdbaaGreatLessProofB0
set_option linter.unusedSimpArgs false
set_option maxRecDepth 100000
set_option maxHeartbeats 8000000
namespace Go.Proofs.YtlamifbjklpdbaaGreat
open Go Go.RowKit
section
attribute [local go_sem] Oper.semAt_some
theorem mZ{R:Ending->World->Prop}{a:Act}{W:World}{b:Nat}{f:Fl}(h:Six W b 0 f)(ha:a.tmps[4]?.getD undef=.pointer (some ⟨b,0,none⟩))(hd:a.defers=[])(hR:R (.returned (.agg #[.int .i64 f.k,.int .i64 f.n,.int .i64 f.mn,.int .i64 f.mx,.slice f.rq f.rs.length f.rc,.slice f.kq f.kl f.kc])) W):bodyPost Tryz.prog Tryz.f22 R .ret a W:=by
 obtain⟨z0,z1,z2,z3,z4,z5⟩:=h
 simp only [a7] at z1 z2 z3 z4 z5
 refine bodyPost_ret (v:=.agg #[.int .i64 f.k,.int .i64 f.n,.int .i64 f.mn,.int .i64 f.mx,.slice f.rq f.rs.length f.rc,.slice f.kq f.kl f.kc]) ?_ hd hR
 simp [results,Tryz.results22,go_sem,ha,z0,z1,z2,z3,z4,z5]
theorem RSays.no{base:Nat}{w:World}{e:Ending}{w':World}(h:RSays base w (Option.map te none) e w'):∃ f':Fl,e=.returned (.tuple #[.agg #[.int .i64 f'.k,.int .i64 f'.n,.int .i64 f'.mn,.int .i64 f'.mx,.slice f'.rq f'.rs.length f'.rc,.slice f'.kq f'.kl f'.kc],.bool false])/\Below w.heap.size w w':=by
 obtain⟨f',h1,h2,-⟩:=h
 exact⟨f',h1,h2⟩
theorem RSays.yes{base:Nat}{w:World}{z:Ps}{e:Ending}{w':World}(h:RSays base w (Option.map te (some z)) e w'):∃ t':Tr,e=.returned (.tuple #[.agg #[.int .i64 t'.f.k,.int .i64 t'.f.n,.int .i64 t'.f.mn,.int .i64 t'.f.mx,.slice t'.f.rq t'.f.rs.length t'.f.rc,.slice t'.f.kq t'.f.kl t'.f.kc],.bool true])/\Below w.heap.size w w'/\TA w' t'/\Foot (fun k=>base<=k) t'/\er t'=te z:=by
 obtain⟨f',h1,h2,h3⟩:=h
 obtain⟨t',q1,q2,q3,q4⟩:=h3 (te z) rfl
 subst q1
 exact⟨t',h1,h2,q2,q3,q4⟩
structure SpC(w:World)(s0 b bz rb:Nat)(fk fn fmn fmx:Int)(frs:List (Int×Int))(tks:List Tr)(f:Fl)(W:World):Prop where
 fl:∃ q1 k1 q2 k2,f=⟨fk,fn,fmn,fmx,frs,q1,k1,q2,tks.length,k2⟩
 st:SpS w s0 b bz rb f [] tks W
 cap:tks.length<=f.kc/\f.kc<=maxLen
theorem aO7{w W0 V:World}{s1 b bz rb:Nat}{fk fn fmn fmx:Int}{frs:List (Int×Int)}{tks:List Tr}{q0 fq0 q1 q2:Option Addr}{k0 fk0 k1 k2:Nat}(hw:w.heap.size<=b)(hbz:b<bz)(hz0:bz<W0.heap.size)(hs1:W0.heap.size<=s1)(hrb:rb<w.heap.size)
  (B0:Below w.heap.size w W0) (B2:Below W0.heap.size W0 V) (N2:V.heap[b]?=some (.cells #[.int .i64 fk,.int .i64 fn,.int .i64 fmn,.int .i64 fmx,.slice q0 frs.length k0,.slice fq0 tks.length fk0] 25 (0,0)))
  (R2:V.heap[bz]?=some (.cells #[.int .i64 0,.int .i64 0,.int .i64 0,.int .i64 0,.slice none 0 0,.slice none 0 0] 25 (0,0))) (L2:RL V rb) (X:RR W0.heap.size V (.slice q1 frs.length k1) frs) (Y:V.ownsRow s1 25 6 (.slice q2 tks.length k2) tks.length (aQ tks)) :
  SpC w W0.heap.size b bz rb fk fn fmn fmx frs tks ⟨fk,fn,fmn,fmx,frs,q1,k1,q2,tks.length,k2⟩ ((V.setCell ⟨b,4,none⟩ (.slice q1 frs.length k1)).setCell ⟨b,5,none⟩ (.slice q2 tks.length k2)):=by
 have F:Fr (fun z=>z=b) V ((V.setCell ⟨b,4,none⟩ (.slice q1 frs.length k1)).setCell ⟨b,5,none⟩ (.slice q2 tks.length k2)):=((Fr.refl (fun z=>z=b) V).setCell (p:=⟨b,4,none⟩) rfl _).setCell (p:=⟨b,5,none⟩) rfl _
 have hY:((V.setCell ⟨b,4,none⟩ (.slice q1 frs.length k1)).setCell ⟨b,5,none⟩ (.slice q2 tks.length k2)).ownsRow s1 25 6 (.slice q2 tks.length k2) tks.length (aQ tks):=aK Y F (fun k hk e=>by have:=(aG Y hk).1;omega)
 have hN:=aM (aM N2 4 (.slice q1 frs.length k1)) 5 (.slice q2 tks.length k2)
 refine⟨⟨q1,k1,q2,k2,rfl⟩,⟨hN,(F.block _ (aC R2) (by omega)).trans R2,X.fr F (fun k hk e=>by have:=(aG X hk).1;omega),aX (aF B0 B2 lz9) F lz9 (fun k e=>by omega),(F.block _ (aC L2) (by omega)).trans L2,?_,fun u hu=>by cases hu⟩,?_⟩
 ·rcases hY.2 with⟨e,hn0⟩ | ⟨g,cap,cur,e,hg1,hg2,hg3,hg4,hg5,hg6⟩
  ·injection e with e1 _ e3
   exact .inl ⟨n8 hn0,e1,e3⟩
  ·injection e with e1 _ e3
   subst e1 e3
   exact .inr ⟨g,rfl,by omega,by omega,KR.of_row hY,fun u hu=>by cases hu⟩
 ·rcases hY.2 with⟨e,hn0⟩ | ⟨g,cap,cur,e,hg1,hg2,hg3,hg4,hg5,hg6⟩
  ·injection e with e1 _ e3
   subst e3
   exact⟨by show tks.length<=0;omega,m7 _⟩
  ·injection e with e1 _ e3
   subst e3
   exact⟨hg3,hg4⟩
theorem pF(c f:Bool)(rb:Nat):∀ (m:Nat) (t:Tr) (x:Ps) (w:World),t.sz<=m->TB w t->er t=te x->wf x->(∀ s∈pfl x,dD c f s)->x.sz<=2000->RL w rb->Calls Tryz.prog 22 #[.agg #[.int .i64 t.f.k,.int .i64 t.f.n,.int .i64 t.f.mn,.int .i64 t.f.mx,.slice t.f.rq t.f.rs.length t.f.rc,.slice t.f.kq t.f.kl t.f.kc],.slice (some ⟨rb,0,none⟩) 7 7] w (iV w (te (sim unC x))):=by
 intro m
 induction m with
 | zero=>intro t x w hm;exact absurd (dM t) (by omega)
 | succ m ih=>
  intro t x w hm hta he hwf hsg hsz hrl
  have IH:=aB ih
  have HM:=aB hm
  have HTA:=aB hta
  have HE:=aB he
  have HWF:=aB hwf
  have HSG:=aB hsg
  have HSZ:=aB hsz
  have hrb:=aC hrl
  have hkl:=hta.node.kl
  have htsz:t.sz<=2000:=by rw [<- eF,he,eT];exact hsz
  have hkn:t.ks.length<=2000:=by have:=eD t.ks;have:=dY t;omega
  have hfit:=hta.node.fit
  have hlen:=hta.node.len
  have HMK:=aB (aI9 he)
  have HKT:=aB (pW he)
  have HKM:Hid (∀ u∈t.ks,u.sz<=m):=aB fun u hu=>by have:=bW hu;omega
  obtain⟨tf,tks⟩:=t
  obtain⟨fk,fn,fmn,fmx,frs,frq,frc,fkq,fkl,fkc⟩:=tf
  have hkl':fkl=tks.length:=hkl
  subst hkl'
  change tks.length<=2000 at hkn
  change Fit frs at hfit
  change frs.length+3<=8796093022208 at hlen
  change Hid (Er.mk fk fn fmn fmx frs (x.kids.map fun y=>te (sim unC y))=te (fV unC x)) at HMK
  change Hid (tks.map er=x.kids.map te) at HKT
  change Hid (∀ u∈tks,u.sz<=m) at HKM
  show Calls Tryz.prog 22 #[.agg #[.int .i64 fk,.int .i64 fn,.int .i64 fmn,.int .i64 fmx,.slice frq frs.length frc,.slice fkq tks.length fkc],.slice (some ⟨rb,0,none⟩) 7 7] w (iV w (te (sim unC x)))
  obtain⟨FIN,hfin⟩:∃ y,sim unC x=y:=⟨_,rfl⟩
  rw [hfin]
  have HFIN:=aB (show nf unC (fV unC x)=FIN by rw [<- hfin,aP2])
  have B0:Hid (Below w.heap.size w ((w.alloc (.cells #[.int .i64 fk,.int .i64 fn,.int .i64 fmn,.int .i64 fmx,.slice frq frs.length frc,.slice fkq tks.length fkc] 25)).alloc (.cells #[.int .i64 0,.int .i64 0,.int .i64 0,.int .i64 0,.slice none 0 0,.slice none 0 0] 25))):=(bz9).alloc (by simp) _
  have N0:Hid (BoxN ((w.alloc (.cells #[.int .i64 fk,.int .i64 fn,.int .i64 fmn,.int .i64 fmx,.slice frq frs.length frc,.slice fkq tks.length fkc] 25)).alloc (.cells #[.int .i64 0,.int .i64 0,.int .i64 0,.int .i64 0,.slice none 0 0,.slice none 0 0] 25)) w.heap.size ⟨fk,fn,fmn,fmx,frs,frq,frc,fkq,tks.length,fkc⟩):=(Below.heap_alloc _ _ _ (by simp)).trans (aD w _)
  have R0:Hid (((w.alloc (.cells #[.int .i64 fk,.int .i64 fn,.int .i64 fmn,.int .i64 fmx,.slice frq frs.length frc,.slice fkq tks.length fkc] 25)).alloc (.cells #[.int .i64 0,.int .i64 0,.int .i64 0,.int .i64 0,.slice none 0 0,.slice none 0 0] 25)).heap[w.heap.size+1]?=some (.cells #[.int .i64 0,.int .i64 0,.int .i64 0,.int .i64 0,.slice none 0 0,.slice none 0 0] 25 (0,0))):=(by
   have:=aD (w.alloc (.cells #[.int .i64 fk,.int .i64 fn,.int .i64 fmn,.int .i64 fmx,.slice frq frs.length frc,.slice fkq tks.length fkc] 25)) (.cells #[.int .i64 0,.int .i64 0,.int .i64 0,.int .i64 0,.slice none 0 0,.slice none 0 0] 25)
   rwa [m8] at this)
  have L0:Hid (RL ((w.alloc (.cells #[.int .i64 fk,.int .i64 fn,.int .i64 fmn,.int .i64 fmx,.slice frq frs.length frc,.slice fkq tks.length fkc] 25)).alloc (.cells #[.int .i64 0,.int .i64 0,.int .i64 0,.int .i64 0,.slice none 0 0,.slice none 0 0] 25)) rb):=(B0.out.block _ hrb).trans hrl
  clear ih hm hta hkl he hwf hsg hsz hrl hfin htsz
  go_enter Tryz.func22,Tryz.ntmps22
  go_upto_region 1 with fail
  generalize ((w.alloc (.cells #[.int .i64 fk,.int .i64 fn,.int .i64 fmn,.int .i64 fmx,.slice frq frs.length frc,.slice fkq tks.length fkc] 25)).alloc (.cells #[.int .i64 0,.int .i64 0,.int .i64 0,.int .i64 0,.slice none 0 0,.slice none 0 0] 25))=W0 at B0 N0 R0 L0 ⊢
  obtain⟨bz,hbz⟩:∃ bz,w.heap.size+1=bz:=⟨_,rfl⟩
  rw [hbz] at R0 ⊢
  have LZ:=aC R0.out
  have LB:=aC N0.out
  go_step3
  go_upto_region 1 with fail
  go_cut [18] (fun _ wx=>∃ f',SpC w W0.heap.size w.heap.size bz rb fk fn fmn fmx frs tks f' wx)
  case first=>
   obtain⟨c0,c1,c2,c3,c4,c5⟩:=N0.out.six
   simp only [a7] at c1 c2 c3 c4 c5
   have A0:=aB (HTA.out.kept B0.out)
   have CR:Hid (∀ V,Below W0.heap.size W0 V->Calls Tryz.prog 40 #[.slice frq frs.length frc] V fun e w'=>∃ q' k',e=.returned (.slice q' frs.length k')/\RR V.heap.size w' (.slice q' frs.length k') frs/\Below V.heap.size V w'):=aB fun V hV=>rV (A0.out.kept hV).node.r hlen
   have CN:Hid (∀ V,Below W0.heap.size W0 V->Calls Tryz.prog 41 #[.slice fkq tks.length fkc] V fun e w'=>∃ q' k',e=.returned (.slice q' tks.length k')/\w'.ownsRow V.heap.size 25 6 (.slice q' tks.length k') tks.length (aQ tks)/\Below V.heap.size V w'):=aB fun V hV=>rW (ks:=tks) (A0.out.kept hV).node.k (by omega)
   first | go_region_with (first |(go_at_call 41;(with_reducible refine(CN.out _ B1.out).mono ?_);rintro e w2 ⟨q2,k2,rfl,h21,h22⟩;have Y2:=aB h21;have B2:=aB (aF B1.out h22 lz9);have Y1:=aB (X1.out.kept h22);have N2:w2.heap[w.heap.size]?=some (.cells #[.int .i64 fk,.int .i64 fn,.int .i64 fmn,.int .i64 fmx,.slice frq frs.length frc,.slice fkq tks.length fkc] 25 (0,0)):=(h22.block _ (j2 LB B1.out.size)).trans ((B1.out.block _ LB).trans N0.out);have g4:=aA N2 (i:=4) rfl;have g5:=aA N2 (i:=5) rfl;have fz:=fun z=>aJ N2 z;clear h21 h22) |(go_at_call 40;(with_reducible refine(CR.out _ (Below.refl W0.heap.size W0).drew).mono ?_);rintro e w1 ⟨q1,k1,rfl,h11,h12⟩;have X1:Hid (RR W0.heap.size w1 (.slice q1 frs.length k1) frs):=aB h11;have B1:Hid (Below W0.heap.size W0 w1):=aB ((Below.refl W0.heap.size W0).drew.trans h12);have N1:w1.heap[w.heap.size]?=some (.cells #[.int .i64 fk,.int .i64 fn,.int .i64 fmn,.int .i64 fmx,.slice frq frs.length frc,.slice fkq tks.length fkc] 25 (0,0)):=(B1.out.block _ LB).trans N0.out;have f4:=aA N1 (i:=4) rfl;have f5:=aA N1 (i:=5) rfl;clear h11 h12)) | fail
   all_goals have S2:=aB (aO7 lz9 (by omega) LZ B1.out.size hrb B0.out B2.out N2 ((B2.out.block _ LZ).trans R0.out) ((B2.out.block _ (aC L0.out)).trans L0.out) Y1.out Y2.out)
   all_goals go_wp2
   all_goals go_meet
   all_goals exact⟨_,S2.out⟩
  case rest=>
  obtain⟨f',hC⟩:=hcut
  have HC:=aB hC
  clear hC N0 R0 L0
  obtain⟨q1,k1,q2,k2,rfl⟩:=HC.out.fl
  have c5:wc.cell? ⟨w.heap.size,5,none⟩=some (.slice q2 tks.length k2):=aA HC.out.st.box (i:=5) rfl
  go_upto_block 0 with fail
  go_cut [22] from 22 to 34 (fun _ wx=>∃ t',SI w w.heap.size bz rb c f FIN (fV unC x) t' wx)
  case first=>
   have HCP:=aB HC.out.cap
   have HST:=aB HC.out.st
   clear HC
   go_wp2
   go_loopw [22] (fun i wr=>∃ (j:Nat) (nk:List Tr),j<=tks.length/\i=.int .i64 (j:Int)/\nk.length=j/\nk.map er=(x.kids.take j).map (fun y=>te (sim unC y))/\SpS w W0.heap.size w.heap.size bz rb ⟨fk,fn,fmn,fmx,frs,q1,k1,q2,tks.length,k2⟩ nk (tks.drop j) wr) (fun i _=>tks.length-(intOf i).toNat)
   case atStart=>exact⟨0,[],m7 _,rfl,rfl,rfl,HST.out⟩
   case round=>
    clear HST c5
    obtain⟨j,nk,hj,rfl,hnk,hmap,hcs⟩:=hrel
    have HS:=aB hcs
    have HMP:=aB hmap
    have HNK:=aB hnk
    clear hcs hmap hnk
    by_cases hjl:j<tks.length
    ·have i0:(j:Int)<(tks.length:Int):=by omega
     obtain⟨u,hu⟩:∃ u,tks[j]?=some u:=⟨_,b7 hjl⟩
     have hdr:tks.drop j=u :: tks.drop (j+1):=by
      rw [u8 hjl]
      congr 1
      rw [b7 hjl] at hu
      injection hu
     obtain⟨g,hq,hbg,hzg,hkr,-⟩:=HS.out.at (by rw [hdr];simp)
     change q2=some ⟨g,0,none⟩ at hq
     subst hq
     have hsx:=hkr.six j u (by rw [hdr,o0 (by have:=HNK.out;omega),HNK.out,u1];rfl)
     have hin:u∈tks:=i5 hu
     have hug:=hkr.lt
     have hxl:tks.length=x.kids.length:=by have:=congrArg List.length HKT.out;simpa using this
     obtain⟨y,hy⟩:∃ y,x.kids[j]?=some y:=⟨_,b7 (by omega)⟩
     have hyin:y∈x.kids:=i5 hy
     have huy:er u=te y:=by
      have h1:(tks.map er)[j]?=some (er u):=by simp [hu]
      rw [HKT.out] at h1
      simp [hy] at h1
      exact h1.symm
     clear hxl
     obtain⟨d0,d1,d2,d3,d4,d5⟩:=hsx
     have K4:Below wr.heap.size wr (wr.alloc (.cells #[.int .i64 u.f.k,.int .i64 u.f.n,.int .i64 u.f.mn,.int .i64 u.f.mx,.slice u.f.rq u.f.rs.length u.f.rc,.slice u.f.kq u.f.kl u.f.kc] 25)):=bz9
     have S4:=aB (HS.out.kept K4)
     have N4:Hid (BoxN (wr.alloc (.cells #[.int .i64 u.f.k,.int .i64 u.f.n,.int .i64 u.f.mn,.int .i64 u.f.mx,.slice u.f.rq u.f.rs.length u.f.rc,.slice u.f.kq u.f.kl u.f.kc] 25)) wr.heap.size u.f):=aD wr _
     have HY:=aB hy
     have HDR:=aB hdr
     have T4:=aB ((HTA.out.kid (u:=u) hin).kept (aF HS.out.bel K4 lz9))
     have L4:g<(wr.alloc (.cells #[.int .i64 u.f.k,.int .i64 u.f.n,.int .i64 u.f.mn,.int .i64 u.f.mx,.slice u.f.rq u.f.rs.length u.f.rc,.slice u.f.kq u.f.kl u.f.kc] 25)).heap.size:=j2 hug K4.size
     have I4:Hid (∀ V,TB V u->RL V rb->Calls Tryz.prog 22 #[.agg #[.int .i64 u.f.k,.int .i64 u.f.n,.int .i64 u.f.mn,.int .i64 u.f.mx,.slice u.f.rq u.f.rs.length u.f.rc,.slice u.f.kq u.f.kl u.f.kc],.slice (some ⟨rb,0,none⟩) 7 7] V (iV V (te (sim unC y)))):=aB fun V hV hR=>IH.out u y V (HKM.out u hin) hV huy (dC HWF.out hyin) (fun s hs=>HSG.out s (pM hyin hs)) (by have:=uP hyin;have:=HSZ.out;omega) hR
     clear hu hdr K4 hy hkr
     go_upto_region 5 with fail
     generalize (wr.alloc (.cells #[.int .i64 u.f.k,.int .i64 u.f.n,.int .i64 u.f.mn,.int .i64 u.f.mx,.slice u.f.rq u.f.rs.length u.f.rc,.slice u.f.kq u.f.kl u.f.kc] 25))=W4 at S4 N4 T4 L4 ⊢
     obtain⟨n0,n1,n2,n3,n4,n5⟩:=N4.out.six
     simp only [a7] at n1 n2 n3 n4 n5
     have b5:W4.cell? ⟨w.heap.size,5,none⟩=some (.slice (some ⟨g,0,none⟩) tks.length k2):=S4.out.box.six.2.2.2.2.2
     have IHU:Hid (Calls Tryz.prog 22 #[.agg #[.int .i64 u.f.k,.int .i64 u.f.n,.int .i64 u.f.mn,.int .i64 u.f.mx,.slice u.f.rq u.f.rs.length u.f.rc,.slice u.f.kq u.f.kl u.f.kc],.slice (some ⟨rb,0,none⟩) 7 7] W4.drew fun e w5=>∃ t5:Tr,e=.returned (.agg #[.int .i64 t5.f.k,.int .i64 t5.f.n,.int .i64 t5.f.mn,.int .i64 t5.f.mx,.slice t5.f.rq t5.f.rs.length t5.f.rc,.slice t5.f.kq t5.f.kl t5.f.kc])/\SpS w W0.heap.size w.heap.size bz rb ⟨fk,fn,fmn,fmx,frs,q1,k1,some ⟨g,0,none⟩,tks.length,k2⟩ nk (tks.drop j) w5/\Six w5 g (j*6) u.f/\SpS w W0.heap.size w.heap.size bz rb ⟨fk,fn,fmn,fmx,frs,q1,k1,some ⟨g,0,none⟩,tks.length,k2⟩ (nk++[t5]) (tks.drop j).tail (bH w5 g (j*6) t5.f)/\er t5=te (sim unC y)/\KR w5 g (nk++tks.drop j)):=aB ((I4.out W4.drew (T4.out.kept (Below.refl _ _).drew) S4.out.rul).mono fun e w5 ⟨t5,h50,h51,h52,h53,h54⟩=>(by
      have S5:=(S4.out.kept (Below.refl _ _).drew).kept h54
      obtain⟨g',e',-,-,hkr,-⟩:=S5.at (by rw [HDR.out];simp)
      cases e'
      refine⟨t5,h50,S5,hkr.six j u (by rw [HDR.out,o0 (by have:=HNK.out;omega),HNK.out,u1];rfl),S5.next (t:=t5) rfl HNK.out (by rw [HDR.out];simp) hrb lz9 h51 (h52.mono (fun k hk=>j2 L4 hk)),h53,hkr⟩))
     clear I4
     go_region_with (go_at_call 22;(with_reducible refine(IHU.out).mono ?_);rintro e w5 ⟨t5,rfl,h51,h52,h53,h54,h55⟩;obtain⟨y0,y1,y2,y3,y4,y5⟩:=h52;have S5:=aB h51;have fz:=fun z=>h55.frz z;have bb5:w5.cell? ⟨w.heap.size,5,none⟩=some (.slice (some ⟨g,0,none⟩) tks.length k2):=S5.out.box.six.2.2.2.2.2;have S6:=aB h53;have E6:=aB h54;clear h51 h53 h54 h55)
     all_goals have HMN:=aB (show (nk++[t5]).map er=(x.kids.take (j+1)).map (fun y=>te (sim unC y)) by rw [o7,HY.out,o4,o4,HMP.out];simp [E6.out])
     all_goals have S7:=S6.out
     all_goals rw [List.tail_drop] at S7
     all_goals unfold bH at S7
     all_goals have S8:=aB S7
     all_goals clear S7
     all_goals go_wp2_with fail
     all_goals go_roundw
     all_goals first | exact⟨j+1,nk++[t5],by omega,by go_num,by rw [j3,HNK.out];rfl,HMN.out,S8.out⟩ |(simp [intOf];omega) |(simp only [intOf];omega)
    ·have i0:¬ (j:Int)<(tks.length:Int):=by omega
     have hxl:tks.length=x.kids.length:=by have:=congrArg List.length HKT.out;simpa using this
     have S9:=HS.out
     rw [List.drop_eq_nil_of_le (by omega)] at S9
     have hmp:=HMP.out
     rw [j5 (by omega)] at hmp
     have hnl:=HNK.out
     have T9:=S9.tree LZ (by show tks.length=_;omega) (by have:=HCP.out.1;show nk.length<=k2;change tks.length<=k2 at this;omega) HCP.out.2 hfit hlen
     have HSI:Hid (SI w w.heap.size bz rb c f FIN (fV unC x) (.mk ⟨fk,fn,fmn,fmx,frs,q1,k1,q2,tks.length,k2⟩ nk) wr):=aB ⟨S9.box,S9.res,S9.bel,S9.rul,T9.1,T9.2,⟨by rw [bQ];show Er.mk fk fn fmn fmx frs (nk.map er)=_;rw [hmp];exact HMK.out,Nd.ofk unC HWF.out,aJ1 HSG.out,j4 (aJ0 x) HSZ.out⟩,HFIN.out⟩
     clear S9 T9 hmp hnl HS hxl
     go_wp2
     go_meet
     exact⟨_,HSI.out⟩
  case rest=>
  obtain⟨t1,hSI⟩:=hcut
  have H1:=aB hSI
  clear hSI HC c5 HMK HKT HKM HFIN HTA HE HWF HSG HSZ HM IH B0 LZ LB hkn hfit hlen
  go_wp2
  go_step3
  go_wp2
  go_loopg [35] 2000 (fun k _ wr=>∃ z t,z.sz<=k/\SI w w.heap.size bz rb c f FIN z t wr)
  case atStart=>exact⟨_,t1,H1.out.ns.sz,H1.out⟩
  case round=>
   obtain⟨z,t,hzk,hsi⟩:=hrel
   have HS0:=aB hsi
   clear hsi H1
   go_wp2
   go_loopg [37] 7 (fun k i wr=>∃ j:Nat,j+k=7/\i=.int .i64 (j:Int)/\(∀ i,i<j->rl i z=none)/\SI w w.heap.size bz rb c f FIN z t wr)
   case atStart=>exact⟨0,rfl,rfl,fun i hi=>absurd hi (Nat.not_lt_zero _),HS0.out⟩
   case round=>
    obtain⟨j,hjk,rfl,hno,hsi⟩:=hrel
    have HSI:=aB hsi
    have HNO:=aB hno
    clear hsi hno HS0
    have hj:j=0\/j=1\/j=2\/j=3\/j=4\/j=5\/j=6\/j=7:=by omega
    rcases hj with hj0 | hj1 | hj2 | hj3 | hj4 | hj5 | hj6 | hj7
    ·subst hj0
     have l0:wr.cell? ⟨rb,0,none⟩=some (.int .i64 9):=aA HSI.out.rul (i:=0) rfl
     have l1:wr.cell? ⟨rb,1,none⟩=some (.func (.func 42) #[] #[]):=aA HSI.out.rul (i:=1) rfl
     have K1:Below wr.heap.size wr (wr.alloc (.cells #[.int .i64 9,.func (.func 42) #[] #[]] 91)):=bz9
     have S1:=aB (HSI.out.kept K1)
     have M1:=aB (aD wr (.cells #[.int .i64 9,.func (.func 42) #[] #[]] 91))
     have SC:Hid (∀ V,Below wr.heap.size wr V->z.kd=9->Calls Tryz.prog 42 #[.agg #[.int .i64 t.f.k,.int .i64 t.f.n,.int .i64 t.f.mn,.int .i64 t.f.mx,.slice t.f.rq t.f.rs.length t.f.rc,.slice t.f.kq t.f.kl t.f.kc]] V (RSays (bz+1) V ((rl 0 z).map te))):=aB fun V hV hk=>zD HSI.out.ns (HSI.out.kept hV).ta HSI.out.ft hk
     go_upto_region 10 with fail
     generalize (wr.alloc (.cells #[.int .i64 9,.func (.func 42) #[] #[]] 91))=V1 at K1 S1 M1 ⊢
     clear l0 l1
     obtain⟨c0,c1,c2,c3,c4,c5⟩:=S1.out.box.six
     simp only [a7] at c1 c2 c3 c4 c5
     have m0:=aA M1.out (i:=0) rfl
     have m1:=aA M1.out (i:=1) rfl
     by_cases hk:z.kd=9
     ·have e45:((9:Int) != t.f.k)=false:=by rw [<- cQ,HSI.out.ns.er,cR,hk];rfl
      have SC1:=SC.out V1 K1 hk
      clear SC hk
      cases ho:rl 0 z with
      | none=>
       rw [ho] at SC1
       have SD:=aB (SC1.mono fun e w' q=>q.no)
       have HNX:=aB (show ∀ i,i<0+1->rl i z=none from fun i hi=>if hij:i<0 then HNO.out i hij else by have:i=0:=(by omega);subst this;exact ho)
       clear SC1 ho
       go_wp2_with (go_at_call 42;(with_reducible refine SD.out.mono ?_);rintro e w7 ⟨f7,rfl,h72⟩;have S7:=aB ((S1.out.kept h72).kept ((Below.refl _ _).alloc lz9 (.cells #[.int .i64 f7.k,.int .i64 f7.n,.int .i64 f7.mn,.int .i64 f7.mx,.slice f7.rq f7.rs.length f7.rc,.slice f7.kq f7.kl f7.kc] 25)));clear h72)
       go_roundg 6
       case measure=>omega
       case rel=>exact⟨1,rfl,rfl,HNX.out,S7.out⟩
      | some z'=>
       rw [ho] at SC1
       have SD:=aB (SC1.mono fun e w' q=>q.yes)
       have HOO:=aB ho
       clear SC1 ho
       go_upto_region 13 with (go_at_call 42;(with_reducible refine SD.out.mono ?_);rintro e w7 ⟨t7,rfl,h72,h73,h74,h75⟩;have B7:=aB h72;have T7:=aB h73;have F7:=aB h74;have E7:=aB h75;clear h72 h73 h74 h75)
       have K8:Below w7.heap.size w7 (w7.alloc (.cells #[.int .i64 t7.f.k,.int .i64 t7.f.n,.int .i64 t7.f.mn,.int .i64 t7.f.mx,.slice t7.f.rq t7.f.rs.length t7.f.rc,.slice t7.f.kq t7.f.kl t7.f.kc] 25)):=bz9
       have S8:=aB ((S1.out.kept B7.out).kept K8)
       have N8:Hid (BoxN (w7.alloc (.cells #[.int .i64 t7.f.k,.int .i64 t7.f.n,.int .i64 t7.f.mn,.int .i64 t7.f.mx,.slice t7.f.rq t7.f.rs.length t7.f.rc,.slice t7.f.kq t7.f.kl t7.f.kc] 25)) w7.heap.size t7.f):=aB (aD w7 _)
       have T8:=aB (T7.out.kept K8)
       clear c0 c1 c2 c3 c4 c5 m0 m1
       generalize (w7.alloc (.cells #[.int .i64 t7.f.k,.int .i64 t7.f.n,.int .i64 t7.f.mn,.int .i64 t7.f.mx,.slice t7.f.rq t7.f.rs.length t7.f.rc,.slice t7.f.kq t7.f.kl t7.f.kc] 25))=w8 at K8 S8 N8 T8 ⊢
       obtain⟨c0,c1,c2,c3,c4,c5⟩:=S8.out.box.six
       simp only [a7] at c1 c2 c3 c4 c5
       obtain⟨n0,n1,n2,n3,n4,n5⟩:=N8.out.six
       simp only [a7] at n1 n2 n3 n4 n5
       have fz:=fun z=>aJ S8.out.box z
       obtain⟨h91,h92⟩:=S8.out.step HNO.out HOO.out T8.out F7.out E7.out (by omega) hrb lz9
       unfold bH at h91
       have S9:=aB h91
       clear h91
       go_wp2
       go_roundg z'.sz
       case measure=>omega
       case rel=>exact⟨z',t7,o5 _,S9.out⟩
     ·have e45:((9:Int) != t.f.k)=true:=by rw [<- cQ,HSI.out.ns.er,cR];simpa using (fun q=>hk q.symm)
      have HNX:=aB (show ∀ i,i<0+1->rl i z=none from fun i hi=>if hij:i<0 then HNO.out i hij else by have:i=0:=(by omega);subst this;exact gY (by unfold rk;simpa using hk))
      clear SC hk
      go_wp2
      go_roundg 6
      case measure=>omega
      case rel=>exact⟨1,rfl,rfl,HNX.out,S1.out⟩
    ·subst hj1
     have l0:wr.cell? ⟨rb,2,none⟩=some (.int .i64 9):=aA HSI.out.rul (i:=2) rfl
     have l1:wr.cell? ⟨rb,3,none⟩=some (.func (.func 43) #[] #[]):=aA HSI.out.rul (i:=3) rfl
     have K1:Below wr.heap.size wr (wr.alloc (.cells #[.int .i64 9,.func (.func 43) #[] #[]] 91)):=bz9
     have S1:=aB (HSI.out.kept K1)
     have M1:=aB (aD wr (.cells #[.int .i64 9,.func (.func 43) #[] #[]] 91))
     have SC:Hid (∀ V,Below wr.heap.size wr V->z.kd=9->Calls Tryz.prog 43 #[.agg #[.int .i64 t.f.k,.int .i64 t.f.n,.int .i64 t.f.mn,.int .i64 t.f.mx,.slice t.f.rq t.f.rs.length t.f.rc,.slice t.f.kq t.f.kl t.f.kc]] V (RSays (bz+1) V ((rl 1 z).map te))):=aB fun V hV hk=>wD HSI.out.ns (HSI.out.kept hV).ta HSI.out.ft hk
     go_upto_region 10 with fail
     generalize (wr.alloc (.cells #[.int .i64 9,.func (.func 43) #[] #[]] 91))=V1 at K1 S1 M1 ⊢
     clear l0 l1
     obtain⟨c0,c1,c2,c3,c4,c5⟩:=S1.out.box.six
     simp only [a7] at c1 c2 c3 c4 c5
     have m0:=aA M1.out (i:=0) rfl
     have m1:=aA M1.out (i:=1) rfl
     by_cases hk:z.kd=9
     ·have e45:((9:Int) != t.f.k)=false:=by rw [<- cQ,HSI.out.ns.er,cR,hk];rfl
      have SC1:=SC.out V1 K1 hk
      clear SC hk
      cases ho:rl 1 z with
      | none=>
       rw [ho] at SC1
       have SD:=aB (SC1.mono fun e w' q=>q.no)
       have HNX:=aB (show ∀ i,i<1+1->rl i z=none from fun i hi=>if hij:i<1 then HNO.out i hij else by have:i=1:=(by omega);subst this;exact ho)
       clear SC1 ho
       go_wp2_with (go_at_call 43;(with_reducible refine SD.out.mono ?_);rintro e w7 ⟨f7,rfl,h72⟩;have S7:=aB ((S1.out.kept h72).kept ((Below.refl _ _).alloc lz9 (.cells #[.int .i64 f7.k,.int .i64 f7.n,.int .i64 f7.mn,.int .i64 f7.mx,.slice f7.rq f7.rs.length f7.rc,.slice f7.kq f7.kl f7.kc] 25)));clear h72)
       go_roundg 5
       case measure=>omega
       case rel=>exact⟨2,rfl,rfl,HNX.out,S7.out⟩
      | some z'=>
       rw [ho] at SC1
       have SD:=aB (SC1.mono fun e w' q=>q.yes)
       have HOO:=aB ho
       clear SC1 ho
       go_upto_region 13 with (go_at_call 43;(with_reducible refine SD.out.mono ?_);rintro e w7 ⟨t7,rfl,h72,h73,h74,h75⟩;have B7:=aB h72;have T7:=aB h73;have F7:=aB h74;have E7:=aB h75;clear h72 h73 h74 h75)
       have K8:Below w7.heap.size w7 (w7.alloc (.cells #[.int .i64 t7.f.k,.int .i64 t7.f.n,.int .i64 t7.f.mn,.int .i64 t7.f.mx,.slice t7.f.rq t7.f.rs.length t7.f.rc,.slice t7.f.kq t7.f.kl t7.f.kc] 25)):=bz9
       have S8:=aB ((S1.out.kept B7.out).kept K8)
       have N8:Hid (BoxN (w7.alloc (.cells #[.int .i64 t7.f.k,.int .i64 t7.f.n,.int .i64 t7.f.mn,.int .i64 t7.f.mx,.slice t7.f.rq t7.f.rs.length t7.f.rc,.slice t7.f.kq t7.f.kl t7.f.kc] 25)) w7.heap.size t7.f):=aB (aD w7 _)
       have T8:=aB (T7.out.kept K8)
       clear c0 c1 c2 c3 c4 c5 m0 m1
       generalize (w7.alloc (.cells #[.int .i64 t7.f.k,.int .i64 t7.f.n,.int .i64 t7.f.mn,.int .i64 t7.f.mx,.slice t7.f.rq t7.f.rs.length t7.f.rc,.slice t7.f.kq t7.f.kl t7.f.kc] 25))=w8 at K8 S8 N8 T8 ⊢
       obtain⟨c0,c1,c2,c3,c4,c5⟩:=S8.out.box.six
       simp only [a7] at c1 c2 c3 c4 c5
       obtain⟨n0,n1,n2,n3,n4,n5⟩:=N8.out.six
       simp only [a7] at n1 n2 n3 n4 n5
       have fz:=fun z=>aJ S8.out.box z
       obtain⟨h91,h92⟩:=S8.out.step HNO.out HOO.out T8.out F7.out E7.out (by omega) hrb lz9
       unfold bH at h91
       have S9:=aB h91
       clear h91
       go_wp2
       go_roundg z'.sz
       case measure=>omega
       case rel=>exact⟨z',t7,o5 _,S9.out⟩
     ·have e45:((9:Int) != t.f.k)=true:=by rw [<- cQ,HSI.out.ns.er,cR];simpa using (fun q=>hk q.symm)
      have HNX:=aB (show ∀ i,i<1+1->rl i z=none from fun i hi=>if hij:i<1 then HNO.out i hij else by have:i=1:=(by omega);subst this;exact gY (by unfold rk;simpa using hk))
      clear SC hk
      go_wp2
      go_roundg 5
      case measure=>omega
      case rel=>exact⟨2,rfl,rfl,HNX.out,S1.out⟩
    ·subst hj2
     have l0:wr.cell? ⟨rb,4,none⟩=some (.int .i64 9):=aA HSI.out.rul (i:=4) rfl
     have l1:wr.cell? ⟨rb,5,none⟩=some (.func (.func 44) #[] #[]):=aA HSI.out.rul (i:=5) rfl
     have K1:Below wr.heap.size wr (wr.alloc (.cells #[.int .i64 9,.func (.func 44) #[] #[]] 91)):=bz9
     have S1:=aB (HSI.out.kept K1)
     have M1:=aB (aD wr (.cells #[.int .i64 9,.func (.func 44) #[] #[]] 91))
     have SC:Hid (∀ V,Below wr.heap.size wr V->z.kd=9->Calls Tryz.prog 44 #[.agg #[.int .i64 t.f.k,.int .i64 t.f.n,.int .i64 t.f.mn,.int .i64 t.f.mx,.slice t.f.rq t.f.rs.length t.f.rc,.slice t.f.kq t.f.kl t.f.kc]] V (RSays (bz+1) V ((rl 2 z).map te))):=aB fun V hV hk=>aG6 HSI.out.ns (HSI.out.kept hV).ta hk
     go_upto_region 10 with fail
     generalize (wr.alloc (.cells #[.int .i64 9,.func (.func 44) #[] #[]] 91))=V1 at K1 S1 M1 ⊢
     clear l0 l1
     obtain⟨c0,c1,c2,c3,c4,c5⟩:=S1.out.box.six
     simp only [a7] at c1 c2 c3 c4 c5
     have m0:=aA M1.out (i:=0) rfl
     have m1:=aA M1.out (i:=1) rfl
     by_cases hk:z.kd=9
     ·have e45:((9:Int) != t.f.k)=false:=by rw [<- cQ,HSI.out.ns.er,cR,hk];rfl
      have SC1:=SC.out V1 K1 hk
      clear SC hk
      cases ho:rl 2 z with
      | none=>
       rw [ho] at SC1
       have SD:=aB (SC1.mono fun e w' q=>q.no)
       have HNX:=aB (show ∀ i,i<2+1->rl i z=none from fun i hi=>if hij:i<2 then HNO.out i hij else by have:i=2:=(by omega);subst this;exact ho)
       clear SC1 ho
       go_wp2_with (go_at_call 44;(with_reducible refine SD.out.mono ?_);rintro e w7 ⟨f7,rfl,h72⟩;have S7:=aB ((S1.out.kept h72).kept ((Below.refl _ _).alloc lz9 (.cells #[.int .i64 f7.k,.int .i64 f7.n,.int .i64 f7.mn,.int .i64 f7.mx,.slice f7.rq f7.rs.length f7.rc,.slice f7.kq f7.kl f7.kc] 25)));clear h72)
       go_roundg 4
       case measure=>omega
       case rel=>exact⟨3,rfl,rfl,HNX.out,S7.out⟩
      | some z'=>
       rw [ho] at SC1
       have SD:=aB (SC1.mono fun e w' q=>q.yes)
       have HOO:=aB ho
       clear SC1 ho
       go_upto_region 13 with (go_at_call 44;(with_reducible refine SD.out.mono ?_);rintro e w7 ⟨t7,rfl,h72,h73,h74,h75⟩;have B7:=aB h72;have T7:=aB h73;have F7:=aB h74;have E7:=aB h75;clear h72 h73 h74 h75)
       have K8:Below w7.heap.size w7 (w7.alloc (.cells #[.int .i64 t7.f.k,.int .i64 t7.f.n,.int .i64 t7.f.mn,.int .i64 t7.f.mx,.slice t7.f.rq t7.f.rs.length t7.f.rc,.slice t7.f.kq t7.f.kl t7.f.kc] 25)):=bz9
       have S8:=aB ((S1.out.kept B7.out).kept K8)
       have N8:Hid (BoxN (w7.alloc (.cells #[.int .i64 t7.f.k,.int .i64 t7.f.n,.int .i64 t7.f.mn,.int .i64 t7.f.mx,.slice t7.f.rq t7.f.rs.length t7.f.rc,.slice t7.f.kq t7.f.kl t7.f.kc] 25)) w7.heap.size t7.f):=aB (aD w7 _)
       have T8:=aB (T7.out.kept K8)
       clear c0 c1 c2 c3 c4 c5 m0 m1
       generalize (w7.alloc (.cells #[.int .i64 t7.f.k,.int .i64 t7.f.n,.int .i64 t7.f.mn,.int .i64 t7.f.mx,.slice t7.f.rq t7.f.rs.length t7.f.rc,.slice t7.f.kq t7.f.kl t7.f.kc] 25))=w8 at K8 S8 N8 T8 ⊢
       obtain⟨c0,c1,c2,c3,c4,c5⟩:=S8.out.box.six
       simp only [a7] at c1 c2 c3 c4 c5
       obtain⟨n0,n1,n2,n3,n4,n5⟩:=N8.out.six
       simp only [a7] at n1 n2 n3 n4 n5
       have fz:=fun z=>aJ S8.out.box z
       obtain⟨h91,h92⟩:=S8.out.step HNO.out HOO.out T8.out F7.out E7.out (by omega) hrb lz9
       unfold bH at h91
       have S9:=aB h91
       clear h91
       go_wp2
       go_roundg z'.sz
       case measure=>omega
       case rel=>exact⟨z',t7,o5 _,S9.out⟩
     ·have e45:((9:Int) != t.f.k)=true:=by rw [<- cQ,HSI.out.ns.er,cR];simpa using (fun q=>hk q.symm)
      have HNX:=aB (show ∀ i,i<2+1->rl i z=none from fun i hi=>if hij:i<2 then HNO.out i hij else by have:i=2:=(by omega);subst this;exact gY (by unfold rk;simpa using hk))
      clear SC hk
      go_wp2
      go_roundg 4
      case measure=>omega
      case rel=>exact⟨3,rfl,rfl,HNX.out,S1.out⟩
    ·subst hj3
     have l0:wr.cell? ⟨rb,6,none⟩=some (.int .i64 9):=aA HSI.out.rul (i:=6) rfl
     have l1:wr.cell? ⟨rb,7,none⟩=some (.func (.func 45) #[] #[]):=aA HSI.out.rul (i:=7) rfl
     have K1:Below wr.heap.size wr (wr.alloc (.cells #[.int .i64 9,.func (.func 45) #[] #[]] 91)):=bz9
     have S1:=aB (HSI.out.kept K1)
     have M1:=aB (aD wr (.cells #[.int .i64 9,.func (.func 45) #[] #[]] 91))
     have SC:Hid (∀ V,Below wr.heap.size wr V->z.kd=9->Calls Tryz.prog 45 #[.agg #[.int .i64 t.f.k,.int .i64 t.f.n,.int .i64 t.f.mn,.int .i64 t.f.mx,.slice t.f.rq t.f.rs.length t.f.rc,.slice t.f.kq t.f.kl t.f.kc]] V (RSays (bz+1) V ((rl 3 z).map te))):=aB fun V hV hk=>pI HSI.out.ns (HSI.out.kept hV).ta hk
     go_upto_region 10 with fail
     generalize (wr.alloc (.cells #[.int .i64 9,.func (.func 45) #[] #[]] 91))=V1 at K1 S1 M1 ⊢
     clear l0 l1
     obtain⟨c0,c1,c2,c3,c4,c5⟩:=S1.out.box.six
     simp only [a7] at c1 c2 c3 c4 c5
     have m0:=aA M1.out (i:=0) rfl
     have m1:=aA M1.out (i:=1) rfl
     by_cases hk:z.kd=9
     ·have e45:((9:Int) != t.f.k)=false:=by rw [<- cQ,HSI.out.ns.er,cR,hk];rfl
      have SC1:=SC.out V1 K1 hk
      clear SC hk
      cases ho:rl 3 z with
      | none=>
       rw [ho] at SC1
       have SD:=aB (SC1.mono fun e w' q=>q.no)
       have HNX:=aB (show ∀ i,i<3+1->rl i z=none from fun i hi=>if hij:i<3 then HNO.out i hij else by have:i=3:=(by omega);subst this;exact ho)
       clear SC1 ho
       go_wp2_with (go_at_call 45;(with_reducible refine SD.out.mono ?_);rintro e w7 ⟨f7,rfl,h72⟩;have S7:=aB ((S1.out.kept h72).kept ((Below.refl _ _).alloc lz9 (.cells #[.int .i64 f7.k,.int .i64 f7.n,.int .i64 f7.mn,.int .i64 f7.mx,.slice f7.rq f7.rs.length f7.rc,.slice f7.kq f7.kl f7.kc] 25)));clear h72)
       go_roundg 3
       case measure=>omega
       case rel=>exact⟨4,rfl,rfl,HNX.out,S7.out⟩
      | some z'=>
       rw [ho] at SC1
       have SD:=aB (SC1.mono fun e w' q=>q.yes)
       have HOO:=aB ho
       clear SC1 ho
       go_upto_region 13 with (go_at_call 45;(with_reducible refine SD.out.mono ?_);rintro e w7 ⟨t7,rfl,h72,h73,h74,h75⟩;have B7:=aB h72;have T7:=aB h73;have F7:=aB h74;have E7:=aB h75;clear h72 h73 h74 h75)
       have K8:Below w7.heap.size w7 (w7.alloc (.cells #[.int .i64 t7.f.k,.int .i64 t7.f.n,.int .i64 t7.f.mn,.int .i64 t7.f.mx,.slice t7.f.rq t7.f.rs.length t7.f.rc,.slice t7.f.kq t7.f.kl t7.f.kc] 25)):=bz9
       have S8:=aB ((S1.out.kept B7.out).kept K8)
       have N8:Hid (BoxN (w7.alloc (.cells #[.int .i64 t7.f.k,.int .i64 t7.f.n,.int .i64 t7.f.mn,.int .i64 t7.f.mx,.slice t7.f.rq t7.f.rs.length t7.f.rc,.slice t7.f.kq t7.f.kl t7.f.kc] 25)) w7.heap.size t7.f):=aB (aD w7 _)
       have T8:=aB (T7.out.kept K8)
       clear c0 c1 c2 c3 c4 c5 m0 m1
       generalize (w7.alloc (.cells #[.int .i64 t7.f.k,.int .i64 t7.f.n,.int .i64 t7.f.mn,.int .i64 t7.f.mx,.slice t7.f.rq t7.f.rs.length t7.f.rc,.slice t7.f.kq t7.f.kl t7.f.kc] 25))=w8 at K8 S8 N8 T8 ⊢
       obtain⟨c0,c1,c2,c3,c4,c5⟩:=S8.out.box.six
       simp only [a7] at c1 c2 c3 c4 c5
       obtain⟨n0,n1,n2,n3,n4,n5⟩:=N8.out.six
       simp only [a7] at n1 n2 n3 n4 n5
       have fz:=fun z=>aJ S8.out.box z
       obtain⟨h91,h92⟩:=S8.out.step HNO.out HOO.out T8.out F7.out E7.out (by omega) hrb lz9
       unfold bH at h91
       have S9:=aB h91
       clear h91
       go_wp2
       go_roundg z'.sz
       case measure=>omega
       case rel=>exact⟨z',t7,o5 _,S9.out⟩
     ·have e45:((9:Int) != t.f.k)=true:=by rw [<- cQ,HSI.out.ns.er,cR];simpa using (fun q=>hk q.symm)
      have HNX:=aB (show ∀ i,i<3+1->rl i z=none from fun i hi=>if hij:i<3 then HNO.out i hij else by have:i=3:=(by omega);subst this;exact gY (by unfold rk;simpa using hk))
      clear SC hk
      go_wp2
      go_roundg 3
      case measure=>omega
      case rel=>exact⟨4,rfl,rfl,HNX.out,S1.out⟩
    ·subst hj4
     have l0:wr.cell? ⟨rb,8,none⟩=some (.int .i64 5):=aA HSI.out.rul (i:=8) rfl
     have l1:wr.cell? ⟨rb,9,none⟩=some (.func (.func 46) #[] #[]):=aA HSI.out.rul (i:=9) rfl
     have K1:Below wr.heap.size wr (wr.alloc (.cells #[.int .i64 5,.func (.func 46) #[] #[]] 91)):=bz9
     have S1:=aB (HSI.out.kept K1)
     have M1:=aB (aD wr (.cells #[.int .i64 5,.func (.func 46) #[] #[]] 91))
     have SC:Hid (∀ V,Below wr.heap.size wr V->z.kd=5->Calls Tryz.prog 46 #[.agg #[.int .i64 t.f.k,.int .i64 t.f.n,.int .i64 t.f.mn,.int .i64 t.f.mx,.slice t.f.rq t.f.rs.length t.f.rc,.slice t.f.kq t.f.kl t.f.kc]] V (RSays (bz+1) V ((rl 4 z).map te))):=aB fun V hV hk=>qU HSI.out.ns (HSI.out.kept hV).ta (aC (HSI.out.kept hV).res) hk
     go_upto_region 10 with fail
     generalize (wr.alloc (.cells #[.int .i64 5,.func (.func 46) #[] #[]] 91))=V1 at K1 S1 M1 ⊢
     clear l0 l1
     obtain⟨c0,c1,c2,c3,c4,c5⟩:=S1.out.box.six
     simp only [a7] at c1 c2 c3 c4 c5
     have m0:=aA M1.out (i:=0) rfl
     have m1:=aA M1.out (i:=1) rfl
     by_cases hk:z.kd=5
     ·have e45:((5:Int) != t.f.k)=false:=by rw [<- cQ,HSI.out.ns.er,cR,hk];rfl
      have SC1:=SC.out V1 K1 hk
      clear SC hk
      cases ho:rl 4 z with
      | none=>
       rw [ho] at SC1
       have SD:=aB (SC1.mono fun e w' q=>q.no)
       have HNX:=aB (show ∀ i,i<4+1->rl i z=none from fun i hi=>if hij:i<4 then HNO.out i hij else by have:i=4:=(by omega);subst this;exact ho)
       clear SC1 ho
       go_wp2_with (go_at_call 46;(with_reducible refine SD.out.mono ?_);rintro e w7 ⟨f7,rfl,h72⟩;have S7:=aB ((S1.out.kept h72).kept ((Below.refl _ _).alloc lz9 (.cells #[.int .i64 f7.k,.int .i64 f7.n,.int .i64 f7.mn,.int .i64 f7.mx,.slice f7.rq f7.rs.length f7.rc,.slice f7.kq f7.kl f7.kc] 25)));clear h72)
       go_roundg 2
       case measure=>omega
       case rel=>exact⟨5,rfl,rfl,HNX.out,S7.out⟩
      | some z'=>
       rw [ho] at SC1
       have SD:=aB (SC1.mono fun e w' q=>q.yes)
       have HOO:=aB ho
       clear SC1 ho
       go_upto_region 13 with (go_at_call 46;(with_reducible refine SD.out.mono ?_);rintro e w7 ⟨t7,rfl,h72,h73,h74,h75⟩;have B7:=aB h72;have T7:=aB h73;have F7:=aB h74;have E7:=aB h75;clear h72 h73 h74 h75)
       have K8:Below w7.heap.size w7 (w7.alloc (.cells #[.int .i64 t7.f.k,.int .i64 t7.f.n,.int .i64 t7.f.mn,.int .i64 t7.f.mx,.slice t7.f.rq t7.f.rs.length t7.f.rc,.slice t7.f.kq t7.f.kl t7.f.kc] 25)):=bz9
       have S8:=aB ((S1.out.kept B7.out).kept K8)
       have N8:Hid (BoxN (w7.alloc (.cells #[.int .i64 t7.f.k,.int .i64 t7.f.n,.int .i64 t7.f.mn,.int .i64 t7.f.mx,.slice t7.f.rq t7.f.rs.length t7.f.rc,.slice t7.f.kq t7.f.kl t7.f.kc] 25)) w7.heap.size t7.f):=aB (aD w7 _)
       have T8:=aB (T7.out.kept K8)
       clear c0 c1 c2 c3 c4 c5 m0 m1
       generalize (w7.alloc (.cells #[.int .i64 t7.f.k,.int .i64 t7.f.n,.int .i64 t7.f.mn,.int .i64 t7.f.mx,.slice t7.f.rq t7.f.rs.length t7.f.rc,.slice t7.f.kq t7.f.kl t7.f.kc] 25))=w8 at K8 S8 N8 T8 ⊢
       obtain⟨c0,c1,c2,c3,c4,c5⟩:=S8.out.box.six
       simp only [a7] at c1 c2 c3 c4 c5
       obtain⟨n0,n1,n2,n3,n4,n5⟩:=N8.out.six
       simp only [a7] at n1 n2 n3 n4 n5
       have fz:=fun z=>aJ S8.out.box z
       obtain⟨h91,h92⟩:=S8.out.step HNO.out HOO.out T8.out F7.out E7.out (by omega) hrb lz9
       unfold bH at h91
       have S9:=aB h91
       clear h91
       go_wp2
       go_roundg z'.sz
       case measure=>omega
       case rel=>exact⟨z',t7,o5 _,S9.out⟩
     ·have e45:((5:Int) != t.f.k)=true:=by rw [<- cQ,HSI.out.ns.er,cR];simpa using (fun q=>hk q.symm)
      have HNX:=aB (show ∀ i,i<4+1->rl i z=none from fun i hi=>if hij:i<4 then HNO.out i hij else by have:i=4:=(by omega);subst this;exact gY (by unfold rk;simpa using hk))
      clear SC hk
      go_wp2
      go_roundg 2
      case measure=>omega
      case rel=>exact⟨5,rfl,rfl,HNX.out,S1.out⟩
    ·subst hj5
     have l0:wr.cell? ⟨rb,10,none⟩=some (.int .i64 6):=aA HSI.out.rul (i:=10) rfl
     have l1:wr.cell? ⟨rb,11,none⟩=some (.func (.func 47) #[] #[]):=aA HSI.out.rul (i:=11) rfl
     have K1:Below wr.heap.size wr (wr.alloc (.cells #[.int .i64 6,.func (.func 47) #[] #[]] 91)):=bz9
     have S1:=aB (HSI.out.kept K1)
     have M1:=aB (aD wr (.cells #[.int .i64 6,.func (.func 47) #[] #[]] 91))
     have SC:Hid (∀ V,Below wr.heap.size wr V->z.kd=6->Calls Tryz.prog 47 #[.agg #[.int .i64 t.f.k,.int .i64 t.f.n,.int .i64 t.f.mn,.int .i64 t.f.mx,.slice t.f.rq t.f.rs.length t.f.rc,.slice t.f.kq t.f.kl t.f.kc]] V (RSays (bz+1) V ((rl 5 z).map te))):=aB fun V hV hk=>wE HSI.out.ns (HSI.out.kept hV).ta (aC (HSI.out.kept hV).res) hk
     go_upto_region 10 with fail
     generalize (wr.alloc (.cells #[.int .i64 6,.func (.func 47) #[] #[]] 91))=V1 at K1 S1 M1 ⊢
     clear l0 l1
     obtain⟨c0,c1,c2,c3,c4,c5⟩:=S1.out.box.six
     simp only [a7] at c1 c2 c3 c4 c5
     have m0:=aA M1.out (i:=0) rfl
     have m1:=aA M1.out (i:=1) rfl
     by_cases hk:z.kd=6
     ·have e45:((6:Int) != t.f.k)=false:=by rw [<- cQ,HSI.out.ns.er,cR,hk];rfl
      have SC1:=SC.out V1 K1 hk
      clear SC hk
      cases ho:rl 5 z with
      | none=>
       rw [ho] at SC1
       have SD:=aB (SC1.mono fun e w' q=>q.no)
       have HNX:=aB (show ∀ i,i<5+1->rl i z=none from fun i hi=>if hij:i<5 then HNO.out i hij else by have:i=5:=(by omega);subst this;exact ho)
       clear SC1 ho
       go_wp2_with (go_at_call 47;(with_reducible refine SD.out.mono ?_);rintro e w7 ⟨f7,rfl,h72⟩;have S7:=aB ((S1.out.kept h72).kept ((Below.refl _ _).alloc lz9 (.cells #[.int .i64 f7.k,.int .i64 f7.n,.int .i64 f7.mn,.int .i64 f7.mx,.slice f7.rq f7.rs.length f7.rc,.slice f7.kq f7.kl f7.kc] 25)));clear h72)
       go_roundg 1
       case measure=>omega
       case rel=>exact⟨6,rfl,rfl,HNX.out,S7.out⟩
      | some z'=>
       rw [ho] at SC1
       have SD:=aB (SC1.mono fun e w' q=>q.yes)
       have HOO:=aB ho
       clear SC1 ho
       go_upto_region 13 with (go_at_call 47;(with_reducible refine SD.out.mono ?_);rintro e w7 ⟨t7,rfl,h72,h73,h74,h75⟩;have B7:=aB h72;have T7:=aB h73;have F7:=aB h74;have E7:=aB h75;clear h72 h73 h74 h75)
       have K8:Below w7.heap.size w7 (w7.alloc (.cells #[.int .i64 t7.f.k,.int .i64 t7.f.n,.int .i64 t7.f.mn,.int .i64 t7.f.mx,.slice t7.f.rq t7.f.rs.length t7.f.rc,.slice t7.f.kq t7.f.kl t7.f.kc] 25)):=bz9
       have S8:=aB ((S1.out.kept B7.out).kept K8)
       have N8:Hid (BoxN (w7.alloc (.cells #[.int .i64 t7.f.k,.int .i64 t7.f.n,.int .i64 t7.f.mn,.int .i64 t7.f.mx,.slice t7.f.rq t7.f.rs.length t7.f.rc,.slice t7.f.kq t7.f.kl t7.f.kc] 25)) w7.heap.size t7.f):=aB (aD w7 _)
       have T8:=aB (T7.out.kept K8)
       clear c0 c1 c2 c3 c4 c5 m0 m1
       generalize (w7.alloc (.cells #[.int .i64 t7.f.k,.int .i64 t7.f.n,.int .i64 t7.f.mn,.int .i64 t7.f.mx,.slice t7.f.rq t7.f.rs.length t7.f.rc,.slice t7.f.kq t7.f.kl t7.f.kc] 25))=w8 at K8 S8 N8 T8 ⊢
       obtain⟨c0,c1,c2,c3,c4,c5⟩:=S8.out.box.six
       simp only [a7] at c1 c2 c3 c4 c5
       obtain⟨n0,n1,n2,n3,n4,n5⟩:=N8.out.six
       simp only [a7] at n1 n2 n3 n4 n5
       have fz:=fun z=>aJ S8.out.box z
       obtain⟨h91,h92⟩:=S8.out.step HNO.out HOO.out T8.out F7.out E7.out (by omega) hrb lz9
       unfold bH at h91
       have S9:=aB h91
       clear h91
       go_wp2
       go_roundg z'.sz
       case measure=>omega
       case rel=>exact⟨z',t7,o5 _,S9.out⟩
     ·have e45:((6:Int) != t.f.k)=true:=by rw [<- cQ,HSI.out.ns.er,cR];simpa using (fun q=>hk q.symm)
      have HNX:=aB (show ∀ i,i<5+1->rl i z=none from fun i hi=>if hij:i<5 then HNO.out i hij else by have:i=5:=(by omega);subst this;exact gY (by unfold rk;simpa using hk))
      clear SC hk
      go_wp2
      go_roundg 1
      case measure=>omega
      case rel=>exact⟨6,rfl,rfl,HNX.out,S1.out⟩
    ·subst hj6
     have l0:wr.cell? ⟨rb,12,none⟩=some (.int .i64 6):=aA HSI.out.rul (i:=12) rfl
     have l1:wr.cell? ⟨rb,13,none⟩=some (.func (.func 48) #[] #[]):=aA HSI.out.rul (i:=13) rfl
     have K1:Below wr.heap.size wr (wr.alloc (.cells #[.int .i64 6,.func (.func 48) #[] #[]] 91)):=bz9
     have S1:=aB (HSI.out.kept K1)
     have M1:=aB (aD wr (.cells #[.int .i64 6,.func (.func 48) #[] #[]] 91))
     have SC:Hid (∀ V,Below wr.heap.size wr V->z.kd=6->Calls Tryz.prog 48 #[.agg #[.int .i64 t.f.k,.int .i64 t.f.n,.int .i64 t.f.mn,.int .i64 t.f.mx,.slice t.f.rq t.f.rs.length t.f.rc,.slice t.f.kq t.f.kl t.f.kc]] V (RSays (bz+1) V ((rl 6 z).map te))):=aB fun V hV hk=>sX HSI.out.ns (HSI.out.kept hV).ta (aC (HSI.out.kept hV).res) hk
     go_upto_region 10 with fail
     generalize (wr.alloc (.cells #[.int .i64 6,.func (.func 48) #[] #[]] 91))=V1 at K1 S1 M1 ⊢
     clear l0 l1
     obtain⟨c0,c1,c2,c3,c4,c5⟩:=S1.out.box.six
     simp only [a7] at c1 c2 c3 c4 c5
     have m0:=aA M1.out (i:=0) rfl
     have m1:=aA M1.out (i:=1) rfl
     by_cases hk:z.kd=6
     ·have e45:((6:Int) != t.f.k)=false:=by rw [<- cQ,HSI.out.ns.er,cR,hk];rfl
      have SC1:=SC.out V1 K1 hk
      clear SC hk
      cases ho:rl 6 z with
      | none=>
       rw [ho] at SC1
       have SD:=aB (SC1.mono fun e w' q=>q.no)
       have HNX:=aB (show ∀ i,i<6+1->rl i z=none from fun i hi=>if hij:i<6 then HNO.out i hij else by have:i=6:=(by omega);subst this;exact ho)
       clear SC1 ho
       go_wp2_with (go_at_call 48;(with_reducible refine SD.out.mono ?_);rintro e w7 ⟨f7,rfl,h72⟩;have S7:=aB ((S1.out.kept h72).kept ((Below.refl _ _).alloc lz9 (.cells #[.int .i64 f7.k,.int .i64 f7.n,.int .i64 f7.mn,.int .i64 f7.mx,.slice f7.rq f7.rs.length f7.rc,.slice f7.kq f7.kl f7.kc] 25)));clear h72)
       go_roundg 0
       case measure=>omega
       case rel=>exact⟨7,rfl,rfl,HNX.out,S7.out⟩
      | some z'=>
       rw [ho] at SC1
       have SD:=aB (SC1.mono fun e w' q=>q.yes)
       have HOO:=aB ho
       clear SC1 ho
       go_upto_region 13 with (go_at_call 48;(with_reducible refine SD.out.mono ?_);rintro e w7 ⟨t7,rfl,h72,h73,h74,h75⟩;have B7:=aB h72;have T7:=aB h73;have F7:=aB h74;have E7:=aB h75;clear h72 h73 h74 h75)
       have K8:Below w7.heap.size w7 (w7.alloc (.cells #[.int .i64 t7.f.k,.int .i64 t7.f.n,.int .i64 t7.f.mn,.int .i64 t7.f.mx,.slice t7.f.rq t7.f.rs.length t7.f.rc,.slice t7.f.kq t7.f.kl t7.f.kc] 25)):=bz9
       have S8:=aB ((S1.out.kept B7.out).kept K8)
       have N8:Hid (BoxN (w7.alloc (.cells #[.int .i64 t7.f.k,.int .i64 t7.f.n,.int .i64 t7.f.mn,.int .i64 t7.f.mx,.slice t7.f.rq t7.f.rs.length t7.f.rc,.slice t7.f.kq t7.f.kl t7.f.kc] 25)) w7.heap.size t7.f):=aB (aD w7 _)
       have T8:=aB (T7.out.kept K8)
       clear c0 c1 c2 c3 c4 c5 m0 m1
       generalize (w7.alloc (.cells #[.int .i64 t7.f.k,.int .i64 t7.f.n,.int .i64 t7.f.mn,.int .i64 t7.f.mx,.slice t7.f.rq t7.f.rs.length t7.f.rc,.slice t7.f.kq t7.f.kl t7.f.kc] 25))=w8 at K8 S8 N8 T8 ⊢
       obtain⟨c0,c1,c2,c3,c4,c5⟩:=S8.out.box.six
       simp only [a7] at c1 c2 c3 c4 c5
       obtain⟨n0,n1,n2,n3,n4,n5⟩:=N8.out.six
       simp only [a7] at n1 n2 n3 n4 n5
       have fz:=fun z=>aJ S8.out.box z
       obtain⟨h91,h92⟩:=S8.out.step HNO.out HOO.out T8.out F7.out E7.out (by omega) hrb lz9
       unfold bH at h91
       have S9:=aB h91
       clear h91
       go_wp2
       go_roundg z'.sz
       case measure=>omega
       case rel=>exact⟨z',t7,o5 _,S9.out⟩
     ·have e45:((6:Int) != t.f.k)=true:=by rw [<- cQ,HSI.out.ns.er,cR];simpa using (fun q=>hk q.symm)
      have HNX:=aB (show ∀ i,i<6+1->rl i z=none from fun i hi=>if hij:i<6 then HNO.out i hij else by have:i=6:=(by omega);subst this;exact gY (by unfold rk;simpa using hk))
      clear SC hk
      go_wp2
      go_roundg 0
      case measure=>omega
      case rel=>exact⟨7,rfl,rfl,HNX.out,S1.out⟩
    ·subst hj7
     have hz:z=FIN:=by rw [<- HSI.out.fin,yO unC HSI.out.ns.nd (aH2 HNO.out)]
     have E9:=aB (show er t=te FIN by rw [<- hz];exact HSI.out.ns.er)
     have P9:=aB (cE wr bz 0 t.f)
     have X9:=aB (cJ (b:=bz) (o:=0) (f:=⟨0,0,0,0,[],none,0,none,0,0⟩) (g:=t.f) ⟨aA HSI.out.res (i:=0) rfl,aA HSI.out.res (i:=1) rfl,aA HSI.out.res (i:=2) rfl,aA HSI.out.res (i:=3) rfl,aA HSI.out.res (i:=4) rfl,aA HSI.out.res (i:=5) rfl⟩)
     unfold bH at P9 X9
     obtain⟨c0,c1,c2,c3,c4,c5⟩:=HSI.out.box.six
     simp only [a7] at c1 c2 c3 c4 c5
     have r0:=aA HSI.out.res (i:=0) rfl
     have r1:=aA HSI.out.res (i:=1) rfl
     have r2:=aA HSI.out.res (i:=2) rfl
     have r3:=aA HSI.out.res (i:=3) rfl
     have r4:=aA HSI.out.res (i:=4) rfl
     have r5:=aA HSI.out.res (i:=5) rfl
     have fz:=fun z=>aJ HSI.out.res z
     clear hz
     go_wp2
     try rw [Exit.noGoto_ret]
     refine mZ X9.out rfl rfl ?_
     exact⟨t,rfl,HSI.out.ta.ckN HSI.out.ft (P9.out.ckeep (fun k e z=>by omega)),HSI.out.ft.mono (fun k hk=>by omega),E9.out,aX HSI.out.bel P9.out lz9 (fun k e=>by omega)⟩
end
section
attribute [local go_sem] Oper.semAt_some
theorem aG9(w:World):Calls Tryz.prog 23 #[] w fun e w'=>∃ rb,e=.returned (.slice (some ⟨rb,0,none⟩) 7 7)/\RL w' rb/\Below w.heap.size w w':=by
 go_enter Tryz.func23,Tryz.ntmps23
 go_wp2
 go_ret
 exact⟨w.heap.size,rfl,aD w _,bz9⟩
theorem kN{R:Ending->World->Prop}{a:Act}{W:World}{b:Nat}{f:Fl}{e:Int}(h:Six W b 0 f)(ha:a.tmps[4]?.getD undef=.pointer (some ⟨b,0,none⟩))(he:a.tmps[5]?.getD undef=.int .i64 e)(hd:a.defers=[])(hR:R (.returned (.tuple #[.agg #[.int .i64 f.k,.int .i64 f.n,.int .i64 f.mn,.int .i64 f.mx,.slice f.rq f.rs.length f.rc,.slice f.kq f.kl f.kc],.int .i64 e])) W):bodyPost Tryz.prog Tryz.f7 R .ret a W:=by
 obtain⟨z0,z1,z2,z3,z4,z5⟩:=h
 simp only [a7] at z1 z2 z3 z4 z5
 refine bodyPost_ret (v:=.tuple #[.agg #[.int .i64 f.k,.int .i64 f.n,.int .i64 f.mn,.int .i64 f.mx,.slice f.rq f.rs.length f.rc,.slice f.kq f.kl f.kc],.int .i64 e]) ?_ hd hR
 simp [results,Tryz.results7,go_sem,ha,he,z0,z1,z2,z3,z4,z5]
structure Sm3(w:World)(f:Fl)(c o:Bool)(W:World):Prop where
 bel:Below w.heap.size w W
 box:BoxN W w.heap.size f
 mode:W.heap[w.heap.size+1]?=some (.cells #[.bool c,.bool o] 27 (0,0))
 res:W.heap[w.heap.size+2]?=some (.cells #[.int .i64 0,.int .i64 0,.int .i64 0,.int .i64 0,.slice none 0 0,.slice none 0 0] 25 (0,0))
theorem Sm3.new(w:World)(f:Fl)(c o:Bool):Sm3 w f c o (((w.alloc (.cells #[.int .i64 f.k,.int .i64 f.n,.int .i64 f.mn,.int .i64 f.mx,.slice f.rq f.rs.length f.rc,.slice f.kq f.kl f.kc] 25)).alloc (.cells #[.bool c,.bool o] 27)).alloc (.cells #[.int .i64 0,.int .i64 0,.int .i64 0,.int .i64 0,.slice none 0 0,.slice none 0 0] 25)):=by
 refine⟨((bz9).alloc (by simp) _).alloc (by simp;omega) _,?_,?_,?_⟩
 ·exact(Below.heap_alloc _ _ _ (by simp;omega)).trans ((Below.heap_alloc _ _ _ (by simp)).trans (aD w _))
 ·have:=aD (w.alloc (.cells #[.int .i64 f.k,.int .i64 f.n,.int .i64 f.mn,.int .i64 f.mx,.slice f.rq f.rs.length f.rc,.slice f.kq f.kl f.kc] 25)) (.cells #[.bool c,.bool o] 27)
  rw [m8] at this
  exact(Below.heap_alloc _ _ _ (by simp)).trans this
 ·have:=aD ((w.alloc (.cells #[.int .i64 f.k,.int .i64 f.n,.int .i64 f.mn,.int .i64 f.mx,.slice f.rq f.rs.length f.rc,.slice f.kq f.kl f.kc] 25)).alloc (.cells #[.bool c,.bool o] 27)) (.cells #[.int .i64 0,.int .i64 0,.int .i64 0,.int .i64 0,.slice none 0 0,.slice none 0 0] 25)
  rwa [m8,m8] at this
theorem Sm3.kept{w W W':World}{f:Fl}{c o:Bool}(h:Sm3 w f c o W)(hb:Below W.heap.size W W'):Sm3 w f c o W':=
 ⟨aF h.bel hb lz9,(hb.block _ (aC h.box)).trans h.box,(hb.block _ (aC h.mode)).trans h.mode,(hb.block _ (aC h.res)).trans h.res⟩
theorem pE{w:World}{t:Tr}(c o:Bool)(hta:TB w t)(hr:aV c o 0 0 (pp [] t)≠0):Calls Tryz.prog 7 #[.agg #[.int .i64 t.f.k,.int .i64 t.f.n,.int .i64 t.f.mn,.int .i64 t.f.mx,.slice t.f.rq t.f.rs.length t.f.rc,.slice t.f.kq t.f.kl t.f.kc],.agg #[.bool c,.bool o]] w fun e w'=>e=.returned (.tuple #[.agg #[.int .i64 0,.int .i64 0,.int .i64 0,.int .i64 0,.slice none 0 0,.slice none 0 0],.int .i64 (aV c o 0 0 (pp [] t))])/\Below w.heap.size w w':=by
 have S0:=aB (Sm3.new w t.f c o)
 have RC:=aB (fun V (hV:Below w.heap.size w V)=>qW c o (hta.kept hV))
 obtain⟨R,hR⟩:∃ R,aV c o 0 0 (pp [] t)=R:=⟨_,rfl⟩
 rw [hR] at RC hr ⊢
 have hr1:(R != 0)=true:=by simpa using hr
 clear hta hR hr
 go_enter Tryz.func7,Tryz.ntmps7
 go_upto_region 1 with fail
 generalize (((w.alloc (.cells #[.int .i64 t.f.k,.int .i64 t.f.n,.int .i64 t.f.mn,.int .i64 t.f.mx,.slice t.f.rq t.f.rs.length t.f.rc,.slice t.f.kq t.f.kl t.f.kc] 25)).alloc (.cells #[.bool c,.bool o] 27)).alloc (.cells #[.int .i64 0,.int .i64 0,.int .i64 0,.int .i64 0,.slice none 0 0,.slice none 0 0] 25))=W at S0 ⊢
 obtain⟨c0,c1,c2,c3,c4,c5⟩:=S0.out.box.six
 simp only [a7] at c1 c2 c3 c4 c5
 have m0:=aA S0.out.mode (i:=0) rfl
 have m1:=aA S0.out.mode (i:=1) rfl
 have RD:=aB (RC.out W S0.out.bel)
 clear RC
 go_wp2_with (go_at_call 21;(with_reducible refine RD.out.mono ?_);rintro e w5 ⟨rfl,h5⟩;have S5:=aB (S0.out.kept h5);clear h5;have r0:=aA S5.out.res (i:=0) rfl;have r1:=aA S5.out.res (i:=1) rfl;have r2:=aA S5.out.res (i:=2) rfl;have r3:=aA S5.out.res (i:=3) rfl;have r4:=aA S5.out.res (i:=4) rfl;have r5:=aA S5.out.res (i:=5) rfl;have fz:=fun z=>aJ S5.out.res z;have E0:=aB (kO S5.out.bel S5.out.res (by omega)))
 exact kN E0.out.1 rfl rfl rfl ⟨rfl,E0.out.2⟩
theorem dT{w:World}{t:Tr}{x:Ps}{c o:Bool}(hta:TB w t)(he:er t=te x)(hx:PsOK c o x):Calls Tryz.prog 7 #[.agg #[.int .i64 t.f.k,.int .i64 t.f.n,.int .i64 t.f.mn,.int .i64 t.f.mx,.slice t.f.rq t.f.rs.length t.f.rc,.slice t.f.kq t.f.kl t.f.kc],.agg #[.bool c,.bool o]] w fun e w'=>∃ t':Tr,e=.returned (.tuple #[.agg #[.int .i64 t'.f.k,.int .i64 t'.f.n,.int .i64 t'.f.mn,.int .i64 t'.f.mx,.slice t'.f.rq t'.f.rs.length t'.f.rc,.slice t'.f.kq t'.f.kl t'.f.kc],.int .i64 0])/\TA w' t'/\Foot (fun k=>w.heap.size<=k) t'/\er t'=te (sim unC x)/\Below w.heap.size w w':=by
 have S0:=aB (Sm3.new w t.f c o)
 have RC:Hid (∀ V,Below w.heap.size w V->Calls Tryz.prog 21 #[.agg #[.int .i64 t.f.k,.int .i64 t.f.n,.int .i64 t.f.mn,.int .i64 t.f.mx,.slice t.f.rq t.f.rs.length t.f.rc,.slice t.f.kq t.f.kl t.f.kc],.agg #[.bool c,.bool o]] V fun e w'=>e=.returned (.int .i64 0)/\Below V.heap.size V w'):=aB fun V hV=>(qW c o (hta.kept hV)).mono fun e w' ⟨h1,h2⟩=>⟨by rw [h1,hx.right he],h2⟩
 have SC:Hid (∀ V rb,Below w.heap.size w V->RL V rb->Calls Tryz.prog 22 #[.agg #[.int .i64 t.f.k,.int .i64 t.f.n,.int .i64 t.f.mn,.int .i64 t.f.mx,.slice t.f.rq t.f.rs.length t.f.rc,.slice t.f.kq t.f.kl t.f.kc],.slice (some ⟨rb,0,none⟩) 7 7] V (iV V (te (sim unC x)))):=aB fun V rb hV hR=>pF c o rb t.sz t x V lz9 (hta.kept hV) he hx.wf hx.sg hx.sz hR
 obtain⟨X,hX⟩:∃ X,te (sim unC x)=X:=⟨_,rfl⟩
 rw [hX] at SC ⊢
 clear hta he hx hX
 go_enter Tryz.func7,Tryz.ntmps7
 go_upto_region 1 with fail
 generalize (((w.alloc (.cells #[.int .i64 t.f.k,.int .i64 t.f.n,.int .i64 t.f.mn,.int .i64 t.f.mx,.slice t.f.rq t.f.rs.length t.f.rc,.slice t.f.kq t.f.kl t.f.kc] 25)).alloc (.cells #[.bool c,.bool o] 27)).alloc (.cells #[.int .i64 0,.int .i64 0,.int .i64 0,.int .i64 0,.slice none 0 0,.slice none 0 0] 25))=W at S0 ⊢
 obtain⟨c0,c1,c2,c3,c4,c5⟩:=S0.out.box.six
 simp only [a7] at c1 c2 c3 c4 c5
 have m0:=aA S0.out.mode (i:=0) rfl
 have m1:=aA S0.out.mode (i:=1) rfl
 have RD:=aB (RC.out W S0.out.bel)
 clear RC
 go_upto_region 4 with (go_at_call 21;(with_reducible refine RD.out.mono ?_);rintro e w5 ⟨rfl,h5⟩;have S5:=aB (S0.out.kept h5);clear h5)
 clear c0 c1 c2 c3 c4 c5 m0 m1 RD
 obtain⟨c0,c1,c2,c3,c4,c5⟩:=S5.out.box.six
 simp only [a7] at c1 c2 c3 c4 c5
 have RU:=aB (fun V=>aG9 V)
 first | go_region_with (first |(go_at_call 22;(with_reducible refine(SC.out _ _ S6.out.bel L6.out).mono ?_);rintro e w7 ⟨t7,rfl,h71,h72,h73,h74⟩;have S7:=aB (S6.out.kept h74);have T7:=aB h71;have F7:=aB h72;have E7:=aB h73;clear h71 h72 h73 h74;have r0:=aA S7.out.res (i:=0) rfl;have r1:=aA S7.out.res (i:=1) rfl;have r2:=aA S7.out.res (i:=2) rfl;have r3:=aA S7.out.res (i:=3) rfl;have r4:=aA S7.out.res (i:=4) rfl;have r5:=aA S7.out.res (i:=5) rfl;have fz:=fun z=>aJ S7.out.res z) |(go_at_call 23;(with_reducible refine(RU.out _).mono ?_);rintro e w6 ⟨rb,rfl,h61,h62⟩;have S6:=aB (S5.out.kept ((Below.refl w5.heap.size w5).drew.trans h62));have L6:=aB h61;clear h61 h62;have d0:=S6.out.box.six.1;have d1:=S6.out.box.six.2.1;have d2:=S6.out.box.six.2.2.1;have d3:=S6.out.box.six.2.2.2.1;have d4:=S6.out.box.six.2.2.2.2.1;have d5:=S6.out.box.six.2.2.2.2.2;simp only [a7] at d1 d2 d3 d4 d5)) | fail
 all_goals go_wp2
 all_goals have E0:=aB (mE t7 S7.out.bel S7.out.res (by omega) T7.out (F7.out.mono fun k hk=>j2 (aC S6.out.res) hk))
 all_goals exact kN E0.out.1 rfl rfl rfl ⟨t7,rfl,E0.out.2.2,F7.out.mono (fun k hk=>j4 S6.out.bel.size hk),E7.out,E0.out.2.1⟩
end
def chP(c:Int):Ps:=.lf 2 0 [(c,c)]
theorem yJ(c:Int):te (chP c)=.mk 2 0 0 0 [(c,c)] []:=by unfold chP;rw [te]
theorem rU{a b:Int}(h:a<=b):Cls [(a,b)]:=⟨fun r hr=>by simp at hr;subst hr;exact h,by simp⟩
theorem wC{a b:Int}(h:a<=b)(h0:0<=a)(h1:b<=255):jR false false [(a,b)]:=by
 refine⟨⟨rU h,fS (by omega),fun c=>⟨fun q=>⟨q,?_⟩,fun q=>q.1⟩⟩,fun q=>by cases q⟩
 rw [dN] at q
 exact⟨by omega,by unfold top;simp;omega,fun z=>by cases z⟩
theorem zA{c:Int}(h0:0<=c)(h1:c<=255):dD false false (.lf 2 0 [(c,c)]):=⟨fun _=>⟨wC (s6 _) h0 h1,rfl⟩,fun h=>absurd rfl h,fun h=>absurd h (by decide),fun _=>rfl⟩
theorem yA(c:Int):wf (chP c):=by unfold chP;rw [wf];exact .inl rfl
def x1P:Ps:=.rep 1 1 (chP 97)
def stP:Ps:=.rep 0 (-1) (chP 97)
def x2P:Ps:=.rep 0 (-1) stP
def x3P:Ps:=.alt [chP 97,chP 98,chP 97]
theorem aU4:PsOK false false x1P:=by
 refine⟨by unfold x1P;rw [wf];exact⟨rfl,yA 97⟩,?_,?_,?_,?_⟩
 ·intro s hs
  simp [x1P,chP,pfl] at hs
  rcases hs with rfl | rfl
  ·exact zA (by decide) (by decide)
  ·show eW 1 1=true;decide
 ·simp [x1P,chP,pfl,hk]
 ·simp [x1P,chP,Ps.dp]
 ·simp [x1P,chP,Ps.sz]
theorem aU3:PsOK false false x2P:=by
 refine⟨by unfold x2P stP;rw [wf];exact⟨rfl,by rw [wf];exact⟨rfl,yA 97⟩⟩,?_,?_,?_,?_⟩
 ·intro s hs
  simp [x2P,stP,chP,pfl] at hs
  rcases hs with rfl | rfl
  ·exact zA (by decide) (by decide)
  ·show eW 0 (-1)=true;decide
 ·simp [x2P,stP,chP,pfl,hk]
 ·simp [x2P,stP,chP,Ps.dp]
 ·simp [x2P,stP,chP,Ps.sz]
theorem aU2:PsOK false false x3P:=by
 refine⟨by unfold x3P;rw [wf];exact⟨by simp,by intro x hx;simp at hx;rcases hx with rfl | rfl | rfl <;> rfl,(cT _).2 (by intro x hx;simp at hx;rcases hx with rfl | rfl | rfl <;> exact yA _)⟩,?_,?_,?_,?_⟩
 ·intro s hs
  simp [x3P,chP,pfl,jW,dX] at hs
  rcases hs with rfl | rfl | rfl | rfl | rfl <;> first | exact zA (by decide) (by decide) | trivial
 ·simp [x3P,chP,pfl,jW,dX,hk]
 ·simp [x3P,chP,Ps.dp,fU]
 ·simp [x3P,chP,Ps.sz,bR]
theorem pH(c:Int):sim unC (chP c)=chP c:=by unfold chP;rw [sim]
theorem aP0:sim unC x1P=chP 97:=by
 unfold x1P
 rw [sim,pH]
 unfold gC
 rw [if_pos ⟨rfl,rfl⟩]
theorem aP1:sim unC stP=stP:=by
 unfold stP
 rw [sim,pH]
 unfold gC
 rw [if_neg (by decide),if_neg (by rintro ⟨-,-,h⟩;cases h),if_neg (by rintro ⟨h,-⟩;cases h),if_neg (by intro h;cases h)]
theorem aO9:sim unC x2P=stP:=by
 unfold x2P
 rw [sim,aP1]
 unfold gC
 rw [if_neg (by decide),if_pos ⟨rfl,rfl,rfl⟩]
theorem aT7:unC [(97,97),(98,98),(97,97)]=[(97,98)]:=by
 refine jY _ _ (oZ _) (rU (by decide)) fun c=>?_
 rw [mN,bF,bF,dN,dN]
 simp only
 omega
theorem aO8:sim unC x3P=.lf 2 0 [(97,98)]:=by
 unfold x3P
 rw [sim,bI,bI,bI,bI,pH,pH]
 unfold iK bB
 have hf:[chP 97,chP 98,chP 97].filter isS=[chP 97,chP 98,chP 97]:=rfl
 rw [hf,if_pos (by simp)]
 have hu:[chP 97,chP 98,chP 97].flatMap rsP=[(97,97),(98,98),(97,97)]:=rfl
 rw [hu,aT7]
 have hs:bT [(97,98)] false [chP 97,chP 98,chP 97]=[.lf 2 0 [(97,98)]]:=rfl
 rw [hs,aT,if_neg (by simp),aT]
 rfl
theorem aK9{t:Tr}(h:er t=.mk 5 0 0 0 [] [.mk 2 0 0 0 [(97,97)] []]):aV false false 0 0 (pp [] t)=50:=by
 obtain⟨k1,n1,m1,x1,r1,l1⟩:=hU h
 obtain⟨a,e1,ha⟩:=pV l1
 have hp:∃ rest,pp [] t=([],t) :: rest:=by rw [cD];exact⟨_,rfl⟩
 obtain⟨rest,hp⟩:=hp
 rw [hp]
 simp [aV,bN,bL,cG,aP,dL,k1,n1,m1,x1,r1,e1]
theorem aR6{W:World}{g:Nat}{us:List Tr}(h:W.heap[g]?=some (.cells (aQ us).toArray 25 (0,0))):KR W g us:=by
 refine⟨⟨_,h⟩,fun i t hi=>?_⟩
 have key:∀ (j:Nat) (u:Value),j<6->t.f.cells[j]?=some u->W.cell? ⟨g,i*6+j,none⟩=some u:=fun j u hj hu=>by
  refine aA h (i:=i*6+j) ?_
  have:=iC us i j t hi hj
  rw [List.getElem?_toArray,this,hu]
 exact⟨key 0 _ (by omega) rfl,key 1 _ (by omega) rfl,key 2 _ (by omega) rfl,key 3 _ (by omega) rfl,key 4 _ (by omega) rfl,key 5 _ (by omega) rfl⟩
theorem yK{W:World}{g:Nat}{us:List Tr}(k n mn mx:Int)(h:W.heap[g]?=some (.cells (aQ us).toArray 25 (0,0)))(hu:∀ u∈us,TB W u)(hl:us.length<=1000):TB W (.mk ⟨k,n,mn,mx,[],none,0,some ⟨g,0,none⟩,us.length,us.length⟩ us):=
 (aL _).2 ⟨⟨.inl ⟨none,0,rfl,rfl,fun _=>rfl⟩,(aR6 h).arg lz9 (by show us.length<=maxLen;unfold maxLen;omega),(fun r hr=>by cases hr),by simp [Tr.f]⟩,(aO _).2 hu⟩
abbrev Zl:=El×Nat
def arP:Way->Int | []=>0 |(par,_) :: _=>par.f.k
def fiP:Way->Bool | []=>true |(_,i) :: _=>(i:Int)==0
def laP:Way->Bool | []=>true |(par,i) :: _=>(i:Int)==(par.ks.length:Int)-1
def brP:Way->Bool | []=>true |(par,_) :: r=>if par.f.k=7\/par.f.k=6 then true else if par.f.k=5 then brP r else false
def zc(z:Zl):List Value:=z.1.2.f.cells++[.int .i64 ((z.1.1.length:Int)+1),.int .i64 (arP z.1.1),.bool (fiP z.1.1),.bool (laP z.1.1),.bool (brP z.1.1),.int .i64 (z.2:Int)]
theorem iH(z:Zl):(zc z).length=12:=by simp [zc,Fl.cells]
def cV(l:List Zl):List Value:=l.flatMap zc
theorem dW(z:Zl)(l:List Zl):cV (z :: l)=zc z++cV l:=by simp [cV]
theorem oC(a b:List Zl):cV (a++b)=cV a++cV b:=by simp [cV]
theorem iB:∀ (l:List Zl) (i j:Nat) (z:Zl),l[i]?=some z->j<12->(cV l)[i*12+j]?=(zc z)[j]?
 | y :: l,0,j,z,h,hj=>by
  simp at h
  subst h
  rw [dW,Nat.zero_mul,a7,r6 (by rw [iH];exact hj)]
 | y :: l,i+1,j,z,h,hj=>by
  have ih:=iB l i j z (by simpa using h) hj
  rw [dW,o0 (by rw [iH];omega),<- ih,iH]
  congr 1
  omega
theorem jZ:∀ (l:List Zl) (i:Nat) (x:El) (a b:Nat),l[i]?=some (x,a)->(cV l).set (i*12+11) (.int .i64 (b:Int))=cV (l.set i (x,b))
 | y :: l,0,x,a,b,h=>by
  simp at h
  subst h
  rw [i4,dW,dW,Nat.zero_mul,a7,List.set_append_left _ _ (by rw [iH];omega)]
  congr 1
 | y :: l,i+1,x,a,b,h=>by
  have ih:=jZ l i x a b (by simpa using h)
  rw [i8,dW,dW,List.set_append_right _ _ (by rw [iH];omega),<- ih,iH]
  congr 2
  omega
def tl(most:Nat):Nat->List El->List Zl
 | _,[]=>[]
 | k,x :: r=>(x,min (k+x.2.sz) most) :: tl most (k+1) r
theorem lK(most:Nat):∀ (a b:List El) (k:Nat),tl most k (a++b)=tl most k a++tl most (k+a.length) b
 | [],b,k=>rfl
 | x :: a,b,k=>by
  rw [l7,tl,tl,lK most a b (k+1),l7,i9]
  congr 3
  omega
theorem fZ(most:Nat):∀ (a:List El) (k:Nat),(tl most k a).length=a.length
 | [],k=>rfl
 | x :: a,k=>by rw [tl,i9,fZ most a,i9]
theorem yG(most:Nat):∀ (a:List El) (k:Nat),(tl most k a).map (·.1)=a
 | [],k=>rfl
 | x :: a,k=>by rw [tl,l8,yG most a]
def jK(most:Nat)(E:List Zl)(x:El):List Zl:=E++(tl most E.length (pp x.1 x.2)).take (most-E.length)
def cB(most:Nat)(E:List Zl)(p:Way)(t:Tr)(j:Nat):List Zl:=E++(((p,t),0) :: tl most (E.length+1) (pps t p 0 (t.ks.take j))).take (most-E.length)
theorem rG{most:Nat}{E:List Zl}{p:Way}{t:Tr}(h:E.length<most):cB most E p t 0=E++[((p,t),0)]:=by
 unfold cB
 rw [List.take_zero,aY]
 congr 1
 rw [show most-E.length=(most-E.length-1)+1 by omega,aAD]
 simp [tl]
theorem kV{most:Nat}{E:List Zl}{p:Way}{t:Tr}{j:Nat}(h:E.length<most):E.length<(cB most E p t j).length/\(cB most E p t j).length<=most/\(cB most E p t j).length=E.length+min (most-E.length) (1+(pps t p 0 (t.ks.take j)).length):=by
 have:(cB most E p t j).length=E.length+min (most-E.length) (1+(pps t p 0 (t.ks.take j)).length):=by
  unfold cB
  rw [j3,o9,i9,fZ]
  congr 2
  omega
 refine⟨?_,?_,this⟩
 ·rw [this];omega
 ·rw [this];omega
theorem jF{most:Nat}{E:List Zl}{p:Way}{t:Tr}{j:Nat}(h:E.length<most):(cB most E p t j)[E.length]?=some ((p,t),0):=by
 unfold cB
 rw [o0 lz9,u1,show most-E.length=(most-E.length-1)+1 by omega,aAD]
 rfl
theorem sR(most:Nat)(E:List Zl)(z:Zl)(A B:List El)(hf:E.length+(1+A.length)<most) :
  (E++(z :: tl most (E.length+1) A))++(tl most (E.length+(1+A.length)) B).take (most-(E.length+(1+A.length)))=E++(z :: tl most (E.length+1) (A++B)).take (most-E.length):=by
 rw [lK,j7,<- l7]
 congr 1
 have hl:(z :: tl most (E.length+1) A).length=1+A.length:=by rw [i9,fZ];omega
 have h1:((z :: tl most (E.length+1) A)++tl most (E.length+1+A.length) B).take (most-E.length)=(z :: tl most (E.length+1) A)++(tl most (E.length+1+A.length) B).take (most-E.length-(1+A.length)):=by
  rw [List.take_append,j5 (by rw [hl];omega),hl]
 rw [h1,show E.length+1+A.length=E.length+(1+A.length) by omega,show most-E.length-(1+A.length)=most-(E.length+(1+A.length)) by omega]
theorem jE{most:Nat}{E:List Zl}{p:Way}{t u:Tr}{j:Nat}(h:E.length<most)(hu:t.ks[j]?=some u)(hl:(cB most E p t j).length<most):jK most (cB most E p t j) ((t,j) :: p,u)=cB most E p t (j+1):=by
 have hlen:=(kV (p:=p) (t:=t) (j:=j) h).2.2
 have e1:cB most E p t j=E++(((p,t),0) :: tl most (E.length+1) (pps t p 0 (t.ks.take j))):=by
  unfold cB
  rw [j5 (by rw [i9,fZ];omega)]
 have hfull:(cB most E p t j).length=E.length+(1+(pps t p 0 (t.ks.take j)).length):=by omega
 have e2:cB most E p t (j+1)=E++(((p,t),0) :: tl most (E.length+1) (pps t p 0 (t.ks.take j)++pp ((t,j) :: p) u)).take (most-E.length):=by
  unfold cB
  rw [nD hu]
 rw [e2]
 unfold jK
 rw [hfull,<- sR most E _ _ _ (by omega),<- e1]
theorem wZ{most:Nat}{E:List Zl}{p:Way}{t:Tr}{j:Nat}(h:E.length<most)(hl:¬ (cB most E p t j).length<most):cB most E p t j=cB most E p t t.ks.length:=by
 have hlen:=kV (p:=p) (t:=t) (j:=j) h
 have hbig:most-E.length<=1+(pps t p 0 (t.ks.take j)).length:=by omega
 unfold cB
 congr 1
 have hp:pps t p 0 (t.ks.take j) <+: pps t p 0 (t.ks.take t.ks.length):=by
  rw [aAB]
  exact uQ j
 obtain⟨r,hr⟩:=hp
 rw [<- hr,lK,<- l7,List.take_append_of_le_length (by rw [i9,fZ];omega)]
theorem kW{most:Nat}{E:List Zl}{p:Way}{t:Tr}(h:E.length<most):(cB most E p t t.ks.length).set E.length ((p,t),(cB most E p t t.ks.length).length)=jK most E (p,t):=by
 have hlen:=(kV (p:=p) (t:=t) (j:=t.ks.length) h).2.2
 have hsz:1+(pps t p 0 (t.ks.take t.ks.length)).length=t.sz:=by
  have:=cL t p
  rw [cD,i9] at this
  rw [aAB]
  omega
 rw [hlen,hsz]
 unfold cB jK
 rw [List.set_append_right _ _ lz9,u1,show most-E.length=(most-E.length-1)+1 by omega,aAD,i4]
 congr 1
 show _=(tl most E.length (pp p t)).take _
 rw [cD,tl,aAD,aAB]
 congr 2
 show _=min (E.length+t.sz) most
 omega
end Go.Proofs.YtlamifbjklpdbaaGreat
