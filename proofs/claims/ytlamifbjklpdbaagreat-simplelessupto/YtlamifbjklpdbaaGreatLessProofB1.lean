/-
  Parts of the proof.
-/
import Derived.Test.YtlamifbjklpdbaaGreatLessProofA0
import Derived.Test.YtlamifbjklpdbaaGreatLessProofB0
set_option linter.unusedSimpArgs false
set_option maxRecDepth 100000
set_option maxHeartbeats 8000000
namespace Go.Proofs.YtlamifbjklpdbaaGreat
open Go Go.RowKit
def iV(w:World)(x:Er)(e:Ending)(w':World):Prop:=∃ t',e=.returned (.agg #[.int .i64 t'.f.k,.int .i64 t'.f.n,.int .i64 t'.f.mn,.int .i64 t'.f.mx,.slice t'.f.rq t'.f.rs.length t'.f.rc,.slice t'.f.kq t'.f.kl t'.f.kc])/\TA w' t'/\Foot (fun k=>w.heap.size<=k) t'/\er t'=x/\Below w.heap.size w w'
theorem nB{R:Ending->World->Prop}{a:Act}{W:World}{b:Nat}{f:Fl}(h:Six W b 0 f)(ha:a.tmps[2]?.getD undef=.pointer (some ⟨b,0,none⟩))(hd:a.defers=[])(hR:R (.returned (.agg #[.int .i64 f.k,.int .i64 f.n,.int .i64 f.mn,.int .i64 f.mx,.slice f.rq f.rs.length f.rc,.slice f.kq f.kl f.kc])) W):bodyPost Tryz.prog Tryz.f99 R .ret a W:=by
 obtain⟨z0,z1,z2,z3,z4,z5⟩:=h
 simp only [a7] at z1 z2 z3 z4 z5
 refine bodyPost_ret (v:=.agg #[.int .i64 f.k,.int .i64 f.n,.int .i64 f.mn,.int .i64 f.mx,.slice f.rq f.rs.length f.rc,.slice f.kq f.kl f.kc]) ?_ hd hR
 simp [results,Tryz.results99,go_sem,ha,z0,z1,z2,z3,z4,z5]
structure CpS(w:World)(s0 b bz g:Nat)(f:Fl)(nk old:List Tr)(W:World):Prop where
 box:BoxN W b f
 res:W.heap[bz]?=some (.cells #[.int .i64 0,.int .i64 0,.int .i64 0,.int .i64 0,.slice none 0 0,.slice none 0 0] 25 (0,0))
 rr:RR s0 W (.slice f.rq f.rs.length f.rc) f.rs
 bel:Below w.heap.size w W
 row:KR W g (nk++old)
 new:∀ u∈nk,TA W u/\Foot (fun k=>g<k) u
theorem CpS.kept{w W W':World}{s0 b bz g:Nat}{f:Fl}{nk old:List Tr}(h:CpS w s0 b bz g f nk old W)(hb:Below W.heap.size W W'):CpS w s0 b bz g f nk old W':=
 ⟨(hb.block _ (aC h.box)).trans h.box,(hb.block _ (aC h.res)).trans h.res,h.rr.kept hb,aF h.bel hb lz9,h.row.kept hb,fun u hu=>⟨(h.new u hu).1.kept hb,(h.new u hu).2⟩⟩
theorem CpS.next{w W:World}{s0 b bz g j:Nat}{f:Fl}{nk old:List Tr}{t:Tr}(h:CpS w s0 b bz g f nk old W)(hj:nk.length=j)(ho:old≠[])(hb:b≠g)(hz:bz≠g)(hwg:w.heap.size<=g)(ht:TA W t)(hf:Foot (fun k=>g<k) t) :
  CpS w s0 b bz g f (nk++[t]) old.tail (bH W g (j*6) t.f):=by
 have F:=cE W g (j*6) t.f
 have hl:j<(nk++old).length:=by
  rw [j3]
  cases old with
  | nil=>exact absurd rfl ho
  | cons x r=>simp;omega
 obtain⟨cur,hcur⟩:=h.row.blk
 have K:CKeep (fun k=>g<k) W (bH W g (j*6) t.f):=F.ckeep (fun k e z=>by omega)
 refine⟨(F.block _ (aC h.box) hb).trans h.box,(F.block _ (aC h.res) hz).trans h.res,h.rr.fr F (fun k hk e=>?_),aX h.bel F lz9 (fun k e=>by omega),?_,fun u hu=>?_⟩
 ·subst e
  exact dF h.rr hcur (by decide) hk
 ·have:=h.row.set hl t
  cases old with
  | nil=>exact absurd rfl ho
  | cons x r=>
   rw [List.set_append_right _ _ (by omega),hj,u1,i4] at this
   rw [j7]
   exact this
 ·rcases j6.1 hu with q | q
  ·exact⟨(h.new u q).1.ckN (h.new u q).2 K,(h.new u q).2⟩
  ·simp at q
   subst q
   exact⟨ht.ckN hf K,hf⟩
theorem CpS.tree{w W:World}{s0 b bz g:Nat}{f:Fl}{nk:List Tr}(h:CpS w s0 b bz g f nk [] W)(hq:f.kq=some ⟨g,0,none⟩)(hl:f.kl=nk.length)(hc:nk.length<=f.kc)(hm:f.kc<=maxLen)(hF:Fit f.rs)(hn:f.rs.length+3<=8796093022208) :
  TA W (.mk f nk):=by
 refine(aL _).2 ⟨⟨h.rr.arg,?_,hF,hn,NO.rows h.rr (fun a e _=>by rw [hq] at e;cases e;exact h.row.blk)⟩,(aO _).2 fun u hu=>(h.new u hu).1⟩
 have:=h.row
 rw [l9] at this
 have:=this.arg hc hm
 show ArgK W (.slice f.kq f.kl f.kc) nk
 rw [hq,hl]
 exact this
theorem CpS.foot{w W:World}{s0 b bz g m:Nat}{f:Fl}{nk:List Tr}(h:CpS w s0 b bz g f nk [] W)(hq:f.kq=some ⟨g,0,none⟩)(h1:m<=s0)(h2:m<=g):Foot (fun k=>m<=k) (.mk f nk):=by
 refine(aL _).2 ⟨⟨fun a e hz=>?_,fun a e hz=>?_⟩,(aO _).2 fun u hu=>(h.new u hu).2.mono (fun k hk=>by omega)⟩
 ·have e':f.rq=some a:=e
  have:=(aG h.rr (g:=a.block) (by rw [e'];rfl)).1
  omega
 ·have e':f.kq=some a:=e
  rw [hq] at e'
  cases e'
  exact h2
theorem aD0:∀ (m:Nat) (t:Tr) (w:World),t.sz<=m->t.sz<=1000000->TA w t->Calls Tryz.prog 99 #[.agg #[.int .i64 t.f.k,.int .i64 t.f.n,.int .i64 t.f.mn,.int .i64 t.f.mx,.slice t.f.rq t.f.rs.length t.f.rc,.slice t.f.kq t.f.kl t.f.kc]] w (iV w (er t)):=by
 intro m
 induction m with
 | zero=>intro t w hm;exact absurd (dM t) (by omega)
 | succ m ih=>
  intro t w hm hsz hta
  have IH:=aB ih
  have HM:=aB hm
  have HTA:=aB hta
  have hkl:=hta.node.kl
  have hkn:t.ks.length<=1000000:=by
   have:∀ l:List Tr,l.length<=szs l:=by
    intro l
    induction l with
    | nil=>simp
    | cons x l ih=>rw [bK,i9];have:=dM x;omega
   have:=this t.ks
   rw [dY] at hsz
   omega
  have B0:Hid (Below w.heap.size w ((w.alloc (.cells #[.int .i64 t.f.k,.int .i64 t.f.n,.int .i64 t.f.mn,.int .i64 t.f.mx,.slice t.f.rq t.f.rs.length t.f.rc,.slice t.f.kq t.f.kl t.f.kc] 25)).alloc (.cells #[.int .i64 0,.int .i64 0,.int .i64 0,.int .i64 0,.slice none 0 0,.slice none 0 0] 25))):=(bz9).alloc (by simp) _
  have N0:Hid (BoxN ((w.alloc (.cells #[.int .i64 t.f.k,.int .i64 t.f.n,.int .i64 t.f.mn,.int .i64 t.f.mx,.slice t.f.rq t.f.rs.length t.f.rc,.slice t.f.kq t.f.kl t.f.kc] 25)).alloc (.cells #[.int .i64 0,.int .i64 0,.int .i64 0,.int .i64 0,.slice none 0 0,.slice none 0 0] 25)) w.heap.size t.f):=(Below.heap_alloc _ _ _ (by simp)).trans (aD w _)
  have R0:Hid (((w.alloc (.cells #[.int .i64 t.f.k,.int .i64 t.f.n,.int .i64 t.f.mn,.int .i64 t.f.mx,.slice t.f.rq t.f.rs.length t.f.rc,.slice t.f.kq t.f.kl t.f.kc] 25)).alloc (.cells #[.int .i64 0,.int .i64 0,.int .i64 0,.int .i64 0,.slice none 0 0,.slice none 0 0] 25)).heap[w.heap.size+1]?=some (.cells #[.int .i64 0,.int .i64 0,.int .i64 0,.int .i64 0,.slice none 0 0,.slice none 0 0] 25 (0,0))):=(by
   have:=aD (w.alloc (.cells #[.int .i64 t.f.k,.int .i64 t.f.n,.int .i64 t.f.mn,.int .i64 t.f.mx,.slice t.f.rq t.f.rs.length t.f.rc,.slice t.f.kq t.f.kl t.f.kc] 25)) (.cells #[.int .i64 0,.int .i64 0,.int .i64 0,.int .i64 0,.slice none 0 0,.slice none 0 0] 25)
   rwa [m8] at this)
  obtain⟨tf,tks⟩:=t
  obtain⟨fk,fn,fmn,fmx,frs,frq,frc,fkq,fkl,fkc⟩:=tf
  have hkl':fkl=tks.length:=hkl
  subst hkl'
  have hkn':tks.length<=1000000:=hkn
  dsimp only [Tr.f] at *
  clear ih hm hta hkl hkn
  go_enter Tryz.func99,Tryz.ntmps99
  go_upto_region 1 with fail
  generalize ((w.alloc (.cells #[.int .i64 fk,.int .i64 fn,.int .i64 fmn,.int .i64 fmx,.slice frq frs.length frc,.slice fkq tks.length fkc] 25)).alloc (.cells #[.int .i64 0,.int .i64 0,.int .i64 0,.int .i64 0,.slice none 0 0,.slice none 0 0] 25))=W0 at B0 N0 R0 ⊢
  obtain⟨bz,hbz⟩:∃ bz,w.heap.size+1=bz:=⟨_,rfl⟩
  rw [hbz] at R0 ⊢
  have LZ:=aC R0.out
  have LB:=aC N0.out
  have A0:=aB (HTA.out.kept B0.out)
  obtain⟨c0,c1,c2,c3,c4,c5⟩:=N0.out.six
  simp only [a7] at c1 c2 c3 c4 c5
  have CR:=aB (rV (w:=W0) (q:=frq) (k:=frc) (L:=frs) A0.out.node.r A0.out.node.len)
  go_upto_region 2 with (go_at_call 40;(with_reducible refine(CR.out).mono ?_);rintro e w1 ⟨q1,k1,rfl,h11,h12⟩;have X1:=aB h11;have B1:=aB h12;have N1:w1.heap[w.heap.size]?=some (.cells #[.int .i64 fk,.int .i64 fn,.int .i64 fmn,.int .i64 fmx,.slice frq frs.length frc,.slice fkq tks.length fkc] 25 (0,0)):=(h12.block _ LB).trans N0.out;have f4:=aJ N1 4;have d4:=aA N1 (i:=4) rfl;have N1':=aB (aM N1 4 (.slice q1 frs.length k1));have F1:=aB ((Fr.refl (fun z=>z=w.heap.size) w1).setCell (p:=⟨w.heap.size,4,none⟩) rfl (.slice q1 frs.length k1));clear h11 h12 N1)
  have N2:Hid ((w1.setCell ⟨w.heap.size,4,none⟩ (.slice q1 frs.length k1)).heap[w.heap.size]?=some (.cells #[.int .i64 fk,.int .i64 fn,.int .i64 fmn,.int .i64 fmx,.slice q1 frs.length k1,.slice fkq tks.length fkc] 25 (0,0))):=N1'.out
  have X2:Hid (RR W0.heap.size (w1.setCell ⟨w.heap.size,4,none⟩ (.slice q1 frs.length k1)) (.slice q1 frs.length k1) frs):=X1.out.fr F1.out (fun k hk e=>by have:=(aG X1.out hk).1;omega)
  have B2:Hid (Below w.heap.size w (w1.setCell ⟨w.heap.size,4,none⟩ (.slice q1 frs.length k1))):=aX (aF B0.out B1.out lz9) F1.out lz9 (fun k e=>by omega)
  have R2:Hid ((w1.setCell ⟨w.heap.size,4,none⟩ (.slice q1 frs.length k1)).heap[bz]?=some (.cells #[.int .i64 0,.int .i64 0,.int .i64 0,.int .i64 0,.slice none 0 0,.slice none 0 0] 25 (0,0))):=(F1.out.block _ (j2 LZ B1.out.size) (by omega)).trans ((B1.out.block _ LZ).trans R0.out)
  have S2:Hid (W0.heap.size<=(w1.setCell ⟨w.heap.size,4,none⟩ (.slice q1 frs.length k1)).heap.size):=j4 B1.out.size F1.out.size
  generalize (w1.setCell ⟨w.heap.size,4,none⟩ (.slice q1 frs.length k1))=W1 at N2 X2 B2 R2 S2 ⊢
  clear X1 B1 N1' F1 f4 d4 c0 c1 c2 c3 c4 c5 CR A0 N0 R0
  have A2:=aB (HTA.out.kept B2.out)
  have CN:=aB (rW (w:=W1) (q:=fkq) (k:=fkc) (ks:=tks) A2.out.node.k hkn')
  have c5:W1.cell? ⟨w.heap.size,5,none⟩=some (.slice fkq tks.length fkc):=aA N2.out (i:=5) rfl
  go_upto_region 3 with (go_at_call 41;(with_reducible refine(CN.out).mono ?_);rintro e w2 ⟨q2,k2,rfl,h11,h12⟩;have X1:=aB h11;have B1:=aB h12;have N1:w2.heap[w.heap.size]?=some (.cells #[.int .i64 fk,.int .i64 fn,.int .i64 fmn,.int .i64 fmx,.slice q1 frs.length k1,.slice fkq tks.length fkc] 25 (0,0)):=(h12.block _ (aC N2.out)).trans N2.out;have f4:=aJ N1 5;have d4:=aA N1 (i:=5) rfl;have N1':=aB (aM N1 5 (.slice q2 tks.length k2));have F1:=aB ((Fr.refl (fun z=>z=w.heap.size) w2).setCell (p:=⟨w.heap.size,5,none⟩) rfl (.slice q2 tks.length k2));clear h11 h12 N1)
  have N3:Hid ((w2.setCell ⟨w.heap.size,5,none⟩ (.slice q2 tks.length k2)).heap[w.heap.size]?=some (.cells #[.int .i64 fk,.int .i64 fn,.int .i64 fmn,.int .i64 fmx,.slice q1 frs.length k1,.slice q2 tks.length k2] 25 (0,0))):=N1'.out
  have X3:Hid (RR W0.heap.size (w2.setCell ⟨w.heap.size,5,none⟩ (.slice q2 tks.length k2)) (.slice q1 frs.length k1) frs):=(X2.out.kept B1.out).fr F1.out (fun k hk e=>by have:=(aG X2.out hk).1;omega)
  have B3:Hid (Below w.heap.size w (w2.setCell ⟨w.heap.size,5,none⟩ (.slice q2 tks.length k2))):=aX (aF B2.out B1.out lz9) F1.out lz9 (fun k e=>by omega)
  have R3:Hid ((w2.setCell ⟨w.heap.size,5,none⟩ (.slice q2 tks.length k2)).heap[bz]?=some (.cells #[.int .i64 0,.int .i64 0,.int .i64 0,.int .i64 0,.slice none 0 0,.slice none 0 0] 25 (0,0))):=(F1.out.block _ (j2 (aC R2.out) B1.out.size) (by omega)).trans ((B1.out.block _ (aC R2.out)).trans R2.out)
  have Y3:Hid ((w2.setCell ⟨w.heap.size,5,none⟩ (.slice q2 tks.length k2)).ownsRow W1.heap.size 25 6 (.slice q2 tks.length k2) tks.length (aQ tks)):=aK X1.out F1.out (fun k hk e=>by have:=(aG X1.out hk).1;have:=aC N2.out;omega)
  generalize (w2.setCell ⟨w.heap.size,5,none⟩ (.slice q2 tks.length k2))=W3 at N3 X3 B3 R3 Y3 ⊢
  clear X1 B1 N1' F1 f4 d4 c5 CN A2 X2 B2 R2
  have c5:W3.cell? ⟨w.heap.size,5,none⟩=some (.slice q2 tks.length k2):=aA N3.out (i:=5) rfl
  have hs0:w.heap.size<=W0.heap.size/\W0.heap.size<=W1.heap.size:=⟨B0.out.size,S2.out⟩
  rcases Y3.out.2 with⟨e,hn0⟩ | ⟨g,cap,cur,e,hg1,hg2,hg3,hg4,hg5,hg6⟩
  ·injection e with e1 _ e3
   subst e1 e3
   obtain rfl:=n8 hn0
   have T9:TA W3 (.mk ⟨fk,fn,fmn,fmx,frs,q1,k1,none,0,0⟩ []):=(aL _).2 ⟨⟨X3.out.arg,.inl ⟨none,0,rfl,rfl,fun _=>rfl⟩,HTA.out.node.fit,HTA.out.node.len,NO.rows X3.out (fun a e _=>by cases e)⟩,(aO _).2 fun u hu=>by cases hu⟩
   have FF:∀ m,m<=W0.heap.size->Foot (fun k=>m<=k) (.mk ⟨fk,fn,fmn,fmx,frs,q1,k1,none,0,0⟩ []):=fun m hm=>(aL _).2 ⟨⟨fun a e hz=>by
    have e':q1=some a:=e
    have:=(aG X3.out (g:=a.block) (by rw [e'];rfl)).1
    omega,fun a e hz=>absurd rfl hz⟩,(aO _).2 fun u hu=>by cases hu⟩
   have HT9:=aB T9
   have HF9:=aB (FF w.heap.size hs0.1)
   have HFZ:=aB (FF (bz+1) LZ)
   obtain⟨n0,n1,n2,n3,n4,n5⟩:=(show BoxN W3 w.heap.size ⟨fk,fn,fmn,fmx,frs,q1,k1,none,0,0⟩ from N3.out).six
   simp only [a7] at n1 n2 n3 n4 n5
   have r0:=aA R3.out (i:=0) rfl
   have r1:=aA R3.out (i:=1) rfl
   have r2:=aA R3.out (i:=2) rfl
   have r3:=aA R3.out (i:=3) rfl
   have r4:=aA R3.out (i:=4) rfl
   have r5:=aA R3.out (i:=5) rfl
   have fz:=fun z=>aJ R3.out z
   have P9:=aB (cE W3 bz 0 ⟨fk,fn,fmn,fmx,frs,q1,k1,none,0,0⟩)
   have X9:=aB (cJ (b:=bz) (o:=0) (f:=⟨0,0,0,0,[],none,0,none,0,0⟩) (g:=⟨fk,fn,fmn,fmx,frs,q1,k1,none,0,0⟩) ⟨r0,r1,r2,r3,r4,r5⟩)
   unfold bH at P9 X9
   clear T9 FF Y3
   go_wp2
   go_loopw [16] (fun i wr=>i=.int .i64 0/\wr=W3) (fun _ _=>0)
   case atStart=>exact⟨rfl,rfl⟩
   case round=>
    obtain⟨rfl,rfl⟩:=hrel
    go_wp2
    refine nB X9.out rfl rfl ?_
    refine⟨.mk ⟨fk,fn,fmn,fmx,frs,q1,k1,none,0,0⟩ [],rfl,HT9.out.ckN HFZ.out (P9.out.ckeep (fun k e z=>by omega)),HF9.out,?_,aX B3.out P9.out lz9 (fun k e=>by omega)⟩
    rw [bQ,bQ]
    rfl
  ·injection e with e1 _ e3
   subst e1 e3
   have KR3:=aB (KR.of_row Y3.out)
   have hg:W1.heap.size<=g:=hg1
   have C3:Hid (CpS w W0.heap.size w.heap.size bz g ⟨fk,fn,fmn,fmx,frs,q1,k1,some ⟨g,0,none⟩,tks.length,k2⟩ [] tks W3):=⟨N3.out,R3.out,X3.out,B3.out,KR3.out,fun u hu=>by cases hu⟩
   have HC:Hid (tks.length<=k2/\k2<=maxLen):=⟨hg3,hg4⟩
   have hbg:w.heap.size<g:=by omega
   have hzg:bz<g:=by omega
   have HLZ:=aB LZ
   clear hg1 hg2 hg3 hg4 hg5 hg6 Y3 N3 R3 X3 B3 KR3 LZ LB S2
   go_wp2
   go_loopw [16] (fun i wr=>∃ (j:Nat) (nk:List Tr),j<=tks.length/\i=.int .i64 (j:Int)/\nk.length=j/\nk.map er=(tks.take j).map er/\CpS w W0.heap.size w.heap.size bz g ⟨fk,fn,fmn,fmx,frs,q1,k1,some ⟨g,0,none⟩,tks.length,k2⟩ nk (tks.drop j) wr) (fun i _=>tks.length-(intOf i).toNat)
   case atStart=>exact⟨0,[],m7 _,rfl,rfl,rfl,C3.out⟩
   case round=>
    clear C3 c5
    obtain⟨j,nk,hj,rfl,hnk,hmap,hcs⟩:=hrel
    have HS:=aB hcs
    have HMP:=aB hmap
    have HNK:=aB hnk
    clear hcs hmap hnk
    by_cases hjl:j<tks.length
    ·have i0:(j:Int)<(tks.length:Int):=by omega
     obtain⟨u,hu⟩:∃ u,tks[j]?=some u:=⟨_,b7 hjl⟩
     have hdr:tks.drop j=u :: tks.drop (j+1):=by
      rw [u8 hjl]
      congr 1
      rw [b7 hjl] at hu
      injection hu
     have hsx:=HS.out.row.six j u (by rw [hdr,o0 (by have:=HNK.out;omega),HNK.out,u1];rfl)
     have hin:u∈tks:=i5 hu
     have hug:=HS.out.row.lt
     obtain⟨c0,c1,c2,c3,c4,c5⟩:=hsx
     have K4:Below wr.heap.size wr (wr.alloc (.cells #[.int .i64 u.f.k,.int .i64 u.f.n,.int .i64 u.f.mn,.int .i64 u.f.mx,.slice u.f.rq u.f.rs.length u.f.rc,.slice u.f.kq u.f.kl u.f.kc] 25)):=bz9
     have S4:=aB (HS.out.kept K4)
     have N4:Hid (BoxN (wr.alloc (.cells #[.int .i64 u.f.k,.int .i64 u.f.n,.int .i64 u.f.mn,.int .i64 u.f.mx,.slice u.f.rq u.f.rs.length u.f.rc,.slice u.f.kq u.f.kl u.f.kc] 25)) wr.heap.size u.f):=aD wr _
     have HU:=aB hu
     have HDR:=aB hdr
     have HIN:=aB hin
     have T4:=aB ((HTA.out.kid (u:=u) hin).kept (aF HS.out.bel K4 lz9))
     have L4:g<(wr.alloc (.cells #[.int .i64 u.f.k,.int .i64 u.f.n,.int .i64 u.f.mn,.int .i64 u.f.mx,.slice u.f.rq u.f.rs.length u.f.rc,.slice u.f.kq u.f.kl u.f.kc] 25)).heap.size:=j2 hug K4.size
     clear hu hdr hin K4
     go_upto_region 6 with fail
     generalize (wr.alloc (.cells #[.int .i64 u.f.k,.int .i64 u.f.n,.int .i64 u.f.mn,.int .i64 u.f.mx,.slice u.f.rq u.f.rs.length u.f.rc,.slice u.f.kq u.f.kl u.f.kc] 25))=W4 at S4 N4 T4 L4 ⊢
     obtain⟨n0,n1,n2,n3,n4,n5⟩:=N4.out.six
     simp only [a7] at n1 n2 n3 n4 n5
     have b5:W4.cell? ⟨w.heap.size,5,none⟩=some (.slice (some ⟨g,0,none⟩) tks.length k2):=S4.out.box.six.2.2.2.2.2
     have IH0:=IH.out u W4.drew (by have:=bW (t:=Tr.mk ⟨fk,fn,fmn,fmx,frs,frq,frc,fkq,tks.length,fkc⟩ tks) HIN.out;have:=HM.out;omega) (by have:=bW (t:=Tr.mk ⟨fk,fn,fmn,fmx,frs,frq,frc,fkq,tks.length,fkc⟩ tks) HIN.out;omega) (T4.out.kept (Below.refl _ _).drew)
     have IHU:Hid (Calls Tryz.prog 99 #[.agg #[.int .i64 u.f.k,.int .i64 u.f.n,.int .i64 u.f.mn,.int .i64 u.f.mx,.slice u.f.rq u.f.rs.length u.f.rc,.slice u.f.kq u.f.kl u.f.kc]] W4.drew fun e w5=>∃ t5:Tr,e=.returned (.agg #[.int .i64 t5.f.k,.int .i64 t5.f.n,.int .i64 t5.f.mn,.int .i64 t5.f.mx,.slice t5.f.rq t5.f.rs.length t5.f.rc,.slice t5.f.kq t5.f.kl t5.f.kc])/\CpS w W0.heap.size w.heap.size bz g ⟨fk,fn,fmn,fmx,frs,q1,k1,some ⟨g,0,none⟩,tks.length,k2⟩ nk (tks.drop j) w5/\Six w5 g (j*6) u.f/\CpS w W0.heap.size w.heap.size bz g ⟨fk,fn,fmn,fmx,frs,q1,k1,some ⟨g,0,none⟩,tks.length,k2⟩ (nk++[t5]) (tks.drop j).tail (bH w5 g (j*6) t5.f)/\er t5=er u):=IH0.mono fun e w5 ⟨t5,h50,h51,h52,h53,h54⟩=>(by
      have S5:=(S4.out.kept (Below.refl _ _).drew).kept h54
      refine⟨t5,h50,S5,S5.row.six j u (by rw [HDR.out,o0 (by have:=HNK.out;omega),HNK.out,u1];rfl),S5.next (t:=t5) HNK.out (by rw [HDR.out];simp) (by omega) (by omega) (by omega) h51 (h52.mono (fun k hk=>j2 L4 hk)),h53⟩)
     clear IH0
     go_region_with (go_at_call 99;(with_reducible refine(IHU.out).mono ?_);rintro e w5 ⟨t5,rfl,h51,h52,h53,h54⟩;obtain⟨y0,y1,y2,y3,y4,y5⟩:=h52;have S5:=aB h51;have fz:=fun z=>S5.out.row.frz z;have bb5:w5.cell? ⟨w.heap.size,5,none⟩=some (.slice (some ⟨g,0,none⟩) tks.length k2):=S5.out.box.six.2.2.2.2.2;have S6:=aB h53;have E6:=aB h54;clear h51 h53 h54)
     all_goals have HMN:=aB (show (nk++[t5]).map er=(tks.take (j+1)).map er by rw [o7,HU.out,o4,o4,HMP.out];simp [E6.out])
     all_goals have S7:=S6.out
     all_goals rw [List.tail_drop] at S7
     all_goals unfold bH at S7
     all_goals have S8:=aB S7
     all_goals clear S7
     all_goals go_wp2_with fail
     all_goals go_roundw
     all_goals first | exact⟨j+1,nk++[t5],by omega,by go_num,by rw [j3,HNK.out];rfl,HMN.out,S8.out⟩ |(simp only [intOf];omega)
    ·have i0:¬ (j:Int)<(tks.length:Int):=by omega
     have hje:j=tks.length:=by omega
     have S9:=HS.out
     rw [List.drop_eq_nil_of_le (by omega)] at S9
     have hmp:=HMP.out
     rw [j5 (by omega)] at hmp
     have hnl:=HNK.out
     have T9:=S9.tree rfl (by show tks.length=_;omega) (by have:=HC.out.1;show nk.length<=k2;omega) HC.out.2 HTA.out.node.fit HTA.out.node.len
     have F9:=S9.foot (m:=w.heap.size) rfl (by omega) (by omega)
     have FZ:=S9.foot (m:=bz+1) rfl (by have:=HLZ.out;omega) (by omega)
     have hm9:nk.map er=tks.map er:=hmp
     obtain⟨n0,n1,n2,n3,n4,n5⟩:=S9.box.six
     simp only [a7] at n1 n2 n3 n4 n5
     have H9:=aB S9
     have HT9:=aB T9
     have HF9:=aB F9
     have HFZ:=aB FZ
     have HM9:=aB hm9
     have r0:=aA S9.res (i:=0) rfl
     have r1:=aA S9.res (i:=1) rfl
     have r2:=aA S9.res (i:=2) rfl
     have r3:=aA S9.res (i:=3) rfl
     have r4:=aA S9.res (i:=4) rfl
     have r5:=aA S9.res (i:=5) rfl
     have fz:=fun z=>aJ S9.res z
     clear S9 T9 F9 FZ hm9 hmp hnl hje HS
     have P9:=aB (cE wr bz 0 ⟨fk,fn,fmn,fmx,frs,q1,k1,some ⟨g,0,none⟩,tks.length,k2⟩)
     have X9:=aB (cJ (b:=bz) (o:=0) (f:=⟨0,0,0,0,[],none,0,none,0,0⟩) (g:=⟨fk,fn,fmn,fmx,frs,q1,k1,some ⟨g,0,none⟩,tks.length,k2⟩) ⟨r0,r1,r2,r3,r4,r5⟩)
     unfold bH at P9 X9
     go_wp2
     refine nB X9.out rfl rfl ?_
     refine⟨.mk ⟨fk,fn,fmn,fmx,frs,q1,k1,some ⟨g,0,none⟩,tks.length,k2⟩ nk,rfl,HT9.out.ckN HFZ.out (P9.out.ckeep (fun k e z=>by omega)),HF9.out,?_,aX H9.out.bel P9.out lz9 (fun k e=>by omega)⟩
     rw [bQ,bQ]
     show Er.mk _ _ _ _ _ _=Er.mk _ _ _ _ _ _
     congr 1
theorem oU{w:World}{t:Tr}(h:TA w t)(hs:t.sz<=1000000):Calls Tryz.prog 99 #[.agg #[.int .i64 t.f.k,.int .i64 t.f.n,.int .i64 t.f.mn,.int .i64 t.f.mx,.slice t.f.rq t.f.rs.length t.f.rc,.slice t.f.kq t.f.kl t.f.kc]] w (iV w (er t)):=aD0 t.sz t w lz9 hs h
end Go.Proofs.YtlamifbjklpdbaaGreat
