/-
  Parts of the proof.
-/
import Derived.Test.YtliflleaeimngaaLongestProofNA0
import Derived.Test.YtliflleaeimngaaLongestProofNB6
import Derived.Deep.RegionLaw
import Derived.Test.YtliflleaeimngaaLongestProofNB2
import Derived.Test.YtliflleaeimngaaLongestProofNB4
set_option linter.unusedSimpArgs false
set_option maxRecDepth 100000
set_option maxHeartbeats 8000000
namespace Go.Proofs.Ytliflleaeimngaa
open Go Go.RowKit
section
set_option linter.unusedVariables false
attribute [local go_sem] Oper.semAt_some
def LeR(w:World)(p:Pg)(e:Ending)(w':World):Prop:=∃ g c,e=.returned (.agg #[.slice (some ⟨g,0,none⟩) p.L.length c,.int .i64 p.g,.int .i64 p.k,.bool p.f])/\w'.ownsRow w.heap.size 47 10 (.slice (some ⟨g,0,none⟩) (p.L.length+2) c) (p.L.length+2) (bM (p.L++[mkI,mkI]))/\wBl w w'
theorem rU{w:World}{p:Pg}(hp:PgI w p)(hb:p.L.length*80+160<=140737488355328)(hqc:p.q=none->p.c=0):Calls Try.prog 6 #[.agg #[.slice p.q p.L.length p.c,.int .i64 p.g,.int .i64 p.k,.bool p.f]] w (LeR w p):=by
 have B1:Hid (wBl w (wA w p)):=(bz9).alloc (by simp) _
 have X1:Hid ((wA w p).heap[w.heap.size]?=some (.cells #[.slice p.q p.L.length p.c,.int .i64 p.g,.int .i64 p.k,.bool p.f] 24 (0,0))):=(Below.heap_alloc _ _ _ (by simp)).trans (aE w _)
 have Y1:Hid ((wA w p).heap[w.heap.size+1]?=some (.cells #[.slice none 0 0,.int .i64 0,.int .i64 0,.bool false] 24 (0,0))):=aD (by have:=aE (w.alloc (.cells #[.slice p.q p.L.length p.c,.int .i64 p.g,.int .i64 p.k,.bool p.f] 24)) (.cells #[.slice none 0 0,.int .i64 0,.int .i64 0,.bool false] 24);rw [o6] at this;exact this)
 have HP:=aD (hp.kept B1.o)
 obtain⟨t0,ti,tz0,tz1,tz2⟩:=info_parts lM
 clear hp
 go_enter Try.func6,Try.ntmps6
 go_upto_region 1 with fail
 have e0:(w.alloc (.cells #[.slice p.q p.L.length p.c,.int .i64 p.g,.int .i64 p.k,.bool p.f] 24)).alloc (.cells #[.slice none 0 0,.int .i64 0,.int .i64 0,.bool false] 24)=wA w p:=rfl
 generalize (w.alloc (.cells #[.slice p.q p.L.length p.c,.int .i64 p.g,.int .i64 p.k,.bool p.f] 24)).alloc (.cells #[.slice none 0 0,.int .i64 0,.int .i64 0,.bool false] 24)=w1 at e0 ⊢
 rw [<- e0] at B1 X1 Y1 HP
 clear e0
 have l1:=aC X1.o
 have p0:w1.cell? ⟨w.heap.size,0,none⟩=some (.slice p.q p.L.length p.c):=aA X1.o (i:=0) rfl
 go_cut [3] (fun u wx=>w1.heap.size<=wx.heap.size/\wx.ownsRow w1.heap.size 47 10 u p.L.length (bM p.L)/\wBl w1 wx)
 case first=>
  obtain hq | ⟨ad,hq⟩:p.q=none\/∃ ad,p.q=some ad:=by cases p.q <;> simp
  ·have hc:=hqc hq
   have hL:p.L=[]:=by
    cases hl:p.L with
    | nil=>rfl
    | cons x r=>
     obtain⟨g,o,e,_⟩:=HP.o.li 0 x (by rw [hl];rfl)
     rw [hq] at e
     cases e
   rw [hq,hL,hc] at p0
   have OV:Hid (w1.ownsRow w1.heap.size 47 10 (.slice none 0 0) 0 []):=World.ownsRow_nil _ _ _ _
   have HL:=aD hL
   clear hq hc hL hqc
   go_wp2_with (at_builtin;refine wpList_append_own_none rfl _ _ 22 rfl w1.heap.size 47 t0 10 dO ti (.slice none 0 0) 0 [] rfl OV.o rfl ?_)
   go_meet
   exact⟨k9 _,by rw [HL.o];exact OV.o,Below.refl _ _⟩
  ·rw [hq] at p0
   have NW:Hid (∀ j u,(bM p.L)[j]?=some u->w1.cell? (ad.add j)=some u):=aD (LI.news (hq ▸ HP.o.li))
   clear hq hqc
   go_wp2_with (at_builtin;refine wpList_append_own_at _ rfl _ _ 22 rfl w1.heap.size 47 t0 (.agg #[.int .i64 0,.int .i64 0,.int .i64 0,.int .i64 0,.int .i64 0,.int .i64 0,.int .u64 0,.int .u64 0,.int .u64 0,.int .u64 0]) 10 80 dO ti tz0 tz1 tz2 rfl (by decide) (.slice none 0 0) 0 [] rfl (World.ownsRow_nil _ _ _ _) ad p.L.length p.c (bM p.L) rfl (dB _) NW.o (pD _) (by unfold maxLen;omega) (by omega) lz9 ?_;intro v6 W6 hown hgrow _ hblk)
   have HG:=aD hgrow
   have HO:=aD hown
   clear hown hgrow hblk
   go_wp2
   go_meet
   refine⟨HG.o.size,?_,(Below.refl _ _).grown HG.o lz9 (fun k hk=>by cases hk)⟩
   have:=HO.o
   rw [Nat.zero_add,List.nil_append] at this
   exact this
 case rest=>
  obtain⟨h1,h2,h3⟩:=hcut
  obtain⟨q1,c1,rfl⟩:=eY h2
  have BA:wBl wc (wc.alloc (.cells #[.int .i64 (-7),.int .i64 0,.int .i64 0,.int .i64 0,.int .i64 0,.int .i64 0,.int .u64 0,.int .u64 0,.int .u64 0,.int .u64 0] 47)):=bz9
  have B3:Hid (wBl w (wc.alloc (.cells #[.int .i64 (-7),.int .i64 0,.int .i64 0,.int .i64 0,.int .i64 0,.int .i64 0,.int .u64 0,.int .u64 0,.int .u64 0,.int .u64 0] 47))):=aD (aF (aF B1.o h3 lz9) BA lz9)
  have R3:Hid ((wc.alloc (.cells #[.int .i64 (-7),.int .i64 0,.int .i64 0,.int .i64 0,.int .i64 0,.int .i64 0,.int .u64 0,.int .u64 0,.int .u64 0,.int .u64 0] 47)).ownsRow w1.heap.size 47 10 (.slice q1 p.L.length c1) p.L.length (bM p.L)):=World.ownsRow.alloc h2 _
  have M3:Hid ((wc.alloc (.cells #[.int .i64 (-7),.int .i64 0,.int .i64 0,.int .i64 0,.int .i64 0,.int .i64 0,.int .u64 0,.int .u64 0,.int .u64 0,.int .u64 0] 47)).heap[wc.heap.size]?=some (.cells #[.int .i64 (-7),.int .i64 0,.int .i64 0,.int .i64 0,.int .i64 0,.int .i64 0,.int .u64 0,.int .u64 0,.int .u64 0,.int .u64 0] 47 (0,0))):=aE wc _
  have X3:=aD ((BA.block _ (j9 l1 h1)).trans ((h3.block _ l1).trans X1.o))
  have Y3:=aD ((BA.block _ (j9 (aC Y1.o) h1)).trans ((h3.block _ (aC Y1.o)).trans Y1.o))
  have szc:(wc.alloc (.cells #[.int .i64 (-7),.int .i64 0,.int .i64 0,.int .i64 0,.int .i64 0,.int .i64 0,.int .u64 0,.int .u64 0,.int .u64 0,.int .u64 0] 47)).heap.size=wc.heap.size+1:=by simp
  have H1:=aD h1
  clear h1 h2 h3 BA p0
  go_upto_region 3 with fail
  generalize (wc.alloc (.cells #[.int .i64 (-7),.int .i64 0,.int .i64 0,.int .i64 0,.int .i64 0,.int .i64 0,.int .u64 0,.int .u64 0,.int .u64 0,.int .u64 0] 47))=W3 at B3 R3 M3 X3 Y3 szc ⊢
  have p0:W3.cell? ⟨w.heap.size,0,none⟩=some (.slice p.q p.L.length p.c):=aA X3.o (i:=0) rfl
  have pf0:=aH X3.o 0
  have lx:=aC X3.o
  have lm:=aC M3.o
  have m0:=aA M3.o (i:=0) rfl
  have m1:=aA M3.o (i:=1) rfl
  have m2:=aA M3.o (i:=2) rfl
  have m3:=aA M3.o (i:=3) rfl
  have m4:=aA M3.o (i:=4) rfl
  have m5:=aA M3.o (i:=5) rfl
  have m6:=aA M3.o (i:=6) rfl
  have m7:=aA M3.o (i:=7) rfl
  have m8:=aA M3.o (i:=8) rfl
  have m9:=aA M3.o (i:=9) rfl
  have SZ:=aD (show w1.heap.size<=W3.heap.size by have:=H1.o;omega)
  clear szc
  have n0:(0:Int)<=(p.L.length:Int):=by omega
  go_region_law (refine eH rfl _ _ 22 rfl w1.heap.size 47 t0 (.agg #[.int .i64 0,.int .i64 0,.int .i64 0,.int .i64 0,.int .i64 0,.int .i64 0,.int .u64 0,.int .u64 0,.int .u64 0,.int .u64 0]) 10 80 dO ti tz0 tz1 tz2 rfl (by decide) (.slice q1 p.L.length c1) p.L.length (bM p.L) (by first |(simp [Act.eval];done) | simp [Act.eval,Act.put]) (World.ownsRow.drew (World.ownsRow.alloc R3.o _)) ⟨W3.heap.size,0,none⟩ 2 2 [.int .i64 (-7),.int .i64 0,.int .i64 0,.int .i64 0,.int .i64 0,.int .i64 0,.int .u64 0,.int .u64 0,.int .u64 0,.int .u64 0,.int .i64 (-7),.int .i64 0,.int .i64 0,.int .i64 0,.int .i64 0,.int .i64 0,.int .u64 0,.int .u64 0,.int .u64 0,.int .u64 0] (by first |(simp [Act.eval];done) | simp [Act.eval,Act.put]) rfl (uK W3 [.int .i64 (-7),.int .i64 0,.int .i64 0,.int .i64 0,.int .i64 0,.int .i64 0,.int .u64 0,.int .u64 0,.int .u64 0,.int .u64 0,.int .i64 (-7),.int .i64 0,.int .i64 0,.int .i64 0,.int .i64 0,.int .i64 0,.int .u64 0,.int .u64 0,.int .u64 0,.int .u64 0] _) (by simp [Value.oneCell']) (by unfold maxLen;omega) (by omega) (by have:=SZ.o;simp;omega) ?_;intro v8 W8 hown hgrow hblk;have G8:=aD hgrow;have O8:=aD hown;have X8:=aD ((hgrow.block _ (by first |(simp;omega) | simp) (fun e=>cP R3.o X3.o (by decide) e.symm)).trans ((Below.heap_alloc _ _ _ lx).trans X3.o));have z0:W8.cell? ⟨w.heap.size,0,none⟩=some (.slice p.q p.L.length p.c):=aA X8.o (i:=0) rfl;have zf:=aH X8.o 0;obtain⟨g8,c8,rfl,hc8⟩:=eL hown (by omega);have hc9:(p.L.length:Int)<=(c8:Int):=(by omega);clear hown hgrow hblk)
  all_goals
   have FT:Hid (Fr (fun z=>(Value.slice q1 p.L.length c1).ownBlock=some z\/z=w.heap.size) W3 (W8.setCell ⟨w.heap.size,0,none⟩ (.slice (some ⟨g8,0,none⟩) p.L.length c8))):=aD (Fr.setCell (S:=fun z=>(Value.slice q1 p.L.length c1).ownBlock=some z\/z=w.heap.size) ((((Fr.refl _ W3).alloc _).drew).grown G8.o (fun z hz=>.inl hz)) (p:=⟨w.heap.size,0,none⟩) (.inr rfl) _)
   have X9:Hid ((W8.setCell ⟨w.heap.size,0,none⟩ (.slice (some ⟨g8,0,none⟩) p.L.length c8)).heap[w.heap.size]?=some (.cells #[.slice (some ⟨g8,0,none⟩) p.L.length c8,.int .i64 p.g,.int .i64 p.k,.bool p.f] 24 (0,0))):=aG X8.o 0 _
   have Y9:=aD ((FT.o.block _ (aC Y3.o) (fun q=>q.elim (fun e=>cP R3.o Y3.o (by decide) e) (fun e=>by omega))).trans Y3.o)
   have O9:=aD (dF O8.o ((Fr.refl (At1 w.heap.size) W8).setCell (p:=⟨w.heap.size,0,none⟩) rfl (.slice (some ⟨g8,0,none⟩) p.L.length c8)) (fun z hz e=>cP O8.o X8.o (by decide) (by rw [hz,show z=_ from e])))
   have B9:Hid (wBl w (W8.setCell ⟨w.heap.size,0,none⟩ (.slice (some ⟨g8,0,none⟩) p.L.length c8))):=aD (B3.o.trans (FT.o.below B3.o.size (fun k hk=>hk.elim (fun e=>k6 B1.o.size (dG R3.o e).1) (fun e=>by omega))))
   clear m0 m1 m2 m3 m4 m5 m6 m7 m8 m9 p0 pf0 z0 zf
   generalize (W8.setCell ⟨w.heap.size,0,none⟩ (.slice (some ⟨g8,0,none⟩) p.L.length c8))=W9 at FT X9 Y9 O9 B9 ⊢
   have x0:=aA X9.o (i:=0) rfl
   have x1:=aA X9.o (i:=1) rfl
   have x2:=aA X9.o (i:=2) rfl
   have x3:=aA X9.o (i:=3) rfl
   have y0:=aA Y9.o (i:=0) rfl
   have y1:=aA Y9.o (i:=1) rfl
   have y2:=aA Y9.o (i:=2) rfl
   have y3:=aA Y9.o (i:=3) rfl
   have f0:=aH Y9.o 0
   have f1:=aH Y9.o 1
   have f2:=aH Y9.o 2
   have f3:=aH Y9.o 3
   go_wp2
   refine bodyPost_ret (v:=.agg #[.slice (some ⟨g8,0,none⟩) p.L.length c8,.int .i64 p.g,.int .i64 p.k,.bool p.f]) (by simp [results,Try.results6,go_sem,y0,y1,y2,y3]) rfl ⟨g8,c8,rfl,?_,?_⟩
   ·rw [dS,fX]
    exact fV (dF O9.o (kQ _ _ _ _ _ _) (fun z hz e=>cP O9.o Y9.o (by decide) (by rw [hz,show z=_ from e]))) B1.o.size
   ·exact B9.o.trans ((kQ _ _ _ _ _ _).below B9.o.size (fun k hk=>by have:k=w.heap.size+1:=hk;omega))
end
section
attribute [local go_sem] Oper.semAt_some bI
theorem fS{L M:List Ins}{j:Nat}{a b:Ins}(h:L.take j=M.take j)(ha:L[j]?=some a)(hb:M[j]?=some b)(e:a=b):L.take (j+1)=M.take (j+1):=by
 rw [List.take_add_one,List.take_add_one,h,ha,hb,e]
def smB(p q:Pg):Bool:=decide (p.L=q.L)&&p.g==q.g&&p.k==q.k&&p.f==q.f
end
section
attribute [local go_sem] Oper.semAt_some bI
theorem rC{w:World}{p q:Pg}(hp:PgI w p)(hq:PgI w q):Calls Try.prog 18 #[.agg #[.slice p.q p.L.length p.c,.int .i64 p.g,.int .i64 p.k,.bool p.f],.agg #[.slice q.q q.L.length q.c,.int .i64 q.g,.int .i64 q.k,.bool q.f]] w fun e w'=>e=.returned (.bool (smB p q))/\wBl w w':=by
 have B1:Hid (wBl w ((w.alloc (.cells #[.slice p.q p.L.length p.c,.int .i64 p.g,.int .i64 p.k,.bool p.f] 24)).alloc (.cells #[.slice q.q q.L.length q.c,.int .i64 q.g,.int .i64 q.k,.bool q.f] 24))):=(bz9).alloc (by simp) _
 have X1:Hid (((w.alloc (.cells #[.slice p.q p.L.length p.c,.int .i64 p.g,.int .i64 p.k,.bool p.f] 24)).alloc (.cells #[.slice q.q q.L.length q.c,.int .i64 q.g,.int .i64 q.k,.bool q.f] 24)).heap[w.heap.size]?=some (.cells #[.slice p.q p.L.length p.c,.int .i64 p.g,.int .i64 p.k,.bool p.f] 24 (0,0))):=(Below.heap_alloc _ _ _ (by simp)).trans (aE w _)
 have X2:Hid (((w.alloc (.cells #[.slice p.q p.L.length p.c,.int .i64 p.g,.int .i64 p.k,.bool p.f] 24)).alloc (.cells #[.slice q.q q.L.length q.c,.int .i64 q.g,.int .i64 q.k,.bool q.f] 24)).heap[w.heap.size+1]?=some (.cells #[.slice q.q q.L.length q.c,.int .i64 q.g,.int .i64 q.k,.bool q.f] 24 (0,0))):=aD (by have:=aE (w.alloc (.cells #[.slice p.q p.L.length p.c,.int .i64 p.g,.int .i64 p.k,.bool p.f] 24)) (.cells #[.slice q.q q.L.length q.c,.int .i64 q.g,.int .i64 q.k,.bool q.f] 24);simpa using this)
 have HP:=aD (hp.kept B1.o)
 have HQ:=aD (hq.kept B1.o)
 obtain⟨ans,ha⟩:∃ r,smB p q=r:=⟨_,rfl⟩
 have HA:=aD ha
 rw [ha]
 clear ha hp hq
 go_enter Try.func18,Try.ntmps18
 go_upto_region 1 with fail
 generalize ((w.alloc (.cells #[.slice p.q p.L.length p.c,.int .i64 p.g,.int .i64 p.k,.bool p.f] 24)).alloc (.cells #[.slice q.q q.L.length q.c,.int .i64 q.g,.int .i64 q.k,.bool q.f] 24))=w1 at B1 X1 X2 HP HQ ⊢
 have l1:=aC X1.o
 have l2:=aC X2.o
 have p0:w1.cell? ⟨w.heap.size,0,none⟩=some (.slice p.q p.L.length p.c):=aA X1.o (i:=0) rfl
 have p1:w1.cell? ⟨w.heap.size,1,none⟩=some (.int .i64 p.g):=aA X1.o (i:=1) rfl
 have p2:w1.cell? ⟨w.heap.size,2,none⟩=some (.int .i64 p.k):=aA X1.o (i:=2) rfl
 have p3:w1.cell? ⟨w.heap.size,3,none⟩=some (.bool p.f):=aA X1.o (i:=3) rfl
 have q0:w1.cell? ⟨w.heap.size+1,0,none⟩=some (.slice q.q q.L.length q.c):=aA X2.o (i:=0) rfl
 have q1:w1.cell? ⟨w.heap.size+1,1,none⟩=some (.int .i64 q.g):=aA X2.o (i:=1) rfl
 have q2:w1.cell? ⟨w.heap.size+1,2,none⟩=some (.int .i64 q.k):=aA X2.o (i:=2) rfl
 have q3:w1.cell? ⟨w.heap.size+1,3,none⟩=some (.bool q.f):=aA X2.o (i:=3) rfl
 have LP:=aD HP.o.len
 obtain⟨pq,pL,pc,pg,pk,pf⟩:=p
 obtain⟨qq,qL,qc,qg,qk,qf⟩:=q
 simp only at p0 p1 p2 p3 q0 q1 q2 q3 HP HQ LP HA ⊢
 by_cases hl:pL.length=qL.length
 case neg=>
  have n0:¬ ((pL.length:Nat):Int)=((qL.length:Nat):Int):=by omega
  have E:Hid (ans=false):=aD (by rw [<- HA.o];simp [smB];intro e;exact absurd (by rw [e]) hl)
  go_wp2
  go_ret
  exact⟨by rw [E.o];rfl,B1.o⟩
 by_cases hg:pg=qg
 case neg=>
  have E:Hid (ans=false):=aD (by rw [<- HA.o];simp [smB,hg])
  rw [<- hl] at q0
  go_wp2
  go_ret
  exact⟨by rw [E.o];rfl,B1.o⟩
 by_cases hk:pk=qk
 case neg=>
  have E:Hid (ans=false):=aD (by rw [<- HA.o];simp [smB,hk])
  subst hg
  rw [<- hl] at q0
  go_wp2
  go_ret
  exact⟨by rw [E.o];rfl,B1.o⟩
 by_cases hf:pf=qf
 case neg=>
  have E:Hid (ans=false):=aD (by rw [<- HA.o];simp [smB,hf])
  subst hg hk
  rw [<- hl] at q0
  cases pf <;> cases qf
  ·exact absurd rfl hf
  ·go_wp2
   go_ret
   exact⟨by rw [E.o];rfl,B1.o⟩
  ·go_wp2
   go_ret
   exact⟨by rw [E.o];rfl,B1.o⟩
  ·exact absurd rfl hf
 subst hg hk hf
 have HD:Hid (decide (pL=qL)=ans):=aD (by rw [<- HA.o];simp [smB])
 have HLN:=aD hl
 rw [<- hl] at q0
 go_wp2
 go_loopw [5] (fun i wr=>∃ j:Nat,j<=pL.length/\i=.int .i64 (j:Int)/\pL.take j=qL.take j/\wBl w1 wr) (fun i _=>pL.length-(intOf i).toNat)
 case atStart=>exact⟨0,o7 _,rfl,by simp,Below.refl _ _⟩
 case round=>
  obtain⟨j,hj,rfl,hpre,hbel⟩:=hrel
  have HPr:=aD hpre
  have HB:=aD hbel
  have y0:wr.cell? ⟨w.heap.size,0,none⟩=some (.slice pq pL.length pc):=(hbel.cell (p:=⟨w.heap.size,0,none⟩) l1).trans p0
  have z0:wr.cell? ⟨w.heap.size+1,0,none⟩=some (.slice qq pL.length qc):=(hbel.cell (p:=⟨w.heap.size+1,0,none⟩) l2).trans q0
  have m1:=j9 l1 hbel.size
  have m2:=j9 l2 hbel.size
  have hlen:=LP.o
  clear hpre hbel
  by_cases hjl:j<pL.length
  ·have i0:(j:Int)<(pL.length:Int):=by omega
   obtain⟨a9,hga⟩:∃ a,pL[j]?=some a:=⟨_,j4 hjl⟩
   obtain⟨b9,hgb⟩:∃ a,qL[j]?=some a:=⟨_,j4 (by have:=HLN.o;omega)⟩
   obtain⟨g1,o1,hq1,hl1,c0,c1,c2,c3,c4,c5,c6,c7,c8,c9⟩:=(HP.o.kept HB.o).li.ten hga
   obtain⟨g2,o2,hq2,hl2,d0,d1,d2,d3,d4,d5,d6,d7,d8,d9⟩:=(HQ.o.kept HB.o).li.ten hgb
   simp only at hq1 hq2
   have EI:=bN a9 b9
   have GA:=aD (And.intro hga hgb)
   obtain⟨sb,hsb⟩:∃ sb,decide (a9=b9)=sb:=⟨_,rfl⟩
   have HSB:=aD hsb
   rw [hsb] at EI
   rw [hq1] at y0
   rw [hq2] at z0
   clear hga hgb hsb hq1 hq2
   go_upto_region 6 with fail
   refine wx9 ?_
   repeat (go_big_quiet_step (first | exact rfl | exact EI _))
   refine wpQuiet_nil ?_
   intro w6 hw6
   have B6:=aD (aF HB.o (bS hw6) lz9)
   clear hw6 EI c0 c1 c2 c3 c4 c5 c6 c7 c8 c9 d0 d1 d2 d3 d4 d5 d6 d7 d8 d9
   cases sb with
   | false=>
    have HN:Hid (ans=false):=by
     rw [<- HD.o]
     refine j5 fun e=>of_decide_eq_false HSB.o ?_
     have h1:=GA.o.1
     rw [e,GA.o.2] at h1
     exact(Option.some.inj h1).symm
    go_wp2
    go_ret
    exact⟨by rw [HN.o];rfl,aF B1.o B6.o lz9⟩
   | true=>
    have HN:=aD (fS HPr.o GA.o.1 GA.o.2 (of_decide_eq_true HSB.o))
    go_wp2
    go_roundw
    case rel=>exact⟨j+1,by omega,by go_num,HN.o,B6.o⟩
    case measure=>simp only [intOf];omega
  ·have i0:¬ (j:Int)<(pL.length:Int):=by omega
   have HN:Hid (ans=true):=by
    rw [<- HD.o]
    refine j6 ?_
    have h1:=HPr.o
    rw [List.take_of_length_le (by omega),List.take_of_length_le (by have:=HLN.o;omega)] at h1
    exact h1
   go_wp2
   go_ret
   exact⟨by rw [HN.o];rfl,aF B1.o HB.o lz9⟩
end
section
set_option linter.unusedSimpArgs false
attribute [local go_sem] Oper.semAt_some
def usA(o:Int):List Bool:=if o=1 then [true,false,false,false,false,true] else if o=2 then [false,true,true,false,false,false] else if o=3 then [false,true,false,false,false,false] else if o=4\/o=5 then [false,false,false,false,false,true] else if o=6\/o=7\/o=8\/o=9 then [false,false,false,true,false,true] else if o=10 then [false,true,true,true,true,false] else [false,false,false,false,false,false]
def isO(o:Int):Bool:=decide (1<=o/\o<=11)
def ubV(l:List Bool):List Value:=l.map Value.bool
theorem aI(o:Int)(w:World):Calls Try.prog 42 #[.int .i64 o] w fun e w'=>e=.returned (.tuple #[.agg (ubV (usA o)).toArray,.bool (isO o)])/\wBl w w':=by
 by_cases h1:o=1
 ·subst h1
  go_enter Try.func42,Try.ntmps42
  go_wp2
  refine bodyPost_ret (v:=.tuple #[.agg #[.bool true,.bool false,.bool false,.bool false,.bool false,.bool true],.bool true]) (by simp [results,Try.results42,go_sem]) rfl ⟨rfl,bz9⟩
 by_cases h2:o=2
 ·subst h2
  go_enter Try.func42,Try.ntmps42
  go_wp2
  refine bodyPost_ret (v:=.tuple #[.agg #[.bool false,.bool true,.bool true,.bool false,.bool false,.bool false],.bool true]) (by simp [results,Try.results42,go_sem]) rfl ⟨rfl,bz9⟩
 by_cases h3:o=3
 ·subst h3
  go_enter Try.func42,Try.ntmps42
  go_wp2
  refine bodyPost_ret (v:=.tuple #[.agg #[.bool false,.bool true,.bool false,.bool false,.bool false,.bool false],.bool true]) (by simp [results,Try.results42,go_sem]) rfl ⟨rfl,bz9⟩
 by_cases h4:o=4
 ·subst h4
  go_enter Try.func42,Try.ntmps42
  go_wp2
  refine bodyPost_ret (v:=.tuple #[.agg #[.bool false,.bool false,.bool false,.bool false,.bool false,.bool true],.bool true]) (by simp [results,Try.results42,go_sem]) rfl ⟨rfl,bz9⟩
 by_cases h5:o=5
 ·subst h5
  go_enter Try.func42,Try.ntmps42
  go_wp2
  refine bodyPost_ret (v:=.tuple #[.agg #[.bool false,.bool false,.bool false,.bool false,.bool false,.bool true],.bool true]) (by simp [results,Try.results42,go_sem]) rfl ⟨rfl,bz9⟩
 by_cases h6:o=6
 ·subst h6
  go_enter Try.func42,Try.ntmps42
  go_wp2
  refine bodyPost_ret (v:=.tuple #[.agg #[.bool false,.bool false,.bool false,.bool true,.bool false,.bool true],.bool true]) (by simp [results,Try.results42,go_sem]) rfl ⟨rfl,bz9⟩
 by_cases h7:o=7
 ·subst h7
  go_enter Try.func42,Try.ntmps42
  go_wp2
  refine bodyPost_ret (v:=.tuple #[.agg #[.bool false,.bool false,.bool false,.bool true,.bool false,.bool true],.bool true]) (by simp [results,Try.results42,go_sem]) rfl ⟨rfl,bz9⟩
 by_cases h8:o=8
 ·subst h8
  go_enter Try.func42,Try.ntmps42
  go_wp2
  refine bodyPost_ret (v:=.tuple #[.agg #[.bool false,.bool false,.bool false,.bool true,.bool false,.bool true],.bool true]) (by simp [results,Try.results42,go_sem]) rfl ⟨rfl,bz9⟩
 by_cases h9:o=9
 ·subst h9
  go_enter Try.func42,Try.ntmps42
  go_wp2
  refine bodyPost_ret (v:=.tuple #[.agg #[.bool false,.bool false,.bool false,.bool true,.bool false,.bool true],.bool true]) (by simp [results,Try.results42,go_sem]) rfl ⟨rfl,bz9⟩
 by_cases h10:o=10
 ·subst h10
  go_enter Try.func42,Try.ntmps42
  go_wp2
  refine bodyPost_ret (v:=.tuple #[.agg #[.bool false,.bool true,.bool true,.bool true,.bool true,.bool false],.bool true]) (by simp [results,Try.results42,go_sem]) rfl ⟨rfl,bz9⟩
 by_cases h11:o=11
 ·subst h11
  go_enter Try.func42,Try.ntmps42
  go_wp2
  refine bodyPost_ret (v:=.tuple #[.agg #[.bool false,.bool false,.bool false,.bool false,.bool false,.bool false],.bool true]) (by simp [results,Try.results42,go_sem]) rfl ⟨rfl,bz9⟩
 have e1:(o==1)=false:=by rw [f8];exact h1
 have e2:(o==2)=false:=by rw [f8];exact h2
 have e3:(o==3)=false:=by rw [f8];exact h3
 have e4:(o==4)=false:=by rw [f8];exact h4
 have e5:(o==5)=false:=by rw [f8];exact h5
 have e6:(o==6)=false:=by rw [f8];exact h6
 have e7:(o==7)=false:=by rw [f8];exact h7
 have e8:(o==8)=false:=by rw [f8];exact h8
 have e9:(o==9)=false:=by rw [f8];exact h9
 have e10:(o==10)=false:=by rw [f8];exact h10
 have e11:(o==11)=false:=by rw [f8];exact h11
 have hu:usA o=[false,false,false,false,false,false]:=by unfold usA;rw [if_neg h1,if_neg h2,if_neg h3,if_neg (fun q=>q.elim h4 h5),if_neg (fun q=>by rcases q with q | q | q | q <;> contradiction),if_neg h10]
 have hi:isO o=false:=by unfold isO;rw [j5];omega
 rw [hu,hi]
 clear h1 h2 h3 h4 h5 h6 h7 h8 h9 h10 h11 hu hi
 go_enter Try.func42,Try.ntmps42
 go_wp2
 refine bodyPost_ret (v:=.tuple #[.agg #[.bool false,.bool false,.bool false,.bool false,.bool false,.bool false],.bool false]) (by simp [results,Try.results42,go_sem]) rfl ⟨rfl,bz9⟩
end
def fnD(p:Pg)(k:Nat)(i:Ins):Bool:=
 match usA i.op with
 | [b0,b1,b2,b3,b4,b5]=>
  let n:=if (i.op==9||i.op==10) then p.k else p.g
  !(!isO i.op ||(!b0 && !decide (i.s=0#256))) &&
  !(b1 && !(decide (0<=i.x)&&decide (i.x<p.L.length)) || !b1 && !decide (i.x=0)||b2 && !(decide (0<=i.y)&&decide (i.y<p.L.length)) || !b2 && !decide (i.y=0)) &&
  !(b3&&(decide (i.n<0)||decide (n<=i.n)) || !b3 && !decide (i.n=0)) &&
  !(!b4&&(!decide (i.mn=0) || !decide (i.mx=0))) &&
  !(b4&&(decide (i.mn<0)||decide (255<i.mn) || !decide (i.mx=-1)&&(decide (i.mx<i.mn)||decide (255<i.mx)))) &&
  (!b5||decide ((k:Int)<p.L.length-1))
 | _=>false
set_option linter.unusedSimpArgs false
theorem qJ{p:Pg}{k:Nat}{i:Ins}:fnD p k i=bL p k i:=by
 obtain⟨o,x,y,n,mn,mx,s⟩:=i
 by_cases ho:1<=o/\o<=11
 ·obtain⟨h1,h2⟩:=ho
  have:o=1\/o=2\/o=3\/o=4\/o=5\/o=6\/o=7\/o=8\/o=9\/o=10\/o=11:=by omega
  have t65:hsT 65 1=true/\hsT 65 2=false/\hsT 65 4=false/\hsT 65 8=false/\hsT 65 16=false/\hsT 65 24=false/\hsT 65 32=false/\hsT 65 64=true:=by decide
  have t6:hsT 6 1=false/\hsT 6 2=true/\hsT 6 4=true/\hsT 6 8=false/\hsT 6 16=false/\hsT 6 24=false/\hsT 6 32=false/\hsT 6 64=false:=by decide
  have t2:hsT 2 1=false/\hsT 2 2=true/\hsT 2 4=false/\hsT 2 8=false/\hsT 2 16=false/\hsT 2 24=false/\hsT 2 32=false/\hsT 2 64=false:=by decide
  have t64:hsT 64 1=false/\hsT 64 2=false/\hsT 64 4=false/\hsT 64 8=false/\hsT 64 16=false/\hsT 64 24=false/\hsT 64 32=false/\hsT 64 64=true:=by decide
  have t72:hsT 72 1=false/\hsT 72 2=false/\hsT 72 4=false/\hsT 72 8=true/\hsT 72 16=false/\hsT 72 24=true/\hsT 72 32=false/\hsT 72 64=true:=by decide
  have t80:hsT 80 1=false/\hsT 80 2=false/\hsT 80 4=false/\hsT 80 8=false/\hsT 80 16=true/\hsT 80 24=true/\hsT 80 32=false/\hsT 80 64=true:=by decide
  have t54:hsT 54 1=false/\hsT 54 2=true/\hsT 54 4=true/\hsT 54 8=false/\hsT 54 16=true/\hsT 54 24=true/\hsT 54 32=true/\hsT 54 64=false:=by decide
  have t0:hsT 0 1=false/\hsT 0 2=false/\hsT 0 4=false/\hsT 0 8=false/\hsT 0 16=false/\hsT 0 24=false/\hsT 0 32=false/\hsT 0 64=false:=by decide
  rcases this with rfl | rfl | rfl | rfl | rfl | rfl | rfl | rfl | rfl | rfl | rfl
  all_goals
   rw [Bool.eq_iff_iff]
   simp [fnD,bL,usA,isO,shW,shT,usI,blw,rbd,t65,t6,t2,t64,t72,t80,t54,t0]
   first | omega | skip
   try (generalize (s=0#256)=q;by_cases hq:q <;> simp only [hq,true_and,and_true,false_and,and_false,iff_self] <;> try omega)
 ·have hs:shW o=[]:=by
   unfold shW
   repeat' split
   all_goals first | rfl | omega
  have hi:isO o=false:=by unfold isO;rw [j5 ho]
  unfold bL fnD
  rw [hs]
  obtain⟨b0,b1,b2,b3,b4,b5,hu⟩:∃ b0 b1 b2 b3 b4 b5:Bool,usA o=[b0,b1,b2,b3,b4,b5]:=by
   unfold usA
   repeat' split
   all_goals exact⟨_,_,_,_,_,_,rfl⟩
  simp only [hu,hi]
  simp
section
set_option linter.unusedSimpArgs false
set_option linter.unusedVariables false
attribute [local go_sem] Oper.semAt_some aQ aM
theorem rQ{w:World}{p:Pg}(h:PgI w p){k:Nat}{i:Ins}(hi:p.L[k]?=some i)(hk:p.L.length<=40000)(ho:isO i.op=false)(hu:usA i.op=[false,false,false,false,false,false]):Calls Try.prog 31 #[.agg #[.slice p.q p.L.length p.c,.int .i64 p.g,.int .i64 p.k,.bool p.f],.int .i64 (k:Int)] w fun e w'=>e=.returned (.bool (fnD p k i))/\wBl w w':=by
 have HFN:=aD (show fnD p k i=false from by unfold fnD;rw [hu];simp [ho])
 have B1:Hid (wBl w (w.alloc (.cells #[.slice p.q p.L.length p.c,.int .i64 p.g,.int .i64 p.k,.bool p.f] 24))):=bz9
 have X1:Hid ((w.alloc (.cells #[.slice p.q p.L.length p.c,.int .i64 p.g,.int .i64 p.k,.bool p.f] 24)).heap[w.heap.size]?=some (.cells #[.slice p.q p.L.length p.c,.int .i64 p.g,.int .i64 p.k,.bool p.f] 24 (0,0))):=aE w _
 obtain⟨g1,o1,hq1,hl1,c0,c1,c2,c3,c4,c5,c6,c7,c8,c9⟩:=(h.li.kept B1.o).ten hi
 have hkl:=(f7.1 hi).1
 have k0:(0:Int)<=(k:Int):=by omega
 have k1:(k:Int)<(p.L.length:Int):=by omega
 have OF:=aD (aI i.op)
 rw [hu,ho] at OF
 have OF:Hid (∀ w,Calls Try.prog 42 #[.int .i64 i.op] w fun e w'=>e=.returned (.tuple #[.agg #[.bool false,.bool false,.bool false,.bool false,.bool false,.bool false],.bool false])/\wBl w w'):=OF
 rw [HFN.o]
 clear hu ho HFN
 have HQ:=aD hq1
 clear h hi hq1
 go_enter Try.func31,Try.ntmps31
 go_upto_region 1 with fail
 generalize (w.alloc (.cells #[.slice p.q p.L.length p.c,.int .i64 p.g,.int .i64 p.k,.bool p.f] 24))=w1 at B1 X1 c0 c1 c2 c3 c4 c5 c6 c7 c8 c9 ⊢
 have p0:w1.cell? ⟨w.heap.size,0,none⟩=some (.slice p.q p.L.length p.c):=aA X1.o (i:=0) rfl
 rw [HQ.o] at p0
 go_upto_region 2 with fail
 have BA:wBl w1 (w1.alloc (.cells #[.int .i64 i.op,.int .i64 i.x,.int .i64 i.y,.int .i64 i.n,.int .i64 i.mn,.int .i64 i.mx,.int .u64 (aB i.s 0),.int .u64 (aB i.s 1),.int .u64 (aB i.s 2),.int .u64 (aB i.s 3)] 47)):=bz9
 have X2:=aD ((BA.block _ (aC X1.o)).trans X1.o)
 have I2:Hid ((w1.alloc (.cells #[.int .i64 i.op,.int .i64 i.x,.int .i64 i.y,.int .i64 i.n,.int .i64 i.mn,.int .i64 i.mx,.int .u64 (aB i.s 0),.int .u64 (aB i.s 1),.int .u64 (aB i.s 2),.int .u64 (aB i.s 3)] 47)).heap[w1.heap.size]?=some (.cells #[.int .i64 i.op,.int .i64 i.x,.int .i64 i.y,.int .i64 i.n,.int .i64 i.mn,.int .i64 i.mx,.int .u64 (aB i.s 0),.int .u64 (aB i.s 1),.int .u64 (aB i.s 2),.int .u64 (aB i.s 3)] 47 (0,0))):=aE w1 _
 have B2:=aD (aF B1.o BA lz9)
 clear BA c0 c1 c2 c3 c4 c5 c6 c7 c8 c9 p0
 generalize (w1.alloc (.cells #[.int .i64 i.op,.int .i64 i.x,.int .i64 i.y,.int .i64 i.n,.int .i64 i.mn,.int .i64 i.mx,.int .u64 (aB i.s 0),.int .u64 (aB i.s 1),.int .u64 (aB i.s 2),.int .u64 (aB i.s 3)] 47))=w2 at X2 I2 B2 ⊢
 obtain⟨ib,hib⟩:∃ ib,w1.heap.size=ib:=⟨_,rfl⟩
 rw [hib] at I2 ⊢
 clear hib
 have d0:w2.cell? ⟨ib,0,none⟩=some (.int .i64 i.op):=aA I2.o (i:=0) rfl
 go_upto_region 3 with (go_at_call 42;(with_reducible refine(OF.o _).mono ?_);rintro e w3 ⟨rfl,h3⟩;have X3:=aD ((h3.block _ (aC X2.o)).trans X2.o);have I3:=aD ((h3.block _ (aC I2.o)).trans I2.o);have B3:=aD (aF B2.o h3 lz9);clear h3)
 have BA:wBl w3 (w3.alloc (.cells #[.bool false,.bool false,.bool false,.bool false,.bool false,.bool false] 84)):=bz9
 have X4:=aD ((BA.block _ (aC X3.o)).trans X3.o)
 have I4:=aD ((BA.block _ (aC I3.o)).trans I3.o)
 have U4:Hid ((w3.alloc (.cells #[.bool false,.bool false,.bool false,.bool false,.bool false,.bool false] 84)).heap[w3.heap.size]?=some (.cells #[.bool false,.bool false,.bool false,.bool false,.bool false,.bool false] 84 (0,0))):=aE w3 _
 have B4:=aD (aF B3.o BA lz9)
 clear BA X3 I3 B3 X2 I2 B2
 generalize (w3.alloc (.cells #[.bool false,.bool false,.bool false,.bool false,.bool false,.bool false] 84))=w4 at X4 I4 U4 B4 ⊢
 obtain⟨ub,hub⟩:∃ ub,w3.heap.size=ub:=⟨_,rfl⟩
 rw [hub] at U4 ⊢
 clear hub
 have p0:w4.cell? ⟨w.heap.size,0,none⟩=some (.slice p.q p.L.length p.c):=aA X4.o (i:=0) rfl
 have p1:w4.cell? ⟨w.heap.size,1,none⟩=some (.int .i64 p.g):=aA X4.o (i:=1) rfl
 have p2:w4.cell? ⟨w.heap.size,2,none⟩=some (.int .i64 p.k):=aA X4.o (i:=2) rfl
 have d0:w4.cell? ⟨ib,0,none⟩=some (.int .i64 i.op):=aA I4.o (i:=0) rfl
 have d1:w4.cell? ⟨ib,1,none⟩=some (.int .i64 i.x):=aA I4.o (i:=1) rfl
 have d2:w4.cell? ⟨ib,2,none⟩=some (.int .i64 i.y):=aA I4.o (i:=2) rfl
 have d3:w4.cell? ⟨ib,3,none⟩=some (.int .i64 i.n):=aA I4.o (i:=3) rfl
 have d4:w4.cell? ⟨ib,4,none⟩=some (.int .i64 i.mn):=aA I4.o (i:=4) rfl
 have d5:w4.cell? ⟨ib,5,none⟩=some (.int .i64 i.mx):=aA I4.o (i:=5) rfl
 have d6:w4.cell? ⟨ib,6,none⟩=some (.int .u64 (aB i.s 0)):=aA I4.o (i:=6) rfl
 have d7:w4.cell? ⟨ib,7,none⟩=some (.int .u64 (aB i.s 1)):=aA I4.o (i:=7) rfl
 have d8:w4.cell? ⟨ib,8,none⟩=some (.int .u64 (aB i.s 2)):=aA I4.o (i:=8) rfl
 have d9:w4.cell? ⟨ib,9,none⟩=some (.int .u64 (aB i.s 3)):=aA I4.o (i:=9) rfl
 have u0:w4.cell? ⟨ub,0,none⟩=some (.bool false):=aA U4.o (i:=0) rfl
 have u1:w4.cell? ⟨ub,1,none⟩=some (.bool false):=aA U4.o (i:=1) rfl
 have u2:w4.cell? ⟨ub,2,none⟩=some (.bool false):=aA U4.o (i:=2) rfl
 have u3:w4.cell? ⟨ub,3,none⟩=some (.bool false):=aA U4.o (i:=3) rfl
 have u4:w4.cell? ⟨ub,4,none⟩=some (.bool false):=aA U4.o (i:=4) rfl
 have u5:w4.cell? ⟨ub,5,none⟩=some (.bool false):=aA U4.o (i:=5) rfl
 go_wp2
 go_ret
 exact⟨rfl,B4.o⟩
end
section
set_option linter.unusedSimpArgs false
set_option linter.unusedVariables false
attribute [local go_sem] Oper.semAt_some aQ aM
theorem bK{w:World}{f:Nat}{args:Array Value}{a b:Bool}(h:Calls Try.prog f args w fun e w'=>e=.returned (.bool a)/\wBl w w')(e:b=a):Calls Try.prog f args w fun e w'=>e=.returned (.bool b)/\wBl w w':=by rw [e];exact h
theorem oQ{w:World}{p:Pg}(h:PgI w p){k:Nat}{i:Ins}(hi:p.L[k]?=some i)(hk:p.L.length<=40000)(ho:i.op=1)(hx0:0<=i.x)(hy0:0<=i.y)(hxz:i.x=0)(hyz:i.y=0)(hnz:i.n=0)(hmnz:i.mn=0)(hmxz:i.mx=0):Calls Try.prog 31 #[.agg #[.slice p.q p.L.length p.c,.int .i64 p.g,.int .i64 p.k,.bool p.f],.int .i64 (k:Int)] w fun e w'=>e=.returned (.bool (decide ((k:Int)<(p.L.length:Int)-1)))/\wBl w w':=by
 have B1:Hid (wBl w (w.alloc (.cells #[.slice p.q p.L.length p.c,.int .i64 p.g,.int .i64 p.k,.bool p.f] 24))):=bz9
 have X1:Hid ((w.alloc (.cells #[.slice p.q p.L.length p.c,.int .i64 p.g,.int .i64 p.k,.bool p.f] 24)).heap[w.heap.size]?=some (.cells #[.slice p.q p.L.length p.c,.int .i64 p.g,.int .i64 p.k,.bool p.f] 24 (0,0))):=aE w _
 obtain⟨g1,o1,hq1,hl1,c0,c1,c2,c3,c4,c5,c6,c7,c8,c9⟩:=(h.li.kept B1.o).ten hi
 have hkl:=(f7.1 hi).1
 have k0:(0:Int)<=(k:Int):=by omega
 have k1:(k:Int)<(p.L.length:Int):=by omega
 have OF:=aD (aI i.op)
 have hu:usA i.op=[true,false,false,false,false,true]:=by rw [ho];rfl
 have hiso:isO i.op=true:=by rw [ho];rfl
 rw [hu,hiso] at OF
 have OF:Hid (∀ w,Calls Try.prog 42 #[.int .i64 i.op] w fun e w'=>e=.returned (.tuple #[.agg #[.bool true,.bool false,.bool false,.bool false,.bool false,.bool true],.bool true])/\wBl w w'):=OF
 have o9:(i.op==9)=false:=by rw [ho];rfl
 have o10:(i.op==10)=false:=by rw [ho];rfl
 have wl:IntKind.wrap .i64 ((p.L.length:Int)-1)=(p.L.length:Int)-1:=by rw [IntKind.wrap_i64];omega
 have exz:(i.x==0)=true:=by rw [beq_iff_eq];exact hxz
 have fxz:(i.x != 0)=false:=by simp [hxz]
 clear hxz
 have eyz:(i.y==0)=true:=by rw [beq_iff_eq];exact hyz
 have fyz:(i.y != 0)=false:=by simp [hyz]
 clear hyz
 have enz:(i.n==0)=true:=by rw [beq_iff_eq];exact hnz
 have fnz:(i.n != 0)=false:=by simp [hnz]
 clear hnz
 have emnz:(i.mn==0)=true:=by rw [beq_iff_eq];exact hmnz
 have fmnz:(i.mn != 0)=false:=by simp [hmnz]
 clear hmnz
 have emxz:(i.mx==0)=true:=by rw [beq_iff_eq];exact hmxz
 have fmxz:(i.mx != 0)=false:=by simp [hmxz]
 clear hmxz
 clear hu hiso ho
 have HQ:=aD hq1
 clear h hi hq1
 go_enter Try.func31,Try.ntmps31
 go_upto_region 1 with fail
 generalize (w.alloc (.cells #[.slice p.q p.L.length p.c,.int .i64 p.g,.int .i64 p.k,.bool p.f] 24))=w1 at B1 X1 c0 c1 c2 c3 c4 c5 c6 c7 c8 c9 ⊢
 have p0:w1.cell? ⟨w.heap.size,0,none⟩=some (.slice p.q p.L.length p.c):=aA X1.o (i:=0) rfl
 rw [HQ.o] at p0
 go_upto_region 2 with fail
 have BA:wBl w1 (w1.alloc (.cells #[.int .i64 i.op,.int .i64 i.x,.int .i64 i.y,.int .i64 i.n,.int .i64 i.mn,.int .i64 i.mx,.int .u64 (aB i.s 0),.int .u64 (aB i.s 1),.int .u64 (aB i.s 2),.int .u64 (aB i.s 3)] 47)):=bz9
 have X2:=aD ((BA.block _ (aC X1.o)).trans X1.o)
 have I2:Hid ((w1.alloc (.cells #[.int .i64 i.op,.int .i64 i.x,.int .i64 i.y,.int .i64 i.n,.int .i64 i.mn,.int .i64 i.mx,.int .u64 (aB i.s 0),.int .u64 (aB i.s 1),.int .u64 (aB i.s 2),.int .u64 (aB i.s 3)] 47)).heap[w1.heap.size]?=some (.cells #[.int .i64 i.op,.int .i64 i.x,.int .i64 i.y,.int .i64 i.n,.int .i64 i.mn,.int .i64 i.mx,.int .u64 (aB i.s 0),.int .u64 (aB i.s 1),.int .u64 (aB i.s 2),.int .u64 (aB i.s 3)] 47 (0,0))):=aE w1 _
 have B2:=aD (aF B1.o BA lz9)
 clear BA c0 c1 c2 c3 c4 c5 c6 c7 c8 c9 p0
 generalize (w1.alloc (.cells #[.int .i64 i.op,.int .i64 i.x,.int .i64 i.y,.int .i64 i.n,.int .i64 i.mn,.int .i64 i.mx,.int .u64 (aB i.s 0),.int .u64 (aB i.s 1),.int .u64 (aB i.s 2),.int .u64 (aB i.s 3)] 47))=w2 at X2 I2 B2 ⊢
 obtain⟨ib,hib⟩:∃ ib,w1.heap.size=ib:=⟨_,rfl⟩
 rw [hib] at I2 ⊢
 clear hib
 have d0:w2.cell? ⟨ib,0,none⟩=some (.int .i64 i.op):=aA I2.o (i:=0) rfl
 go_upto_region 3 with (go_at_call 42;(with_reducible refine(OF.o _).mono ?_);rintro e w3 ⟨rfl,h3⟩;have X3:=aD ((h3.block _ (aC X2.o)).trans X2.o);have I3:=aD ((h3.block _ (aC I2.o)).trans I2.o);have B3:=aD (aF B2.o h3 lz9);clear h3)
 have BA:wBl w3 (w3.alloc (.cells #[.bool true,.bool false,.bool false,.bool false,.bool false,.bool true] 84)):=bz9
 have X4:=aD ((BA.block _ (aC X3.o)).trans X3.o)
 have I4:=aD ((BA.block _ (aC I3.o)).trans I3.o)
 have U4:Hid ((w3.alloc (.cells #[.bool true,.bool false,.bool false,.bool false,.bool false,.bool true] 84)).heap[w3.heap.size]?=some (.cells #[.bool true,.bool false,.bool false,.bool false,.bool false,.bool true] 84 (0,0))):=aE w3 _
 have B4:=aD (aF B3.o BA lz9)
 clear BA X3 I3 B3 X2 I2 B2
 generalize (w3.alloc (.cells #[.bool true,.bool false,.bool false,.bool false,.bool false,.bool true] 84))=w4 at X4 I4 U4 B4 ⊢
 obtain⟨ub,hub⟩:∃ ub,w3.heap.size=ub:=⟨_,rfl⟩
 rw [hub] at U4 ⊢
 clear hub
 have p0:w4.cell? ⟨w.heap.size,0,none⟩=some (.slice p.q p.L.length p.c):=aA X4.o (i:=0) rfl
 have p1:w4.cell? ⟨w.heap.size,1,none⟩=some (.int .i64 p.g):=aA X4.o (i:=1) rfl
 have p2:w4.cell? ⟨w.heap.size,2,none⟩=some (.int .i64 p.k):=aA X4.o (i:=2) rfl
 have d0:w4.cell? ⟨ib,0,none⟩=some (.int .i64 i.op):=aA I4.o (i:=0) rfl
 have d1:w4.cell? ⟨ib,1,none⟩=some (.int .i64 i.x):=aA I4.o (i:=1) rfl
 have d2:w4.cell? ⟨ib,2,none⟩=some (.int .i64 i.y):=aA I4.o (i:=2) rfl
 have d3:w4.cell? ⟨ib,3,none⟩=some (.int .i64 i.n):=aA I4.o (i:=3) rfl
 have d4:w4.cell? ⟨ib,4,none⟩=some (.int .i64 i.mn):=aA I4.o (i:=4) rfl
 have d5:w4.cell? ⟨ib,5,none⟩=some (.int .i64 i.mx):=aA I4.o (i:=5) rfl
 have d6:w4.cell? ⟨ib,6,none⟩=some (.int .u64 (aB i.s 0)):=aA I4.o (i:=6) rfl
 have d7:w4.cell? ⟨ib,7,none⟩=some (.int .u64 (aB i.s 1)):=aA I4.o (i:=7) rfl
 have d8:w4.cell? ⟨ib,8,none⟩=some (.int .u64 (aB i.s 2)):=aA I4.o (i:=8) rfl
 have d9:w4.cell? ⟨ib,9,none⟩=some (.int .u64 (aB i.s 3)):=aA I4.o (i:=9) rfl
 have u0:w4.cell? ⟨ub,0,none⟩=some (.bool true):=aA U4.o (i:=0) rfl
 have u1:w4.cell? ⟨ub,1,none⟩=some (.bool false):=aA U4.o (i:=1) rfl
 have u2:w4.cell? ⟨ub,2,none⟩=some (.bool false):=aA U4.o (i:=2) rfl
 have u3:w4.cell? ⟨ub,3,none⟩=some (.bool false):=aA U4.o (i:=3) rfl
 have u4:w4.cell? ⟨ub,4,none⟩=some (.bool false):=aA U4.o (i:=4) rfl
 have u5:w4.cell? ⟨ub,5,none⟩=some (.bool true):=aA U4.o (i:=5) rfl
 go_wp2
 go_ret
 exact⟨rfl,B4.o⟩
theorem oP{w:World}{p:Pg}(h:PgI w p){k:Nat}{i:Ins}(hi:p.L[k]?=some i)(hk:p.L.length<=40000)(ho:i.op=1)(hx0:0<=i.x)(hy0:0<=i.y)(hxz:i.x=0)(hyz:i.y=0)(hnz:i.n=0)(hmnz:i.mn=0)(hmxz:¬ (i.mx=0)):Calls Try.prog 31 #[.agg #[.slice p.q p.L.length p.c,.int .i64 p.g,.int .i64 p.k,.bool p.f],.int .i64 (k:Int)] w fun e w'=>e=.returned (.bool (false))/\wBl w w':=by
 have B1:Hid (wBl w (w.alloc (.cells #[.slice p.q p.L.length p.c,.int .i64 p.g,.int .i64 p.k,.bool p.f] 24))):=bz9
 have X1:Hid ((w.alloc (.cells #[.slice p.q p.L.length p.c,.int .i64 p.g,.int .i64 p.k,.bool p.f] 24)).heap[w.heap.size]?=some (.cells #[.slice p.q p.L.length p.c,.int .i64 p.g,.int .i64 p.k,.bool p.f] 24 (0,0))):=aE w _
 obtain⟨g1,o1,hq1,hl1,c0,c1,c2,c3,c4,c5,c6,c7,c8,c9⟩:=(h.li.kept B1.o).ten hi
 have hkl:=(f7.1 hi).1
 have k0:(0:Int)<=(k:Int):=by omega
 have k1:(k:Int)<(p.L.length:Int):=by omega
 have OF:=aD (aI i.op)
 have hu:usA i.op=[true,false,false,false,false,true]:=by rw [ho];rfl
 have hiso:isO i.op=true:=by rw [ho];rfl
 rw [hu,hiso] at OF
 have OF:Hid (∀ w,Calls Try.prog 42 #[.int .i64 i.op] w fun e w'=>e=.returned (.tuple #[.agg #[.bool true,.bool false,.bool false,.bool false,.bool false,.bool true],.bool true])/\wBl w w'):=OF
 have o9:(i.op==9)=false:=by rw [ho];rfl
 have o10:(i.op==10)=false:=by rw [ho];rfl
 have wl:IntKind.wrap .i64 ((p.L.length:Int)-1)=(p.L.length:Int)-1:=by rw [IntKind.wrap_i64];omega
 have exz:(i.x==0)=true:=by rw [beq_iff_eq];exact hxz
 have fxz:(i.x != 0)=false:=by simp [hxz]
 clear hxz
 have eyz:(i.y==0)=true:=by rw [beq_iff_eq];exact hyz
 have fyz:(i.y != 0)=false:=by simp [hyz]
 clear hyz
 have enz:(i.n==0)=true:=by rw [beq_iff_eq];exact hnz
 have fnz:(i.n != 0)=false:=by simp [hnz]
 clear hnz
 have emnz:(i.mn==0)=true:=by rw [beq_iff_eq];exact hmnz
 have fmnz:(i.mn != 0)=false:=by simp [hmnz]
 clear hmnz
 have emxz:(i.mx==0)=false:=by rw [f8];exact hmxz
 have fmxz:(i.mx != 0)=true:=by simp [hmxz]
 clear hmxz
 clear hu hiso ho
 have HQ:=aD hq1
 clear h hi hq1
 go_enter Try.func31,Try.ntmps31
 go_upto_region 1 with fail
 generalize (w.alloc (.cells #[.slice p.q p.L.length p.c,.int .i64 p.g,.int .i64 p.k,.bool p.f] 24))=w1 at B1 X1 c0 c1 c2 c3 c4 c5 c6 c7 c8 c9 ⊢
 have p0:w1.cell? ⟨w.heap.size,0,none⟩=some (.slice p.q p.L.length p.c):=aA X1.o (i:=0) rfl
 rw [HQ.o] at p0
 go_upto_region 2 with fail
 have BA:wBl w1 (w1.alloc (.cells #[.int .i64 i.op,.int .i64 i.x,.int .i64 i.y,.int .i64 i.n,.int .i64 i.mn,.int .i64 i.mx,.int .u64 (aB i.s 0),.int .u64 (aB i.s 1),.int .u64 (aB i.s 2),.int .u64 (aB i.s 3)] 47)):=bz9
 have X2:=aD ((BA.block _ (aC X1.o)).trans X1.o)
 have I2:Hid ((w1.alloc (.cells #[.int .i64 i.op,.int .i64 i.x,.int .i64 i.y,.int .i64 i.n,.int .i64 i.mn,.int .i64 i.mx,.int .u64 (aB i.s 0),.int .u64 (aB i.s 1),.int .u64 (aB i.s 2),.int .u64 (aB i.s 3)] 47)).heap[w1.heap.size]?=some (.cells #[.int .i64 i.op,.int .i64 i.x,.int .i64 i.y,.int .i64 i.n,.int .i64 i.mn,.int .i64 i.mx,.int .u64 (aB i.s 0),.int .u64 (aB i.s 1),.int .u64 (aB i.s 2),.int .u64 (aB i.s 3)] 47 (0,0))):=aE w1 _
 have B2:=aD (aF B1.o BA lz9)
 clear BA c0 c1 c2 c3 c4 c5 c6 c7 c8 c9 p0
 generalize (w1.alloc (.cells #[.int .i64 i.op,.int .i64 i.x,.int .i64 i.y,.int .i64 i.n,.int .i64 i.mn,.int .i64 i.mx,.int .u64 (aB i.s 0),.int .u64 (aB i.s 1),.int .u64 (aB i.s 2),.int .u64 (aB i.s 3)] 47))=w2 at X2 I2 B2 ⊢
 obtain⟨ib,hib⟩:∃ ib,w1.heap.size=ib:=⟨_,rfl⟩
 rw [hib] at I2 ⊢
 clear hib
 have d0:w2.cell? ⟨ib,0,none⟩=some (.int .i64 i.op):=aA I2.o (i:=0) rfl
 go_upto_region 3 with (go_at_call 42;(with_reducible refine(OF.o _).mono ?_);rintro e w3 ⟨rfl,h3⟩;have X3:=aD ((h3.block _ (aC X2.o)).trans X2.o);have I3:=aD ((h3.block _ (aC I2.o)).trans I2.o);have B3:=aD (aF B2.o h3 lz9);clear h3)
 have BA:wBl w3 (w3.alloc (.cells #[.bool true,.bool false,.bool false,.bool false,.bool false,.bool true] 84)):=bz9
 have X4:=aD ((BA.block _ (aC X3.o)).trans X3.o)
 have I4:=aD ((BA.block _ (aC I3.o)).trans I3.o)
 have U4:Hid ((w3.alloc (.cells #[.bool true,.bool false,.bool false,.bool false,.bool false,.bool true] 84)).heap[w3.heap.size]?=some (.cells #[.bool true,.bool false,.bool false,.bool false,.bool false,.bool true] 84 (0,0))):=aE w3 _
 have B4:=aD (aF B3.o BA lz9)
 clear BA X3 I3 B3 X2 I2 B2
 generalize (w3.alloc (.cells #[.bool true,.bool false,.bool false,.bool false,.bool false,.bool true] 84))=w4 at X4 I4 U4 B4 ⊢
 obtain⟨ub,hub⟩:∃ ub,w3.heap.size=ub:=⟨_,rfl⟩
 rw [hub] at U4 ⊢
 clear hub
 have p0:w4.cell? ⟨w.heap.size,0,none⟩=some (.slice p.q p.L.length p.c):=aA X4.o (i:=0) rfl
 have p1:w4.cell? ⟨w.heap.size,1,none⟩=some (.int .i64 p.g):=aA X4.o (i:=1) rfl
 have p2:w4.cell? ⟨w.heap.size,2,none⟩=some (.int .i64 p.k):=aA X4.o (i:=2) rfl
 have d0:w4.cell? ⟨ib,0,none⟩=some (.int .i64 i.op):=aA I4.o (i:=0) rfl
 have d1:w4.cell? ⟨ib,1,none⟩=some (.int .i64 i.x):=aA I4.o (i:=1) rfl
 have d2:w4.cell? ⟨ib,2,none⟩=some (.int .i64 i.y):=aA I4.o (i:=2) rfl
 have d3:w4.cell? ⟨ib,3,none⟩=some (.int .i64 i.n):=aA I4.o (i:=3) rfl
 have d4:w4.cell? ⟨ib,4,none⟩=some (.int .i64 i.mn):=aA I4.o (i:=4) rfl
 have d5:w4.cell? ⟨ib,5,none⟩=some (.int .i64 i.mx):=aA I4.o (i:=5) rfl
 have d6:w4.cell? ⟨ib,6,none⟩=some (.int .u64 (aB i.s 0)):=aA I4.o (i:=6) rfl
 have d7:w4.cell? ⟨ib,7,none⟩=some (.int .u64 (aB i.s 1)):=aA I4.o (i:=7) rfl
 have d8:w4.cell? ⟨ib,8,none⟩=some (.int .u64 (aB i.s 2)):=aA I4.o (i:=8) rfl
 have d9:w4.cell? ⟨ib,9,none⟩=some (.int .u64 (aB i.s 3)):=aA I4.o (i:=9) rfl
 have u0:w4.cell? ⟨ub,0,none⟩=some (.bool true):=aA U4.o (i:=0) rfl
 have u1:w4.cell? ⟨ub,1,none⟩=some (.bool false):=aA U4.o (i:=1) rfl
 have u2:w4.cell? ⟨ub,2,none⟩=some (.bool false):=aA U4.o (i:=2) rfl
 have u3:w4.cell? ⟨ub,3,none⟩=some (.bool false):=aA U4.o (i:=3) rfl
 have u4:w4.cell? ⟨ub,4,none⟩=some (.bool false):=aA U4.o (i:=4) rfl
 have u5:w4.cell? ⟨ub,5,none⟩=some (.bool true):=aA U4.o (i:=5) rfl
 go_wp2
 go_ret
 exact⟨rfl,B4.o⟩
theorem oO{w:World}{p:Pg}(h:PgI w p){k:Nat}{i:Ins}(hi:p.L[k]?=some i)(hk:p.L.length<=40000)(ho:i.op=1)(hx0:0<=i.x)(hy0:0<=i.y)(hxz:i.x=0)(hyz:i.y=0)(hnz:i.n=0)(hmnz:¬ (i.mn=0)):Calls Try.prog 31 #[.agg #[.slice p.q p.L.length p.c,.int .i64 p.g,.int .i64 p.k,.bool p.f],.int .i64 (k:Int)] w fun e w'=>e=.returned (.bool (false))/\wBl w w':=by
 have B1:Hid (wBl w (w.alloc (.cells #[.slice p.q p.L.length p.c,.int .i64 p.g,.int .i64 p.k,.bool p.f] 24))):=bz9
 have X1:Hid ((w.alloc (.cells #[.slice p.q p.L.length p.c,.int .i64 p.g,.int .i64 p.k,.bool p.f] 24)).heap[w.heap.size]?=some (.cells #[.slice p.q p.L.length p.c,.int .i64 p.g,.int .i64 p.k,.bool p.f] 24 (0,0))):=aE w _
 obtain⟨g1,o1,hq1,hl1,c0,c1,c2,c3,c4,c5,c6,c7,c8,c9⟩:=(h.li.kept B1.o).ten hi
 have hkl:=(f7.1 hi).1
 have k0:(0:Int)<=(k:Int):=by omega
 have k1:(k:Int)<(p.L.length:Int):=by omega
 have OF:=aD (aI i.op)
 have hu:usA i.op=[true,false,false,false,false,true]:=by rw [ho];rfl
 have hiso:isO i.op=true:=by rw [ho];rfl
 rw [hu,hiso] at OF
 have OF:Hid (∀ w,Calls Try.prog 42 #[.int .i64 i.op] w fun e w'=>e=.returned (.tuple #[.agg #[.bool true,.bool false,.bool false,.bool false,.bool false,.bool true],.bool true])/\wBl w w'):=OF
 have o9:(i.op==9)=false:=by rw [ho];rfl
 have o10:(i.op==10)=false:=by rw [ho];rfl
 have wl:IntKind.wrap .i64 ((p.L.length:Int)-1)=(p.L.length:Int)-1:=by rw [IntKind.wrap_i64];omega
 have exz:(i.x==0)=true:=by rw [beq_iff_eq];exact hxz
 have fxz:(i.x != 0)=false:=by simp [hxz]
 clear hxz
 have eyz:(i.y==0)=true:=by rw [beq_iff_eq];exact hyz
 have fyz:(i.y != 0)=false:=by simp [hyz]
 clear hyz
 have enz:(i.n==0)=true:=by rw [beq_iff_eq];exact hnz
 have fnz:(i.n != 0)=false:=by simp [hnz]
 clear hnz
 have emnz:(i.mn==0)=false:=by rw [f8];exact hmnz
 have fmnz:(i.mn != 0)=true:=by simp [hmnz]
 clear hmnz
 clear hu hiso ho
 have HQ:=aD hq1
 clear h hi hq1
 go_enter Try.func31,Try.ntmps31
 go_upto_region 1 with fail
 generalize (w.alloc (.cells #[.slice p.q p.L.length p.c,.int .i64 p.g,.int .i64 p.k,.bool p.f] 24))=w1 at B1 X1 c0 c1 c2 c3 c4 c5 c6 c7 c8 c9 ⊢
 have p0:w1.cell? ⟨w.heap.size,0,none⟩=some (.slice p.q p.L.length p.c):=aA X1.o (i:=0) rfl
 rw [HQ.o] at p0
 go_upto_region 2 with fail
 have BA:wBl w1 (w1.alloc (.cells #[.int .i64 i.op,.int .i64 i.x,.int .i64 i.y,.int .i64 i.n,.int .i64 i.mn,.int .i64 i.mx,.int .u64 (aB i.s 0),.int .u64 (aB i.s 1),.int .u64 (aB i.s 2),.int .u64 (aB i.s 3)] 47)):=bz9
 have X2:=aD ((BA.block _ (aC X1.o)).trans X1.o)
 have I2:Hid ((w1.alloc (.cells #[.int .i64 i.op,.int .i64 i.x,.int .i64 i.y,.int .i64 i.n,.int .i64 i.mn,.int .i64 i.mx,.int .u64 (aB i.s 0),.int .u64 (aB i.s 1),.int .u64 (aB i.s 2),.int .u64 (aB i.s 3)] 47)).heap[w1.heap.size]?=some (.cells #[.int .i64 i.op,.int .i64 i.x,.int .i64 i.y,.int .i64 i.n,.int .i64 i.mn,.int .i64 i.mx,.int .u64 (aB i.s 0),.int .u64 (aB i.s 1),.int .u64 (aB i.s 2),.int .u64 (aB i.s 3)] 47 (0,0))):=aE w1 _
 have B2:=aD (aF B1.o BA lz9)
 clear BA c0 c1 c2 c3 c4 c5 c6 c7 c8 c9 p0
 generalize (w1.alloc (.cells #[.int .i64 i.op,.int .i64 i.x,.int .i64 i.y,.int .i64 i.n,.int .i64 i.mn,.int .i64 i.mx,.int .u64 (aB i.s 0),.int .u64 (aB i.s 1),.int .u64 (aB i.s 2),.int .u64 (aB i.s 3)] 47))=w2 at X2 I2 B2 ⊢
 obtain⟨ib,hib⟩:∃ ib,w1.heap.size=ib:=⟨_,rfl⟩
 rw [hib] at I2 ⊢
 clear hib
 have d0:w2.cell? ⟨ib,0,none⟩=some (.int .i64 i.op):=aA I2.o (i:=0) rfl
 go_upto_region 3 with (go_at_call 42;(with_reducible refine(OF.o _).mono ?_);rintro e w3 ⟨rfl,h3⟩;have X3:=aD ((h3.block _ (aC X2.o)).trans X2.o);have I3:=aD ((h3.block _ (aC I2.o)).trans I2.o);have B3:=aD (aF B2.o h3 lz9);clear h3)
 have BA:wBl w3 (w3.alloc (.cells #[.bool true,.bool false,.bool false,.bool false,.bool false,.bool true] 84)):=bz9
 have X4:=aD ((BA.block _ (aC X3.o)).trans X3.o)
 have I4:=aD ((BA.block _ (aC I3.o)).trans I3.o)
 have U4:Hid ((w3.alloc (.cells #[.bool true,.bool false,.bool false,.bool false,.bool false,.bool true] 84)).heap[w3.heap.size]?=some (.cells #[.bool true,.bool false,.bool false,.bool false,.bool false,.bool true] 84 (0,0))):=aE w3 _
 have B4:=aD (aF B3.o BA lz9)
 clear BA X3 I3 B3 X2 I2 B2
 generalize (w3.alloc (.cells #[.bool true,.bool false,.bool false,.bool false,.bool false,.bool true] 84))=w4 at X4 I4 U4 B4 ⊢
 obtain⟨ub,hub⟩:∃ ub,w3.heap.size=ub:=⟨_,rfl⟩
 rw [hub] at U4 ⊢
 clear hub
 have p0:w4.cell? ⟨w.heap.size,0,none⟩=some (.slice p.q p.L.length p.c):=aA X4.o (i:=0) rfl
 have p1:w4.cell? ⟨w.heap.size,1,none⟩=some (.int .i64 p.g):=aA X4.o (i:=1) rfl
 have p2:w4.cell? ⟨w.heap.size,2,none⟩=some (.int .i64 p.k):=aA X4.o (i:=2) rfl
 have d0:w4.cell? ⟨ib,0,none⟩=some (.int .i64 i.op):=aA I4.o (i:=0) rfl
 have d1:w4.cell? ⟨ib,1,none⟩=some (.int .i64 i.x):=aA I4.o (i:=1) rfl
 have d2:w4.cell? ⟨ib,2,none⟩=some (.int .i64 i.y):=aA I4.o (i:=2) rfl
 have d3:w4.cell? ⟨ib,3,none⟩=some (.int .i64 i.n):=aA I4.o (i:=3) rfl
 have d4:w4.cell? ⟨ib,4,none⟩=some (.int .i64 i.mn):=aA I4.o (i:=4) rfl
 have d5:w4.cell? ⟨ib,5,none⟩=some (.int .i64 i.mx):=aA I4.o (i:=5) rfl
 have d6:w4.cell? ⟨ib,6,none⟩=some (.int .u64 (aB i.s 0)):=aA I4.o (i:=6) rfl
 have d7:w4.cell? ⟨ib,7,none⟩=some (.int .u64 (aB i.s 1)):=aA I4.o (i:=7) rfl
 have d8:w4.cell? ⟨ib,8,none⟩=some (.int .u64 (aB i.s 2)):=aA I4.o (i:=8) rfl
 have d9:w4.cell? ⟨ib,9,none⟩=some (.int .u64 (aB i.s 3)):=aA I4.o (i:=9) rfl
 have u0:w4.cell? ⟨ub,0,none⟩=some (.bool true):=aA U4.o (i:=0) rfl
 have u1:w4.cell? ⟨ub,1,none⟩=some (.bool false):=aA U4.o (i:=1) rfl
 have u2:w4.cell? ⟨ub,2,none⟩=some (.bool false):=aA U4.o (i:=2) rfl
 have u3:w4.cell? ⟨ub,3,none⟩=some (.bool false):=aA U4.o (i:=3) rfl
 have u4:w4.cell? ⟨ub,4,none⟩=some (.bool false):=aA U4.o (i:=4) rfl
 have u5:w4.cell? ⟨ub,5,none⟩=some (.bool true):=aA U4.o (i:=5) rfl
 go_wp2
 go_ret
 exact⟨rfl,B4.o⟩
theorem oN{w:World}{p:Pg}(h:PgI w p){k:Nat}{i:Ins}(hi:p.L[k]?=some i)(hk:p.L.length<=40000)(ho:i.op=1)(hx0:0<=i.x)(hy0:0<=i.y)(hxz:i.x=0)(hyz:i.y=0)(hnz:¬ (i.n=0)):Calls Try.prog 31 #[.agg #[.slice p.q p.L.length p.c,.int .i64 p.g,.int .i64 p.k,.bool p.f],.int .i64 (k:Int)] w fun e w'=>e=.returned (.bool (false))/\wBl w w':=by
 have B1:Hid (wBl w (w.alloc (.cells #[.slice p.q p.L.length p.c,.int .i64 p.g,.int .i64 p.k,.bool p.f] 24))):=bz9
 have X1:Hid ((w.alloc (.cells #[.slice p.q p.L.length p.c,.int .i64 p.g,.int .i64 p.k,.bool p.f] 24)).heap[w.heap.size]?=some (.cells #[.slice p.q p.L.length p.c,.int .i64 p.g,.int .i64 p.k,.bool p.f] 24 (0,0))):=aE w _
 obtain⟨g1,o1,hq1,hl1,c0,c1,c2,c3,c4,c5,c6,c7,c8,c9⟩:=(h.li.kept B1.o).ten hi
 have hkl:=(f7.1 hi).1
 have k0:(0:Int)<=(k:Int):=by omega
 have k1:(k:Int)<(p.L.length:Int):=by omega
 have OF:=aD (aI i.op)
 have hu:usA i.op=[true,false,false,false,false,true]:=by rw [ho];rfl
 have hiso:isO i.op=true:=by rw [ho];rfl
 rw [hu,hiso] at OF
 have OF:Hid (∀ w,Calls Try.prog 42 #[.int .i64 i.op] w fun e w'=>e=.returned (.tuple #[.agg #[.bool true,.bool false,.bool false,.bool false,.bool false,.bool true],.bool true])/\wBl w w'):=OF
 have o9:(i.op==9)=false:=by rw [ho];rfl
 have o10:(i.op==10)=false:=by rw [ho];rfl
 have wl:IntKind.wrap .i64 ((p.L.length:Int)-1)=(p.L.length:Int)-1:=by rw [IntKind.wrap_i64];omega
 have exz:(i.x==0)=true:=by rw [beq_iff_eq];exact hxz
 have fxz:(i.x != 0)=false:=by simp [hxz]
 clear hxz
 have eyz:(i.y==0)=true:=by rw [beq_iff_eq];exact hyz
 have fyz:(i.y != 0)=false:=by simp [hyz]
 clear hyz
 have enz:(i.n==0)=false:=by rw [f8];exact hnz
 have fnz:(i.n != 0)=true:=by simp [hnz]
 clear hnz
 clear hu hiso ho
 have HQ:=aD hq1
 clear h hi hq1
 go_enter Try.func31,Try.ntmps31
 go_upto_region 1 with fail
 generalize (w.alloc (.cells #[.slice p.q p.L.length p.c,.int .i64 p.g,.int .i64 p.k,.bool p.f] 24))=w1 at B1 X1 c0 c1 c2 c3 c4 c5 c6 c7 c8 c9 ⊢
 have p0:w1.cell? ⟨w.heap.size,0,none⟩=some (.slice p.q p.L.length p.c):=aA X1.o (i:=0) rfl
 rw [HQ.o] at p0
 go_upto_region 2 with fail
 have BA:wBl w1 (w1.alloc (.cells #[.int .i64 i.op,.int .i64 i.x,.int .i64 i.y,.int .i64 i.n,.int .i64 i.mn,.int .i64 i.mx,.int .u64 (aB i.s 0),.int .u64 (aB i.s 1),.int .u64 (aB i.s 2),.int .u64 (aB i.s 3)] 47)):=bz9
 have X2:=aD ((BA.block _ (aC X1.o)).trans X1.o)
 have I2:Hid ((w1.alloc (.cells #[.int .i64 i.op,.int .i64 i.x,.int .i64 i.y,.int .i64 i.n,.int .i64 i.mn,.int .i64 i.mx,.int .u64 (aB i.s 0),.int .u64 (aB i.s 1),.int .u64 (aB i.s 2),.int .u64 (aB i.s 3)] 47)).heap[w1.heap.size]?=some (.cells #[.int .i64 i.op,.int .i64 i.x,.int .i64 i.y,.int .i64 i.n,.int .i64 i.mn,.int .i64 i.mx,.int .u64 (aB i.s 0),.int .u64 (aB i.s 1),.int .u64 (aB i.s 2),.int .u64 (aB i.s 3)] 47 (0,0))):=aE w1 _
 have B2:=aD (aF B1.o BA lz9)
 clear BA c0 c1 c2 c3 c4 c5 c6 c7 c8 c9 p0
 generalize (w1.alloc (.cells #[.int .i64 i.op,.int .i64 i.x,.int .i64 i.y,.int .i64 i.n,.int .i64 i.mn,.int .i64 i.mx,.int .u64 (aB i.s 0),.int .u64 (aB i.s 1),.int .u64 (aB i.s 2),.int .u64 (aB i.s 3)] 47))=w2 at X2 I2 B2 ⊢
 obtain⟨ib,hib⟩:∃ ib,w1.heap.size=ib:=⟨_,rfl⟩
 rw [hib] at I2 ⊢
 clear hib
 have d0:w2.cell? ⟨ib,0,none⟩=some (.int .i64 i.op):=aA I2.o (i:=0) rfl
 go_upto_region 3 with (go_at_call 42;(with_reducible refine(OF.o _).mono ?_);rintro e w3 ⟨rfl,h3⟩;have X3:=aD ((h3.block _ (aC X2.o)).trans X2.o);have I3:=aD ((h3.block _ (aC I2.o)).trans I2.o);have B3:=aD (aF B2.o h3 lz9);clear h3)
 have BA:wBl w3 (w3.alloc (.cells #[.bool true,.bool false,.bool false,.bool false,.bool false,.bool true] 84)):=bz9
 have X4:=aD ((BA.block _ (aC X3.o)).trans X3.o)
 have I4:=aD ((BA.block _ (aC I3.o)).trans I3.o)
 have U4:Hid ((w3.alloc (.cells #[.bool true,.bool false,.bool false,.bool false,.bool false,.bool true] 84)).heap[w3.heap.size]?=some (.cells #[.bool true,.bool false,.bool false,.bool false,.bool false,.bool true] 84 (0,0))):=aE w3 _
 have B4:=aD (aF B3.o BA lz9)
 clear BA X3 I3 B3 X2 I2 B2
 generalize (w3.alloc (.cells #[.bool true,.bool false,.bool false,.bool false,.bool false,.bool true] 84))=w4 at X4 I4 U4 B4 ⊢
 obtain⟨ub,hub⟩:∃ ub,w3.heap.size=ub:=⟨_,rfl⟩
 rw [hub] at U4 ⊢
 clear hub
 have p0:w4.cell? ⟨w.heap.size,0,none⟩=some (.slice p.q p.L.length p.c):=aA X4.o (i:=0) rfl
 have p1:w4.cell? ⟨w.heap.size,1,none⟩=some (.int .i64 p.g):=aA X4.o (i:=1) rfl
 have p2:w4.cell? ⟨w.heap.size,2,none⟩=some (.int .i64 p.k):=aA X4.o (i:=2) rfl
 have d0:w4.cell? ⟨ib,0,none⟩=some (.int .i64 i.op):=aA I4.o (i:=0) rfl
 have d1:w4.cell? ⟨ib,1,none⟩=some (.int .i64 i.x):=aA I4.o (i:=1) rfl
 have d2:w4.cell? ⟨ib,2,none⟩=some (.int .i64 i.y):=aA I4.o (i:=2) rfl
 have d3:w4.cell? ⟨ib,3,none⟩=some (.int .i64 i.n):=aA I4.o (i:=3) rfl
 have d4:w4.cell? ⟨ib,4,none⟩=some (.int .i64 i.mn):=aA I4.o (i:=4) rfl
 have d5:w4.cell? ⟨ib,5,none⟩=some (.int .i64 i.mx):=aA I4.o (i:=5) rfl
 have d6:w4.cell? ⟨ib,6,none⟩=some (.int .u64 (aB i.s 0)):=aA I4.o (i:=6) rfl
 have d7:w4.cell? ⟨ib,7,none⟩=some (.int .u64 (aB i.s 1)):=aA I4.o (i:=7) rfl
 have d8:w4.cell? ⟨ib,8,none⟩=some (.int .u64 (aB i.s 2)):=aA I4.o (i:=8) rfl
 have d9:w4.cell? ⟨ib,9,none⟩=some (.int .u64 (aB i.s 3)):=aA I4.o (i:=9) rfl
 have u0:w4.cell? ⟨ub,0,none⟩=some (.bool true):=aA U4.o (i:=0) rfl
 have u1:w4.cell? ⟨ub,1,none⟩=some (.bool false):=aA U4.o (i:=1) rfl
 have u2:w4.cell? ⟨ub,2,none⟩=some (.bool false):=aA U4.o (i:=2) rfl
 have u3:w4.cell? ⟨ub,3,none⟩=some (.bool false):=aA U4.o (i:=3) rfl
 have u4:w4.cell? ⟨ub,4,none⟩=some (.bool false):=aA U4.o (i:=4) rfl
 have u5:w4.cell? ⟨ub,5,none⟩=some (.bool true):=aA U4.o (i:=5) rfl
 go_wp2
 go_ret
 exact⟨rfl,B4.o⟩
theorem oM{w:World}{p:Pg}(h:PgI w p){k:Nat}{i:Ins}(hi:p.L[k]?=some i)(hk:p.L.length<=40000)(ho:i.op=1)(hx0:0<=i.x)(hy0:0<=i.y)(hxz:i.x=0)(hyz:¬ (i.y=0)):Calls Try.prog 31 #[.agg #[.slice p.q p.L.length p.c,.int .i64 p.g,.int .i64 p.k,.bool p.f],.int .i64 (k:Int)] w fun e w'=>e=.returned (.bool (false))/\wBl w w':=by
 have B1:Hid (wBl w (w.alloc (.cells #[.slice p.q p.L.length p.c,.int .i64 p.g,.int .i64 p.k,.bool p.f] 24))):=bz9
 have X1:Hid ((w.alloc (.cells #[.slice p.q p.L.length p.c,.int .i64 p.g,.int .i64 p.k,.bool p.f] 24)).heap[w.heap.size]?=some (.cells #[.slice p.q p.L.length p.c,.int .i64 p.g,.int .i64 p.k,.bool p.f] 24 (0,0))):=aE w _
 obtain⟨g1,o1,hq1,hl1,c0,c1,c2,c3,c4,c5,c6,c7,c8,c9⟩:=(h.li.kept B1.o).ten hi
 have hkl:=(f7.1 hi).1
 have k0:(0:Int)<=(k:Int):=by omega
 have k1:(k:Int)<(p.L.length:Int):=by omega
 have OF:=aD (aI i.op)
 have hu:usA i.op=[true,false,false,false,false,true]:=by rw [ho];rfl
 have hiso:isO i.op=true:=by rw [ho];rfl
 rw [hu,hiso] at OF
 have OF:Hid (∀ w,Calls Try.prog 42 #[.int .i64 i.op] w fun e w'=>e=.returned (.tuple #[.agg #[.bool true,.bool false,.bool false,.bool false,.bool false,.bool true],.bool true])/\wBl w w'):=OF
 have o9:(i.op==9)=false:=by rw [ho];rfl
 have o10:(i.op==10)=false:=by rw [ho];rfl
 have wl:IntKind.wrap .i64 ((p.L.length:Int)-1)=(p.L.length:Int)-1:=by rw [IntKind.wrap_i64];omega
 have exz:(i.x==0)=true:=by rw [beq_iff_eq];exact hxz
 have fxz:(i.x != 0)=false:=by simp [hxz]
 clear hxz
 have eyz:(i.y==0)=false:=by rw [f8];exact hyz
 have fyz:(i.y != 0)=true:=by simp [hyz]
 clear hyz
 clear hu hiso ho
 have HQ:=aD hq1
 clear h hi hq1
 go_enter Try.func31,Try.ntmps31
 go_upto_region 1 with fail
 generalize (w.alloc (.cells #[.slice p.q p.L.length p.c,.int .i64 p.g,.int .i64 p.k,.bool p.f] 24))=w1 at B1 X1 c0 c1 c2 c3 c4 c5 c6 c7 c8 c9 ⊢
 have p0:w1.cell? ⟨w.heap.size,0,none⟩=some (.slice p.q p.L.length p.c):=aA X1.o (i:=0) rfl
 rw [HQ.o] at p0
 go_upto_region 2 with fail
 have BA:wBl w1 (w1.alloc (.cells #[.int .i64 i.op,.int .i64 i.x,.int .i64 i.y,.int .i64 i.n,.int .i64 i.mn,.int .i64 i.mx,.int .u64 (aB i.s 0),.int .u64 (aB i.s 1),.int .u64 (aB i.s 2),.int .u64 (aB i.s 3)] 47)):=bz9
 have X2:=aD ((BA.block _ (aC X1.o)).trans X1.o)
 have I2:Hid ((w1.alloc (.cells #[.int .i64 i.op,.int .i64 i.x,.int .i64 i.y,.int .i64 i.n,.int .i64 i.mn,.int .i64 i.mx,.int .u64 (aB i.s 0),.int .u64 (aB i.s 1),.int .u64 (aB i.s 2),.int .u64 (aB i.s 3)] 47)).heap[w1.heap.size]?=some (.cells #[.int .i64 i.op,.int .i64 i.x,.int .i64 i.y,.int .i64 i.n,.int .i64 i.mn,.int .i64 i.mx,.int .u64 (aB i.s 0),.int .u64 (aB i.s 1),.int .u64 (aB i.s 2),.int .u64 (aB i.s 3)] 47 (0,0))):=aE w1 _
 have B2:=aD (aF B1.o BA lz9)
 clear BA c0 c1 c2 c3 c4 c5 c6 c7 c8 c9 p0
 generalize (w1.alloc (.cells #[.int .i64 i.op,.int .i64 i.x,.int .i64 i.y,.int .i64 i.n,.int .i64 i.mn,.int .i64 i.mx,.int .u64 (aB i.s 0),.int .u64 (aB i.s 1),.int .u64 (aB i.s 2),.int .u64 (aB i.s 3)] 47))=w2 at X2 I2 B2 ⊢
 obtain⟨ib,hib⟩:∃ ib,w1.heap.size=ib:=⟨_,rfl⟩
 rw [hib] at I2 ⊢
 clear hib
 have d0:w2.cell? ⟨ib,0,none⟩=some (.int .i64 i.op):=aA I2.o (i:=0) rfl
 go_upto_region 3 with (go_at_call 42;(with_reducible refine(OF.o _).mono ?_);rintro e w3 ⟨rfl,h3⟩;have X3:=aD ((h3.block _ (aC X2.o)).trans X2.o);have I3:=aD ((h3.block _ (aC I2.o)).trans I2.o);have B3:=aD (aF B2.o h3 lz9);clear h3)
 have BA:wBl w3 (w3.alloc (.cells #[.bool true,.bool false,.bool false,.bool false,.bool false,.bool true] 84)):=bz9
 have X4:=aD ((BA.block _ (aC X3.o)).trans X3.o)
 have I4:=aD ((BA.block _ (aC I3.o)).trans I3.o)
 have U4:Hid ((w3.alloc (.cells #[.bool true,.bool false,.bool false,.bool false,.bool false,.bool true] 84)).heap[w3.heap.size]?=some (.cells #[.bool true,.bool false,.bool false,.bool false,.bool false,.bool true] 84 (0,0))):=aE w3 _
 have B4:=aD (aF B3.o BA lz9)
 clear BA X3 I3 B3 X2 I2 B2
 generalize (w3.alloc (.cells #[.bool true,.bool false,.bool false,.bool false,.bool false,.bool true] 84))=w4 at X4 I4 U4 B4 ⊢
 obtain⟨ub,hub⟩:∃ ub,w3.heap.size=ub:=⟨_,rfl⟩
 rw [hub] at U4 ⊢
 clear hub
 have p0:w4.cell? ⟨w.heap.size,0,none⟩=some (.slice p.q p.L.length p.c):=aA X4.o (i:=0) rfl
 have p1:w4.cell? ⟨w.heap.size,1,none⟩=some (.int .i64 p.g):=aA X4.o (i:=1) rfl
 have p2:w4.cell? ⟨w.heap.size,2,none⟩=some (.int .i64 p.k):=aA X4.o (i:=2) rfl
 have d0:w4.cell? ⟨ib,0,none⟩=some (.int .i64 i.op):=aA I4.o (i:=0) rfl
 have d1:w4.cell? ⟨ib,1,none⟩=some (.int .i64 i.x):=aA I4.o (i:=1) rfl
 have d2:w4.cell? ⟨ib,2,none⟩=some (.int .i64 i.y):=aA I4.o (i:=2) rfl
 have d3:w4.cell? ⟨ib,3,none⟩=some (.int .i64 i.n):=aA I4.o (i:=3) rfl
 have d4:w4.cell? ⟨ib,4,none⟩=some (.int .i64 i.mn):=aA I4.o (i:=4) rfl
 have d5:w4.cell? ⟨ib,5,none⟩=some (.int .i64 i.mx):=aA I4.o (i:=5) rfl
 have d6:w4.cell? ⟨ib,6,none⟩=some (.int .u64 (aB i.s 0)):=aA I4.o (i:=6) rfl
 have d7:w4.cell? ⟨ib,7,none⟩=some (.int .u64 (aB i.s 1)):=aA I4.o (i:=7) rfl
 have d8:w4.cell? ⟨ib,8,none⟩=some (.int .u64 (aB i.s 2)):=aA I4.o (i:=8) rfl
 have d9:w4.cell? ⟨ib,9,none⟩=some (.int .u64 (aB i.s 3)):=aA I4.o (i:=9) rfl
 have u0:w4.cell? ⟨ub,0,none⟩=some (.bool true):=aA U4.o (i:=0) rfl
 have u1:w4.cell? ⟨ub,1,none⟩=some (.bool false):=aA U4.o (i:=1) rfl
 have u2:w4.cell? ⟨ub,2,none⟩=some (.bool false):=aA U4.o (i:=2) rfl
 have u3:w4.cell? ⟨ub,3,none⟩=some (.bool false):=aA U4.o (i:=3) rfl
 have u4:w4.cell? ⟨ub,4,none⟩=some (.bool false):=aA U4.o (i:=4) rfl
 have u5:w4.cell? ⟨ub,5,none⟩=some (.bool true):=aA U4.o (i:=5) rfl
 go_wp2
 go_ret
 exact⟨rfl,B4.o⟩
theorem oL{w:World}{p:Pg}(h:PgI w p){k:Nat}{i:Ins}(hi:p.L[k]?=some i)(hk:p.L.length<=40000)(ho:i.op=1)(hx0:0<=i.x)(hy0:0<=i.y)(hxz:¬ (i.x=0)):Calls Try.prog 31 #[.agg #[.slice p.q p.L.length p.c,.int .i64 p.g,.int .i64 p.k,.bool p.f],.int .i64 (k:Int)] w fun e w'=>e=.returned (.bool (false))/\wBl w w':=by
 have B1:Hid (wBl w (w.alloc (.cells #[.slice p.q p.L.length p.c,.int .i64 p.g,.int .i64 p.k,.bool p.f] 24))):=bz9
 have X1:Hid ((w.alloc (.cells #[.slice p.q p.L.length p.c,.int .i64 p.g,.int .i64 p.k,.bool p.f] 24)).heap[w.heap.size]?=some (.cells #[.slice p.q p.L.length p.c,.int .i64 p.g,.int .i64 p.k,.bool p.f] 24 (0,0))):=aE w _
 obtain⟨g1,o1,hq1,hl1,c0,c1,c2,c3,c4,c5,c6,c7,c8,c9⟩:=(h.li.kept B1.o).ten hi
 have hkl:=(f7.1 hi).1
 have k0:(0:Int)<=(k:Int):=by omega
 have k1:(k:Int)<(p.L.length:Int):=by omega
 have OF:=aD (aI i.op)
 have hu:usA i.op=[true,false,false,false,false,true]:=by rw [ho];rfl
 have hiso:isO i.op=true:=by rw [ho];rfl
 rw [hu,hiso] at OF
 have OF:Hid (∀ w,Calls Try.prog 42 #[.int .i64 i.op] w fun e w'=>e=.returned (.tuple #[.agg #[.bool true,.bool false,.bool false,.bool false,.bool false,.bool true],.bool true])/\wBl w w'):=OF
 have o9:(i.op==9)=false:=by rw [ho];rfl
 have o10:(i.op==10)=false:=by rw [ho];rfl
 have wl:IntKind.wrap .i64 ((p.L.length:Int)-1)=(p.L.length:Int)-1:=by rw [IntKind.wrap_i64];omega
 have exz:(i.x==0)=false:=by rw [f8];exact hxz
 have fxz:(i.x != 0)=true:=by simp [hxz]
 clear hxz
 clear hu hiso ho
 have HQ:=aD hq1
 clear h hi hq1
 go_enter Try.func31,Try.ntmps31
 go_upto_region 1 with fail
 generalize (w.alloc (.cells #[.slice p.q p.L.length p.c,.int .i64 p.g,.int .i64 p.k,.bool p.f] 24))=w1 at B1 X1 c0 c1 c2 c3 c4 c5 c6 c7 c8 c9 ⊢
 have p0:w1.cell? ⟨w.heap.size,0,none⟩=some (.slice p.q p.L.length p.c):=aA X1.o (i:=0) rfl
 rw [HQ.o] at p0
 go_upto_region 2 with fail
 have BA:wBl w1 (w1.alloc (.cells #[.int .i64 i.op,.int .i64 i.x,.int .i64 i.y,.int .i64 i.n,.int .i64 i.mn,.int .i64 i.mx,.int .u64 (aB i.s 0),.int .u64 (aB i.s 1),.int .u64 (aB i.s 2),.int .u64 (aB i.s 3)] 47)):=bz9
 have X2:=aD ((BA.block _ (aC X1.o)).trans X1.o)
 have I2:Hid ((w1.alloc (.cells #[.int .i64 i.op,.int .i64 i.x,.int .i64 i.y,.int .i64 i.n,.int .i64 i.mn,.int .i64 i.mx,.int .u64 (aB i.s 0),.int .u64 (aB i.s 1),.int .u64 (aB i.s 2),.int .u64 (aB i.s 3)] 47)).heap[w1.heap.size]?=some (.cells #[.int .i64 i.op,.int .i64 i.x,.int .i64 i.y,.int .i64 i.n,.int .i64 i.mn,.int .i64 i.mx,.int .u64 (aB i.s 0),.int .u64 (aB i.s 1),.int .u64 (aB i.s 2),.int .u64 (aB i.s 3)] 47 (0,0))):=aE w1 _
 have B2:=aD (aF B1.o BA lz9)
 clear BA c0 c1 c2 c3 c4 c5 c6 c7 c8 c9 p0
 generalize (w1.alloc (.cells #[.int .i64 i.op,.int .i64 i.x,.int .i64 i.y,.int .i64 i.n,.int .i64 i.mn,.int .i64 i.mx,.int .u64 (aB i.s 0),.int .u64 (aB i.s 1),.int .u64 (aB i.s 2),.int .u64 (aB i.s 3)] 47))=w2 at X2 I2 B2 ⊢
 obtain⟨ib,hib⟩:∃ ib,w1.heap.size=ib:=⟨_,rfl⟩
 rw [hib] at I2 ⊢
 clear hib
 have d0:w2.cell? ⟨ib,0,none⟩=some (.int .i64 i.op):=aA I2.o (i:=0) rfl
 go_upto_region 3 with (go_at_call 42;(with_reducible refine(OF.o _).mono ?_);rintro e w3 ⟨rfl,h3⟩;have X3:=aD ((h3.block _ (aC X2.o)).trans X2.o);have I3:=aD ((h3.block _ (aC I2.o)).trans I2.o);have B3:=aD (aF B2.o h3 lz9);clear h3)
 have BA:wBl w3 (w3.alloc (.cells #[.bool true,.bool false,.bool false,.bool false,.bool false,.bool true] 84)):=bz9
 have X4:=aD ((BA.block _ (aC X3.o)).trans X3.o)
 have I4:=aD ((BA.block _ (aC I3.o)).trans I3.o)
 have U4:Hid ((w3.alloc (.cells #[.bool true,.bool false,.bool false,.bool false,.bool false,.bool true] 84)).heap[w3.heap.size]?=some (.cells #[.bool true,.bool false,.bool false,.bool false,.bool false,.bool true] 84 (0,0))):=aE w3 _
 have B4:=aD (aF B3.o BA lz9)
 clear BA X3 I3 B3 X2 I2 B2
 generalize (w3.alloc (.cells #[.bool true,.bool false,.bool false,.bool false,.bool false,.bool true] 84))=w4 at X4 I4 U4 B4 ⊢
 obtain⟨ub,hub⟩:∃ ub,w3.heap.size=ub:=⟨_,rfl⟩
 rw [hub] at U4 ⊢
 clear hub
 have p0:w4.cell? ⟨w.heap.size,0,none⟩=some (.slice p.q p.L.length p.c):=aA X4.o (i:=0) rfl
 have p1:w4.cell? ⟨w.heap.size,1,none⟩=some (.int .i64 p.g):=aA X4.o (i:=1) rfl
 have p2:w4.cell? ⟨w.heap.size,2,none⟩=some (.int .i64 p.k):=aA X4.o (i:=2) rfl
 have d0:w4.cell? ⟨ib,0,none⟩=some (.int .i64 i.op):=aA I4.o (i:=0) rfl
 have d1:w4.cell? ⟨ib,1,none⟩=some (.int .i64 i.x):=aA I4.o (i:=1) rfl
 have d2:w4.cell? ⟨ib,2,none⟩=some (.int .i64 i.y):=aA I4.o (i:=2) rfl
 have d3:w4.cell? ⟨ib,3,none⟩=some (.int .i64 i.n):=aA I4.o (i:=3) rfl
 have d4:w4.cell? ⟨ib,4,none⟩=some (.int .i64 i.mn):=aA I4.o (i:=4) rfl
 have d5:w4.cell? ⟨ib,5,none⟩=some (.int .i64 i.mx):=aA I4.o (i:=5) rfl
 have d6:w4.cell? ⟨ib,6,none⟩=some (.int .u64 (aB i.s 0)):=aA I4.o (i:=6) rfl
 have d7:w4.cell? ⟨ib,7,none⟩=some (.int .u64 (aB i.s 1)):=aA I4.o (i:=7) rfl
 have d8:w4.cell? ⟨ib,8,none⟩=some (.int .u64 (aB i.s 2)):=aA I4.o (i:=8) rfl
 have d9:w4.cell? ⟨ib,9,none⟩=some (.int .u64 (aB i.s 3)):=aA I4.o (i:=9) rfl
 have u0:w4.cell? ⟨ub,0,none⟩=some (.bool true):=aA U4.o (i:=0) rfl
 have u1:w4.cell? ⟨ub,1,none⟩=some (.bool false):=aA U4.o (i:=1) rfl
 have u2:w4.cell? ⟨ub,2,none⟩=some (.bool false):=aA U4.o (i:=2) rfl
 have u3:w4.cell? ⟨ub,3,none⟩=some (.bool false):=aA U4.o (i:=3) rfl
 have u4:w4.cell? ⟨ub,4,none⟩=some (.bool false):=aA U4.o (i:=4) rfl
 have u5:w4.cell? ⟨ub,5,none⟩=some (.bool true):=aA U4.o (i:=5) rfl
 go_wp2
 go_ret
 exact⟨rfl,B4.o⟩
theorem oK{w:World}{p:Pg}(h:PgI w p){k:Nat}{i:Ins}(hi:p.L[k]?=some i)(hk:p.L.length<=40000)(ho:i.op=1)(hx0:0<=i.x)(hy0:¬ (0<=i.y))(hxz:i.x=0)(hyz:¬ (i.y=0)):Calls Try.prog 31 #[.agg #[.slice p.q p.L.length p.c,.int .i64 p.g,.int .i64 p.k,.bool p.f],.int .i64 (k:Int)] w fun e w'=>e=.returned (.bool (false))/\wBl w w':=by
 have B1:Hid (wBl w (w.alloc (.cells #[.slice p.q p.L.length p.c,.int .i64 p.g,.int .i64 p.k,.bool p.f] 24))):=bz9
 have X1:Hid ((w.alloc (.cells #[.slice p.q p.L.length p.c,.int .i64 p.g,.int .i64 p.k,.bool p.f] 24)).heap[w.heap.size]?=some (.cells #[.slice p.q p.L.length p.c,.int .i64 p.g,.int .i64 p.k,.bool p.f] 24 (0,0))):=aE w _
 obtain⟨g1,o1,hq1,hl1,c0,c1,c2,c3,c4,c5,c6,c7,c8,c9⟩:=(h.li.kept B1.o).ten hi
 have hkl:=(f7.1 hi).1
 have k0:(0:Int)<=(k:Int):=by omega
 have k1:(k:Int)<(p.L.length:Int):=by omega
 have OF:=aD (aI i.op)
 have hu:usA i.op=[true,false,false,false,false,true]:=by rw [ho];rfl
 have hiso:isO i.op=true:=by rw [ho];rfl
 rw [hu,hiso] at OF
 have OF:Hid (∀ w,Calls Try.prog 42 #[.int .i64 i.op] w fun e w'=>e=.returned (.tuple #[.agg #[.bool true,.bool false,.bool false,.bool false,.bool false,.bool true],.bool true])/\wBl w w'):=OF
 have o9:(i.op==9)=false:=by rw [ho];rfl
 have o10:(i.op==10)=false:=by rw [ho];rfl
 have wl:IntKind.wrap .i64 ((p.L.length:Int)-1)=(p.L.length:Int)-1:=by rw [IntKind.wrap_i64];omega
 have exz:(i.x==0)=true:=by rw [beq_iff_eq];exact hxz
 have fxz:(i.x != 0)=false:=by simp [hxz]
 clear hxz
 have eyz:(i.y==0)=false:=by rw [f8];exact hyz
 have fyz:(i.y != 0)=true:=by simp [hyz]
 clear hyz
 clear hu hiso ho
 have HQ:=aD hq1
 clear h hi hq1
 go_enter Try.func31,Try.ntmps31
 go_upto_region 1 with fail
 generalize (w.alloc (.cells #[.slice p.q p.L.length p.c,.int .i64 p.g,.int .i64 p.k,.bool p.f] 24))=w1 at B1 X1 c0 c1 c2 c3 c4 c5 c6 c7 c8 c9 ⊢
 have p0:w1.cell? ⟨w.heap.size,0,none⟩=some (.slice p.q p.L.length p.c):=aA X1.o (i:=0) rfl
 rw [HQ.o] at p0
 go_upto_region 2 with fail
 have BA:wBl w1 (w1.alloc (.cells #[.int .i64 i.op,.int .i64 i.x,.int .i64 i.y,.int .i64 i.n,.int .i64 i.mn,.int .i64 i.mx,.int .u64 (aB i.s 0),.int .u64 (aB i.s 1),.int .u64 (aB i.s 2),.int .u64 (aB i.s 3)] 47)):=bz9
 have X2:=aD ((BA.block _ (aC X1.o)).trans X1.o)
 have I2:Hid ((w1.alloc (.cells #[.int .i64 i.op,.int .i64 i.x,.int .i64 i.y,.int .i64 i.n,.int .i64 i.mn,.int .i64 i.mx,.int .u64 (aB i.s 0),.int .u64 (aB i.s 1),.int .u64 (aB i.s 2),.int .u64 (aB i.s 3)] 47)).heap[w1.heap.size]?=some (.cells #[.int .i64 i.op,.int .i64 i.x,.int .i64 i.y,.int .i64 i.n,.int .i64 i.mn,.int .i64 i.mx,.int .u64 (aB i.s 0),.int .u64 (aB i.s 1),.int .u64 (aB i.s 2),.int .u64 (aB i.s 3)] 47 (0,0))):=aE w1 _
 have B2:=aD (aF B1.o BA lz9)
 clear BA c0 c1 c2 c3 c4 c5 c6 c7 c8 c9 p0
 generalize (w1.alloc (.cells #[.int .i64 i.op,.int .i64 i.x,.int .i64 i.y,.int .i64 i.n,.int .i64 i.mn,.int .i64 i.mx,.int .u64 (aB i.s 0),.int .u64 (aB i.s 1),.int .u64 (aB i.s 2),.int .u64 (aB i.s 3)] 47))=w2 at X2 I2 B2 ⊢
 obtain⟨ib,hib⟩:∃ ib,w1.heap.size=ib:=⟨_,rfl⟩
 rw [hib] at I2 ⊢
 clear hib
 have d0:w2.cell? ⟨ib,0,none⟩=some (.int .i64 i.op):=aA I2.o (i:=0) rfl
 go_upto_region 3 with (go_at_call 42;(with_reducible refine(OF.o _).mono ?_);rintro e w3 ⟨rfl,h3⟩;have X3:=aD ((h3.block _ (aC X2.o)).trans X2.o);have I3:=aD ((h3.block _ (aC I2.o)).trans I2.o);have B3:=aD (aF B2.o h3 lz9);clear h3)
 have BA:wBl w3 (w3.alloc (.cells #[.bool true,.bool false,.bool false,.bool false,.bool false,.bool true] 84)):=bz9
 have X4:=aD ((BA.block _ (aC X3.o)).trans X3.o)
 have I4:=aD ((BA.block _ (aC I3.o)).trans I3.o)
 have U4:Hid ((w3.alloc (.cells #[.bool true,.bool false,.bool false,.bool false,.bool false,.bool true] 84)).heap[w3.heap.size]?=some (.cells #[.bool true,.bool false,.bool false,.bool false,.bool false,.bool true] 84 (0,0))):=aE w3 _
 have B4:=aD (aF B3.o BA lz9)
 clear BA X3 I3 B3 X2 I2 B2
 generalize (w3.alloc (.cells #[.bool true,.bool false,.bool false,.bool false,.bool false,.bool true] 84))=w4 at X4 I4 U4 B4 ⊢
 obtain⟨ub,hub⟩:∃ ub,w3.heap.size=ub:=⟨_,rfl⟩
 rw [hub] at U4 ⊢
 clear hub
 have p0:w4.cell? ⟨w.heap.size,0,none⟩=some (.slice p.q p.L.length p.c):=aA X4.o (i:=0) rfl
 have p1:w4.cell? ⟨w.heap.size,1,none⟩=some (.int .i64 p.g):=aA X4.o (i:=1) rfl
 have p2:w4.cell? ⟨w.heap.size,2,none⟩=some (.int .i64 p.k):=aA X4.o (i:=2) rfl
 have d0:w4.cell? ⟨ib,0,none⟩=some (.int .i64 i.op):=aA I4.o (i:=0) rfl
 have d1:w4.cell? ⟨ib,1,none⟩=some (.int .i64 i.x):=aA I4.o (i:=1) rfl
 have d2:w4.cell? ⟨ib,2,none⟩=some (.int .i64 i.y):=aA I4.o (i:=2) rfl
 have d3:w4.cell? ⟨ib,3,none⟩=some (.int .i64 i.n):=aA I4.o (i:=3) rfl
 have d4:w4.cell? ⟨ib,4,none⟩=some (.int .i64 i.mn):=aA I4.o (i:=4) rfl
 have d5:w4.cell? ⟨ib,5,none⟩=some (.int .i64 i.mx):=aA I4.o (i:=5) rfl
 have d6:w4.cell? ⟨ib,6,none⟩=some (.int .u64 (aB i.s 0)):=aA I4.o (i:=6) rfl
 have d7:w4.cell? ⟨ib,7,none⟩=some (.int .u64 (aB i.s 1)):=aA I4.o (i:=7) rfl
 have d8:w4.cell? ⟨ib,8,none⟩=some (.int .u64 (aB i.s 2)):=aA I4.o (i:=8) rfl
 have d9:w4.cell? ⟨ib,9,none⟩=some (.int .u64 (aB i.s 3)):=aA I4.o (i:=9) rfl
 have u0:w4.cell? ⟨ub,0,none⟩=some (.bool true):=aA U4.o (i:=0) rfl
 have u1:w4.cell? ⟨ub,1,none⟩=some (.bool false):=aA U4.o (i:=1) rfl
 have u2:w4.cell? ⟨ub,2,none⟩=some (.bool false):=aA U4.o (i:=2) rfl
 have u3:w4.cell? ⟨ub,3,none⟩=some (.bool false):=aA U4.o (i:=3) rfl
 have u4:w4.cell? ⟨ub,4,none⟩=some (.bool false):=aA U4.o (i:=4) rfl
 have u5:w4.cell? ⟨ub,5,none⟩=some (.bool true):=aA U4.o (i:=5) rfl
 go_wp2
 go_ret
 exact⟨rfl,B4.o⟩
theorem oJ{w:World}{p:Pg}(h:PgI w p){k:Nat}{i:Ins}(hi:p.L[k]?=some i)(hk:p.L.length<=40000)(ho:i.op=1)(hx0:0<=i.x)(hy0:¬ (0<=i.y))(hxz:¬ (i.x=0)):Calls Try.prog 31 #[.agg #[.slice p.q p.L.length p.c,.int .i64 p.g,.int .i64 p.k,.bool p.f],.int .i64 (k:Int)] w fun e w'=>e=.returned (.bool (false))/\wBl w w':=by
 have B1:Hid (wBl w (w.alloc (.cells #[.slice p.q p.L.length p.c,.int .i64 p.g,.int .i64 p.k,.bool p.f] 24))):=bz9
 have X1:Hid ((w.alloc (.cells #[.slice p.q p.L.length p.c,.int .i64 p.g,.int .i64 p.k,.bool p.f] 24)).heap[w.heap.size]?=some (.cells #[.slice p.q p.L.length p.c,.int .i64 p.g,.int .i64 p.k,.bool p.f] 24 (0,0))):=aE w _
 obtain⟨g1,o1,hq1,hl1,c0,c1,c2,c3,c4,c5,c6,c7,c8,c9⟩:=(h.li.kept B1.o).ten hi
 have hkl:=(f7.1 hi).1
 have k0:(0:Int)<=(k:Int):=by omega
 have k1:(k:Int)<(p.L.length:Int):=by omega
 have OF:=aD (aI i.op)
 have hu:usA i.op=[true,false,false,false,false,true]:=by rw [ho];rfl
 have hiso:isO i.op=true:=by rw [ho];rfl
 rw [hu,hiso] at OF
 have OF:Hid (∀ w,Calls Try.prog 42 #[.int .i64 i.op] w fun e w'=>e=.returned (.tuple #[.agg #[.bool true,.bool false,.bool false,.bool false,.bool false,.bool true],.bool true])/\wBl w w'):=OF
 have o9:(i.op==9)=false:=by rw [ho];rfl
 have o10:(i.op==10)=false:=by rw [ho];rfl
 have wl:IntKind.wrap .i64 ((p.L.length:Int)-1)=(p.L.length:Int)-1:=by rw [IntKind.wrap_i64];omega
 have exz:(i.x==0)=false:=by rw [f8];exact hxz
 have fxz:(i.x != 0)=true:=by simp [hxz]
 clear hxz
 clear hu hiso ho
 have HQ:=aD hq1
 clear h hi hq1
 go_enter Try.func31,Try.ntmps31
 go_upto_region 1 with fail
 generalize (w.alloc (.cells #[.slice p.q p.L.length p.c,.int .i64 p.g,.int .i64 p.k,.bool p.f] 24))=w1 at B1 X1 c0 c1 c2 c3 c4 c5 c6 c7 c8 c9 ⊢
 have p0:w1.cell? ⟨w.heap.size,0,none⟩=some (.slice p.q p.L.length p.c):=aA X1.o (i:=0) rfl
 rw [HQ.o] at p0
 go_upto_region 2 with fail
 have BA:wBl w1 (w1.alloc (.cells #[.int .i64 i.op,.int .i64 i.x,.int .i64 i.y,.int .i64 i.n,.int .i64 i.mn,.int .i64 i.mx,.int .u64 (aB i.s 0),.int .u64 (aB i.s 1),.int .u64 (aB i.s 2),.int .u64 (aB i.s 3)] 47)):=bz9
 have X2:=aD ((BA.block _ (aC X1.o)).trans X1.o)
 have I2:Hid ((w1.alloc (.cells #[.int .i64 i.op,.int .i64 i.x,.int .i64 i.y,.int .i64 i.n,.int .i64 i.mn,.int .i64 i.mx,.int .u64 (aB i.s 0),.int .u64 (aB i.s 1),.int .u64 (aB i.s 2),.int .u64 (aB i.s 3)] 47)).heap[w1.heap.size]?=some (.cells #[.int .i64 i.op,.int .i64 i.x,.int .i64 i.y,.int .i64 i.n,.int .i64 i.mn,.int .i64 i.mx,.int .u64 (aB i.s 0),.int .u64 (aB i.s 1),.int .u64 (aB i.s 2),.int .u64 (aB i.s 3)] 47 (0,0))):=aE w1 _
 have B2:=aD (aF B1.o BA lz9)
 clear BA c0 c1 c2 c3 c4 c5 c6 c7 c8 c9 p0
 generalize (w1.alloc (.cells #[.int .i64 i.op,.int .i64 i.x,.int .i64 i.y,.int .i64 i.n,.int .i64 i.mn,.int .i64 i.mx,.int .u64 (aB i.s 0),.int .u64 (aB i.s 1),.int .u64 (aB i.s 2),.int .u64 (aB i.s 3)] 47))=w2 at X2 I2 B2 ⊢
 obtain⟨ib,hib⟩:∃ ib,w1.heap.size=ib:=⟨_,rfl⟩
 rw [hib] at I2 ⊢
 clear hib
 have d0:w2.cell? ⟨ib,0,none⟩=some (.int .i64 i.op):=aA I2.o (i:=0) rfl
 go_upto_region 3 with (go_at_call 42;(with_reducible refine(OF.o _).mono ?_);rintro e w3 ⟨rfl,h3⟩;have X3:=aD ((h3.block _ (aC X2.o)).trans X2.o);have I3:=aD ((h3.block _ (aC I2.o)).trans I2.o);have B3:=aD (aF B2.o h3 lz9);clear h3)
 have BA:wBl w3 (w3.alloc (.cells #[.bool true,.bool false,.bool false,.bool false,.bool false,.bool true] 84)):=bz9
 have X4:=aD ((BA.block _ (aC X3.o)).trans X3.o)
 have I4:=aD ((BA.block _ (aC I3.o)).trans I3.o)
 have U4:Hid ((w3.alloc (.cells #[.bool true,.bool false,.bool false,.bool false,.bool false,.bool true] 84)).heap[w3.heap.size]?=some (.cells #[.bool true,.bool false,.bool false,.bool false,.bool false,.bool true] 84 (0,0))):=aE w3 _
 have B4:=aD (aF B3.o BA lz9)
 clear BA X3 I3 B3 X2 I2 B2
 generalize (w3.alloc (.cells #[.bool true,.bool false,.bool false,.bool false,.bool false,.bool true] 84))=w4 at X4 I4 U4 B4 ⊢
 obtain⟨ub,hub⟩:∃ ub,w3.heap.size=ub:=⟨_,rfl⟩
 rw [hub] at U4 ⊢
 clear hub
 have p0:w4.cell? ⟨w.heap.size,0,none⟩=some (.slice p.q p.L.length p.c):=aA X4.o (i:=0) rfl
 have p1:w4.cell? ⟨w.heap.size,1,none⟩=some (.int .i64 p.g):=aA X4.o (i:=1) rfl
 have p2:w4.cell? ⟨w.heap.size,2,none⟩=some (.int .i64 p.k):=aA X4.o (i:=2) rfl
 have d0:w4.cell? ⟨ib,0,none⟩=some (.int .i64 i.op):=aA I4.o (i:=0) rfl
 have d1:w4.cell? ⟨ib,1,none⟩=some (.int .i64 i.x):=aA I4.o (i:=1) rfl
 have d2:w4.cell? ⟨ib,2,none⟩=some (.int .i64 i.y):=aA I4.o (i:=2) rfl
 have d3:w4.cell? ⟨ib,3,none⟩=some (.int .i64 i.n):=aA I4.o (i:=3) rfl
 have d4:w4.cell? ⟨ib,4,none⟩=some (.int .i64 i.mn):=aA I4.o (i:=4) rfl
 have d5:w4.cell? ⟨ib,5,none⟩=some (.int .i64 i.mx):=aA I4.o (i:=5) rfl
 have d6:w4.cell? ⟨ib,6,none⟩=some (.int .u64 (aB i.s 0)):=aA I4.o (i:=6) rfl
 have d7:w4.cell? ⟨ib,7,none⟩=some (.int .u64 (aB i.s 1)):=aA I4.o (i:=7) rfl
 have d8:w4.cell? ⟨ib,8,none⟩=some (.int .u64 (aB i.s 2)):=aA I4.o (i:=8) rfl
 have d9:w4.cell? ⟨ib,9,none⟩=some (.int .u64 (aB i.s 3)):=aA I4.o (i:=9) rfl
 have u0:w4.cell? ⟨ub,0,none⟩=some (.bool true):=aA U4.o (i:=0) rfl
 have u1:w4.cell? ⟨ub,1,none⟩=some (.bool false):=aA U4.o (i:=1) rfl
 have u2:w4.cell? ⟨ub,2,none⟩=some (.bool false):=aA U4.o (i:=2) rfl
 have u3:w4.cell? ⟨ub,3,none⟩=some (.bool false):=aA U4.o (i:=3) rfl
 have u4:w4.cell? ⟨ub,4,none⟩=some (.bool false):=aA U4.o (i:=4) rfl
 have u5:w4.cell? ⟨ub,5,none⟩=some (.bool true):=aA U4.o (i:=5) rfl
 go_wp2
 go_ret
 exact⟨rfl,B4.o⟩
theorem oI{w:World}{p:Pg}(h:PgI w p){k:Nat}{i:Ins}(hi:p.L[k]?=some i)(hk:p.L.length<=40000)(ho:i.op=1)(hx0:¬ (0<=i.x))(hy0:0<=i.y)(hxz:¬ (i.x=0)):Calls Try.prog 31 #[.agg #[.slice p.q p.L.length p.c,.int .i64 p.g,.int .i64 p.k,.bool p.f],.int .i64 (k:Int)] w fun e w'=>e=.returned (.bool (false))/\wBl w w':=by
 have B1:Hid (wBl w (w.alloc (.cells #[.slice p.q p.L.length p.c,.int .i64 p.g,.int .i64 p.k,.bool p.f] 24))):=bz9
 have X1:Hid ((w.alloc (.cells #[.slice p.q p.L.length p.c,.int .i64 p.g,.int .i64 p.k,.bool p.f] 24)).heap[w.heap.size]?=some (.cells #[.slice p.q p.L.length p.c,.int .i64 p.g,.int .i64 p.k,.bool p.f] 24 (0,0))):=aE w _
 obtain⟨g1,o1,hq1,hl1,c0,c1,c2,c3,c4,c5,c6,c7,c8,c9⟩:=(h.li.kept B1.o).ten hi
 have hkl:=(f7.1 hi).1
 have k0:(0:Int)<=(k:Int):=by omega
 have k1:(k:Int)<(p.L.length:Int):=by omega
 have OF:=aD (aI i.op)
 have hu:usA i.op=[true,false,false,false,false,true]:=by rw [ho];rfl
 have hiso:isO i.op=true:=by rw [ho];rfl
 rw [hu,hiso] at OF
 have OF:Hid (∀ w,Calls Try.prog 42 #[.int .i64 i.op] w fun e w'=>e=.returned (.tuple #[.agg #[.bool true,.bool false,.bool false,.bool false,.bool false,.bool true],.bool true])/\wBl w w'):=OF
 have o9:(i.op==9)=false:=by rw [ho];rfl
 have o10:(i.op==10)=false:=by rw [ho];rfl
 have wl:IntKind.wrap .i64 ((p.L.length:Int)-1)=(p.L.length:Int)-1:=by rw [IntKind.wrap_i64];omega
 have exz:(i.x==0)=false:=by rw [f8];exact hxz
 have fxz:(i.x != 0)=true:=by simp [hxz]
 clear hxz
 clear hu hiso ho
 have HQ:=aD hq1
 clear h hi hq1
 go_enter Try.func31,Try.ntmps31
 go_upto_region 1 with fail
 generalize (w.alloc (.cells #[.slice p.q p.L.length p.c,.int .i64 p.g,.int .i64 p.k,.bool p.f] 24))=w1 at B1 X1 c0 c1 c2 c3 c4 c5 c6 c7 c8 c9 ⊢
 have p0:w1.cell? ⟨w.heap.size,0,none⟩=some (.slice p.q p.L.length p.c):=aA X1.o (i:=0) rfl
 rw [HQ.o] at p0
 go_upto_region 2 with fail
 have BA:wBl w1 (w1.alloc (.cells #[.int .i64 i.op,.int .i64 i.x,.int .i64 i.y,.int .i64 i.n,.int .i64 i.mn,.int .i64 i.mx,.int .u64 (aB i.s 0),.int .u64 (aB i.s 1),.int .u64 (aB i.s 2),.int .u64 (aB i.s 3)] 47)):=bz9
 have X2:=aD ((BA.block _ (aC X1.o)).trans X1.o)
 have I2:Hid ((w1.alloc (.cells #[.int .i64 i.op,.int .i64 i.x,.int .i64 i.y,.int .i64 i.n,.int .i64 i.mn,.int .i64 i.mx,.int .u64 (aB i.s 0),.int .u64 (aB i.s 1),.int .u64 (aB i.s 2),.int .u64 (aB i.s 3)] 47)).heap[w1.heap.size]?=some (.cells #[.int .i64 i.op,.int .i64 i.x,.int .i64 i.y,.int .i64 i.n,.int .i64 i.mn,.int .i64 i.mx,.int .u64 (aB i.s 0),.int .u64 (aB i.s 1),.int .u64 (aB i.s 2),.int .u64 (aB i.s 3)] 47 (0,0))):=aE w1 _
 have B2:=aD (aF B1.o BA lz9)
 clear BA c0 c1 c2 c3 c4 c5 c6 c7 c8 c9 p0
 generalize (w1.alloc (.cells #[.int .i64 i.op,.int .i64 i.x,.int .i64 i.y,.int .i64 i.n,.int .i64 i.mn,.int .i64 i.mx,.int .u64 (aB i.s 0),.int .u64 (aB i.s 1),.int .u64 (aB i.s 2),.int .u64 (aB i.s 3)] 47))=w2 at X2 I2 B2 ⊢
 obtain⟨ib,hib⟩:∃ ib,w1.heap.size=ib:=⟨_,rfl⟩
 rw [hib] at I2 ⊢
 clear hib
 have d0:w2.cell? ⟨ib,0,none⟩=some (.int .i64 i.op):=aA I2.o (i:=0) rfl
 go_upto_region 3 with (go_at_call 42;(with_reducible refine(OF.o _).mono ?_);rintro e w3 ⟨rfl,h3⟩;have X3:=aD ((h3.block _ (aC X2.o)).trans X2.o);have I3:=aD ((h3.block _ (aC I2.o)).trans I2.o);have B3:=aD (aF B2.o h3 lz9);clear h3)
 have BA:wBl w3 (w3.alloc (.cells #[.bool true,.bool false,.bool false,.bool false,.bool false,.bool true] 84)):=bz9
 have X4:=aD ((BA.block _ (aC X3.o)).trans X3.o)
 have I4:=aD ((BA.block _ (aC I3.o)).trans I3.o)
 have U4:Hid ((w3.alloc (.cells #[.bool true,.bool false,.bool false,.bool false,.bool false,.bool true] 84)).heap[w3.heap.size]?=some (.cells #[.bool true,.bool false,.bool false,.bool false,.bool false,.bool true] 84 (0,0))):=aE w3 _
 have B4:=aD (aF B3.o BA lz9)
 clear BA X3 I3 B3 X2 I2 B2
 generalize (w3.alloc (.cells #[.bool true,.bool false,.bool false,.bool false,.bool false,.bool true] 84))=w4 at X4 I4 U4 B4 ⊢
 obtain⟨ub,hub⟩:∃ ub,w3.heap.size=ub:=⟨_,rfl⟩
 rw [hub] at U4 ⊢
 clear hub
 have p0:w4.cell? ⟨w.heap.size,0,none⟩=some (.slice p.q p.L.length p.c):=aA X4.o (i:=0) rfl
 have p1:w4.cell? ⟨w.heap.size,1,none⟩=some (.int .i64 p.g):=aA X4.o (i:=1) rfl
 have p2:w4.cell? ⟨w.heap.size,2,none⟩=some (.int .i64 p.k):=aA X4.o (i:=2) rfl
 have d0:w4.cell? ⟨ib,0,none⟩=some (.int .i64 i.op):=aA I4.o (i:=0) rfl
 have d1:w4.cell? ⟨ib,1,none⟩=some (.int .i64 i.x):=aA I4.o (i:=1) rfl
 have d2:w4.cell? ⟨ib,2,none⟩=some (.int .i64 i.y):=aA I4.o (i:=2) rfl
 have d3:w4.cell? ⟨ib,3,none⟩=some (.int .i64 i.n):=aA I4.o (i:=3) rfl
 have d4:w4.cell? ⟨ib,4,none⟩=some (.int .i64 i.mn):=aA I4.o (i:=4) rfl
 have d5:w4.cell? ⟨ib,5,none⟩=some (.int .i64 i.mx):=aA I4.o (i:=5) rfl
 have d6:w4.cell? ⟨ib,6,none⟩=some (.int .u64 (aB i.s 0)):=aA I4.o (i:=6) rfl
 have d7:w4.cell? ⟨ib,7,none⟩=some (.int .u64 (aB i.s 1)):=aA I4.o (i:=7) rfl
 have d8:w4.cell? ⟨ib,8,none⟩=some (.int .u64 (aB i.s 2)):=aA I4.o (i:=8) rfl
 have d9:w4.cell? ⟨ib,9,none⟩=some (.int .u64 (aB i.s 3)):=aA I4.o (i:=9) rfl
 have u0:w4.cell? ⟨ub,0,none⟩=some (.bool true):=aA U4.o (i:=0) rfl
 have u1:w4.cell? ⟨ub,1,none⟩=some (.bool false):=aA U4.o (i:=1) rfl
 have u2:w4.cell? ⟨ub,2,none⟩=some (.bool false):=aA U4.o (i:=2) rfl
 have u3:w4.cell? ⟨ub,3,none⟩=some (.bool false):=aA U4.o (i:=3) rfl
 have u4:w4.cell? ⟨ub,4,none⟩=some (.bool false):=aA U4.o (i:=4) rfl
 have u5:w4.cell? ⟨ub,5,none⟩=some (.bool true):=aA U4.o (i:=5) rfl
 go_wp2
 go_ret
 exact⟨rfl,B4.o⟩
theorem jL{w:World}{p:Pg}(h:PgI w p){k:Nat}{i:Ins}(hi:p.L[k]?=some i)(hk:p.L.length<=40000)(ho:i.op=1)(hx0:¬ (0<=i.x))(hy0:¬ (0<=i.y))(hxz:¬ (i.x=0)):Calls Try.prog 31 #[.agg #[.slice p.q p.L.length p.c,.int .i64 p.g,.int .i64 p.k,.bool p.f],.int .i64 (k:Int)] w fun e w'=>e=.returned (.bool (false))/\wBl w w':=by
 have B1:Hid (wBl w (w.alloc (.cells #[.slice p.q p.L.length p.c,.int .i64 p.g,.int .i64 p.k,.bool p.f] 24))):=bz9
 have X1:Hid ((w.alloc (.cells #[.slice p.q p.L.length p.c,.int .i64 p.g,.int .i64 p.k,.bool p.f] 24)).heap[w.heap.size]?=some (.cells #[.slice p.q p.L.length p.c,.int .i64 p.g,.int .i64 p.k,.bool p.f] 24 (0,0))):=aE w _
 obtain⟨g1,o1,hq1,hl1,c0,c1,c2,c3,c4,c5,c6,c7,c8,c9⟩:=(h.li.kept B1.o).ten hi
 have hkl:=(f7.1 hi).1
 have k0:(0:Int)<=(k:Int):=by omega
 have k1:(k:Int)<(p.L.length:Int):=by omega
 have OF:=aD (aI i.op)
 have hu:usA i.op=[true,false,false,false,false,true]:=by rw [ho];rfl
 have hiso:isO i.op=true:=by rw [ho];rfl
 rw [hu,hiso] at OF
 have OF:Hid (∀ w,Calls Try.prog 42 #[.int .i64 i.op] w fun e w'=>e=.returned (.tuple #[.agg #[.bool true,.bool false,.bool false,.bool false,.bool false,.bool true],.bool true])/\wBl w w'):=OF
 have o9:(i.op==9)=false:=by rw [ho];rfl
 have o10:(i.op==10)=false:=by rw [ho];rfl
 have wl:IntKind.wrap .i64 ((p.L.length:Int)-1)=(p.L.length:Int)-1:=by rw [IntKind.wrap_i64];omega
 have exz:(i.x==0)=false:=by rw [f8];exact hxz
 have fxz:(i.x != 0)=true:=by simp [hxz]
 clear hxz
 clear hu hiso ho
 have HQ:=aD hq1
 clear h hi hq1
 go_enter Try.func31,Try.ntmps31
 go_upto_region 1 with fail
 generalize (w.alloc (.cells #[.slice p.q p.L.length p.c,.int .i64 p.g,.int .i64 p.k,.bool p.f] 24))=w1 at B1 X1 c0 c1 c2 c3 c4 c5 c6 c7 c8 c9 ⊢
 have p0:w1.cell? ⟨w.heap.size,0,none⟩=some (.slice p.q p.L.length p.c):=aA X1.o (i:=0) rfl
 rw [HQ.o] at p0
 go_upto_region 2 with fail
 have BA:wBl w1 (w1.alloc (.cells #[.int .i64 i.op,.int .i64 i.x,.int .i64 i.y,.int .i64 i.n,.int .i64 i.mn,.int .i64 i.mx,.int .u64 (aB i.s 0),.int .u64 (aB i.s 1),.int .u64 (aB i.s 2),.int .u64 (aB i.s 3)] 47)):=bz9
 have X2:=aD ((BA.block _ (aC X1.o)).trans X1.o)
 have I2:Hid ((w1.alloc (.cells #[.int .i64 i.op,.int .i64 i.x,.int .i64 i.y,.int .i64 i.n,.int .i64 i.mn,.int .i64 i.mx,.int .u64 (aB i.s 0),.int .u64 (aB i.s 1),.int .u64 (aB i.s 2),.int .u64 (aB i.s 3)] 47)).heap[w1.heap.size]?=some (.cells #[.int .i64 i.op,.int .i64 i.x,.int .i64 i.y,.int .i64 i.n,.int .i64 i.mn,.int .i64 i.mx,.int .u64 (aB i.s 0),.int .u64 (aB i.s 1),.int .u64 (aB i.s 2),.int .u64 (aB i.s 3)] 47 (0,0))):=aE w1 _
 have B2:=aD (aF B1.o BA lz9)
 clear BA c0 c1 c2 c3 c4 c5 c6 c7 c8 c9 p0
 generalize (w1.alloc (.cells #[.int .i64 i.op,.int .i64 i.x,.int .i64 i.y,.int .i64 i.n,.int .i64 i.mn,.int .i64 i.mx,.int .u64 (aB i.s 0),.int .u64 (aB i.s 1),.int .u64 (aB i.s 2),.int .u64 (aB i.s 3)] 47))=w2 at X2 I2 B2 ⊢
 obtain⟨ib,hib⟩:∃ ib,w1.heap.size=ib:=⟨_,rfl⟩
 rw [hib] at I2 ⊢
 clear hib
 have d0:w2.cell? ⟨ib,0,none⟩=some (.int .i64 i.op):=aA I2.o (i:=0) rfl
 go_upto_region 3 with (go_at_call 42;(with_reducible refine(OF.o _).mono ?_);rintro e w3 ⟨rfl,h3⟩;have X3:=aD ((h3.block _ (aC X2.o)).trans X2.o);have I3:=aD ((h3.block _ (aC I2.o)).trans I2.o);have B3:=aD (aF B2.o h3 lz9);clear h3)
 have BA:wBl w3 (w3.alloc (.cells #[.bool true,.bool false,.bool false,.bool false,.bool false,.bool true] 84)):=bz9
 have X4:=aD ((BA.block _ (aC X3.o)).trans X3.o)
 have I4:=aD ((BA.block _ (aC I3.o)).trans I3.o)
 have U4:Hid ((w3.alloc (.cells #[.bool true,.bool false,.bool false,.bool false,.bool false,.bool true] 84)).heap[w3.heap.size]?=some (.cells #[.bool true,.bool false,.bool false,.bool false,.bool false,.bool true] 84 (0,0))):=aE w3 _
 have B4:=aD (aF B3.o BA lz9)
 clear BA X3 I3 B3 X2 I2 B2
 generalize (w3.alloc (.cells #[.bool true,.bool false,.bool false,.bool false,.bool false,.bool true] 84))=w4 at X4 I4 U4 B4 ⊢
 obtain⟨ub,hub⟩:∃ ub,w3.heap.size=ub:=⟨_,rfl⟩
 rw [hub] at U4 ⊢
 clear hub
 have p0:w4.cell? ⟨w.heap.size,0,none⟩=some (.slice p.q p.L.length p.c):=aA X4.o (i:=0) rfl
 have p1:w4.cell? ⟨w.heap.size,1,none⟩=some (.int .i64 p.g):=aA X4.o (i:=1) rfl
 have p2:w4.cell? ⟨w.heap.size,2,none⟩=some (.int .i64 p.k):=aA X4.o (i:=2) rfl
 have d0:w4.cell? ⟨ib,0,none⟩=some (.int .i64 i.op):=aA I4.o (i:=0) rfl
 have d1:w4.cell? ⟨ib,1,none⟩=some (.int .i64 i.x):=aA I4.o (i:=1) rfl
 have d2:w4.cell? ⟨ib,2,none⟩=some (.int .i64 i.y):=aA I4.o (i:=2) rfl
 have d3:w4.cell? ⟨ib,3,none⟩=some (.int .i64 i.n):=aA I4.o (i:=3) rfl
 have d4:w4.cell? ⟨ib,4,none⟩=some (.int .i64 i.mn):=aA I4.o (i:=4) rfl
 have d5:w4.cell? ⟨ib,5,none⟩=some (.int .i64 i.mx):=aA I4.o (i:=5) rfl
 have d6:w4.cell? ⟨ib,6,none⟩=some (.int .u64 (aB i.s 0)):=aA I4.o (i:=6) rfl
 have d7:w4.cell? ⟨ib,7,none⟩=some (.int .u64 (aB i.s 1)):=aA I4.o (i:=7) rfl
 have d8:w4.cell? ⟨ib,8,none⟩=some (.int .u64 (aB i.s 2)):=aA I4.o (i:=8) rfl
 have d9:w4.cell? ⟨ib,9,none⟩=some (.int .u64 (aB i.s 3)):=aA I4.o (i:=9) rfl
 have u0:w4.cell? ⟨ub,0,none⟩=some (.bool true):=aA U4.o (i:=0) rfl
 have u1:w4.cell? ⟨ub,1,none⟩=some (.bool false):=aA U4.o (i:=1) rfl
 have u2:w4.cell? ⟨ub,2,none⟩=some (.bool false):=aA U4.o (i:=2) rfl
 have u3:w4.cell? ⟨ub,3,none⟩=some (.bool false):=aA U4.o (i:=3) rfl
 have u4:w4.cell? ⟨ub,4,none⟩=some (.bool false):=aA U4.o (i:=4) rfl
 have u5:w4.cell? ⟨ub,5,none⟩=some (.bool true):=aA U4.o (i:=5) rfl
 go_wp2
 go_ret
 exact⟨rfl,B4.o⟩
theorem rP{w:World}{p:Pg}(h:PgI w p){k:Nat}{i:Ins}(hi:p.L[k]?=some i)(hk:p.L.length<=40000)(ho:i.op=1):Calls Try.prog 31 #[.agg #[.slice p.q p.L.length p.c,.int .i64 p.g,.int .i64 p.k,.bool p.f],.int .i64 (k:Int)] w fun e w'=>e=.returned (.bool (fnD p k i))/\wBl w w':=by
 have hkl:=(f7.1 hi).1
 by_cases hx0:0<=i.x
 ·skip
  by_cases hy0:0<=i.y
  ·skip
   by_cases hxz:i.x=0
   ·skip
    by_cases hyz:i.y=0
    ·skip
     by_cases hnz:i.n=0
     ·skip
      by_cases hmnz:i.mn=0
      ·skip
       by_cases hmxz:i.mx=0
       ·skip
        exact(bK (oQ h hi hk ho hx0 hy0 hxz hyz hnz hmnz hmxz) (by unfold fnD;rw [show usA i.op=[true,false,false,false,false,true] from by rw [ho];rfl];simp [ho,isO,hx0,hy0,hxz,hyz,hnz,hmnz,hmxz];try omega))
       ·skip
        exact(bK (oP h hi hk ho hx0 hy0 hxz hyz hnz hmnz hmxz) (by unfold fnD;rw [show usA i.op=[true,false,false,false,false,true] from by rw [ho];rfl];simp [ho,isO,hx0,hy0,hxz,hyz,hnz,hmnz,hmxz];try omega))
      ·skip
       exact(bK (oO h hi hk ho hx0 hy0 hxz hyz hnz hmnz) (by unfold fnD;rw [show usA i.op=[true,false,false,false,false,true] from by rw [ho];rfl];simp [ho,isO,hx0,hy0,hxz,hyz,hnz,hmnz];try omega))
     ·skip
      exact(bK (oN h hi hk ho hx0 hy0 hxz hyz hnz) (by unfold fnD;rw [show usA i.op=[true,false,false,false,false,true] from by rw [ho];rfl];simp [ho,isO,hx0,hy0,hxz,hyz,hnz];try omega))
    ·skip
     exact(bK (oM h hi hk ho hx0 hy0 hxz hyz) (by unfold fnD;rw [show usA i.op=[true,false,false,false,false,true] from by rw [ho];rfl];simp [ho,isO,hx0,hy0,hxz,hyz];try omega))
   ·skip
    exact(bK (oL h hi hk ho hx0 hy0 hxz) (by unfold fnD;rw [show usA i.op=[true,false,false,false,false,true] from by rw [ho];rfl];simp [ho,isO,hx0,hy0,hxz];try omega))
  ·skip
   by_cases hxz:i.x=0
   ·skip
    by_cases hyz:i.y=0
    ·skip
     by_cases hnz:i.n=0
     ·skip
      by_cases hmnz:i.mn=0
      ·skip
       by_cases hmxz:i.mx=0
       ·skip
        exfalso;omega
       ·skip
        exfalso;omega
      ·skip
       exfalso;omega
     ·skip
      exfalso;omega
    ·skip
     exact(bK (oK h hi hk ho hx0 hy0 hxz hyz) (by unfold fnD;rw [show usA i.op=[true,false,false,false,false,true] from by rw [ho];rfl];simp [ho,isO,hx0,hy0,hxz,hyz];try omega))
   ·skip
    exact(bK (oJ h hi hk ho hx0 hy0 hxz) (by unfold fnD;rw [show usA i.op=[true,false,false,false,false,true] from by rw [ho];rfl];simp [ho,isO,hx0,hy0,hxz];try omega))
 ·skip
  by_cases hy0:0<=i.y
  ·skip
   by_cases hxz:i.x=0
   ·skip
    by_cases hyz:i.y=0
    ·skip
     by_cases hnz:i.n=0
     ·skip
      by_cases hmnz:i.mn=0
      ·skip
       by_cases hmxz:i.mx=0
       ·skip
        exfalso;omega
       ·skip
        exfalso;omega
      ·skip
       exfalso;omega
     ·skip
      exfalso;omega
    ·skip
     exfalso;omega
   ·skip
    exact(bK (oI h hi hk ho hx0 hy0 hxz) (by unfold fnD;rw [show usA i.op=[true,false,false,false,false,true] from by rw [ho];rfl];simp [ho,isO,hx0,hy0,hxz];try omega))
  ·skip
   by_cases hxz:i.x=0
   ·skip
    by_cases hyz:i.y=0
    ·skip
     by_cases hnz:i.n=0
     ·skip
      by_cases hmnz:i.mn=0
      ·skip
       by_cases hmxz:i.mx=0
       ·skip
        exfalso;omega
       ·skip
        exfalso;omega
      ·skip
       exfalso;omega
     ·skip
      exfalso;omega
    ·skip
     exfalso;omega
   ·skip
    exact(bK (jL h hi hk ho hx0 hy0 hxz) (by unfold fnD;rw [show usA i.op=[true,false,false,false,false,true] from by rw [ho];rfl];simp [ho,isO,hx0,hy0,hxz];try omega))
end
end Go.Proofs.Ytliflleaeimngaa
