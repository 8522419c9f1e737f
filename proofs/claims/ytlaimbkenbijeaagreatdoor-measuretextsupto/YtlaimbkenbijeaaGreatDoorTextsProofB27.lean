/-
  Parts of the proof.
-/
import Derived.Test.YtlaimbkenbijeaaGreatDoorTextsProofA0
import Derived.Test.YtlaimbkenbijeaaGreatDoorTextsProofB26
import Derived.Test.YtlaimbkenbijeaaGreatDoorTextsProofB2
set_option maxRecDepth 100000
set_option maxHeartbeats 8000000
namespace Go.Proofs.YtlaimbkenbijeaaGreatDoor
open Go Go.RowKit
set_option linter.unusedVariables false
attribute [local go_sem] Oper.semAt_some
theorem bB6(w:World):Calls Tryz.prog 35 #[.int .i64 97,.int .i64 97] w fun e w'=>∃ a,e=.returned (.agg #[.int .i64 2,.int .i64 0,.int .i64 0,.int .i64 0,.slice (some ⟨a,0,none⟩) 1 1,.slice none 0 0])/\w'.heap[a]?=some (.cells #[.int .i64 97,.int .i64 97] 110 (0,0))/\Below w.heap.size w w':=by
 have B1:Hid (Below w.heap.size w (w.alloc (.cells #[.int .i64 0,.int .i64 0,.int .i64 0,.int .i64 0,.slice none 0 0,.slice none 0 0] 25))):=bz9
 have R1:=aD (aE w (.cells #[.int .i64 0,.int .i64 0,.int .i64 0,.int .i64 0,.slice none 0 0,.slice none 0 0] 25))
 go_enter Tryz.func35,Tryz.ntmps35
 go_upto_region 1 with fail
 generalize hV:w.alloc (.cells #[.int .i64 0,.int .i64 0,.int .i64 0,.int .i64 0,.slice none 0 0,.slice none 0 0] 25)=V at B1 R1 ⊢
 clear hV
 have R2:Hid ((V.alloc (.cells #[.int .i64 97,.int .i64 97] 110)).heap[w.heap.size]?=some (.cells #[.int .i64 0,.int .i64 0,.int .i64 0,.int .i64 0,.slice none 0 0,.slice none 0 0] 25 (0,0))):=(Below.heap_alloc _ _ _ (aB R1.out)).trans R1.out
 have B2:Hid (Below w.heap.size w (V.alloc (.cells #[.int .i64 97,.int .i64 97] 110))):=B1.out.alloc B1.out.size _
 have A2:=aD (aE V (.cells #[.int .i64 97,.int .i64 97] 110))
 have NE:V.heap.size≠w.heap.size:=by have:=aB R1.out;omega
 have z0:=aA R2.out (i:=0) rfl
 have z1:=aA R2.out (i:=1) rfl
 have z2:=aA R2.out (i:=2) rfl
 have z3:=aA R2.out (i:=3) rfl
 have z4:=aA R2.out (i:=4) rfl
 have z5:=aA R2.out (i:=5) rfl
 have fz:=fun z=>aG R2.out z
 go_wp2
 have T9:=bA R2.out [.int .i64 2,.int .i64 0,.int .i64 0,.int .i64 0,.slice (some ⟨V.heap.size,0,none⟩) 1 1,.slice none 0 0] rfl
 have K9:=((aV (w.heap.size) [.int .i64 2,.int .i64 0,.int .i64 0,.int .i64 0,.slice (some ⟨V.heap.size,0,none⟩) 1 1,.slice none 0 0] 0 (V.alloc (.cells #[.int .i64 97,.int .i64 97] 110))).block _ (aB A2.out) NE).trans A2.out
 have D9:=bC B2.out (aV (w.heap.size) [.int .i64 2,.int .i64 0,.int .i64 0,.int .i64 0,.slice (some ⟨V.heap.size,0,none⟩) 1 1,.slice none 0 0] 0 (V.alloc (.cells #[.int .i64 97,.int .i64 97] 110))) lz9 (fun k e=>by omega)
 simp only [bD] at T9 K9 D9
 refine bodyPost_ret (v:=.agg #[.int .i64 2,.int .i64 0,.int .i64 0,.int .i64 0,.slice (some ⟨V.heap.size,0,none⟩) 1 1,.slice none 0 0]) ?_ rfl ⟨V.heap.size,rfl,K9,D9⟩
 have y0:=aA T9 (i:=0) rfl
 have y1:=aA T9 (i:=1) rfl
 have y2:=aA T9 (i:=2) rfl
 have y3:=aA T9 (i:=3) rfl
 have y4:=aA T9 (i:=4) rfl
 have y5:=aA T9 (i:=5) rfl
 simp [results,Tryz.results35,go_sem,y0,y1,y2,y3,y4,y5]
theorem aW1(W:World)(k n mn mx:Int):TB W (.mk ⟨k,n,mn,mx,[],none,0,none,0,0⟩ []):=
 (bE _).2 ⟨⟨.inl ⟨none,0,rfl,rfl,fun _=>rfl⟩,.inl ⟨none,0,rfl,rfl,fun _=>rfl⟩,(fun r hr=>by cases hr),by simp [Tr.f]⟩,(bX _).2 fun u hu=>by simp [Tr.ks] at hu⟩
theorem tbA{W:World}{a:Nat}(h0:W.heap[a]?=some (.cells #[.int .i64 97,.int .i64 97] 110 (0,0))):TB W (exA a):=by
 refine(bE _).2 ⟨⟨.inr ⟨a,0,1,rfl,aB h0,by simp [exA,Tr.f],by unfold maxLen;omega,fun i r hr=>?_⟩,.inl ⟨none,0,rfl,rfl,fun _=>rfl⟩,fun r hr=>by simp [exA,Tr.f] at hr;subst hr;simp,by simp [exA,Tr.f]⟩,(bX _).2 fun u hu=>by simp [exA,Tr.ks] at hu⟩
 match i,hr with
 | 0,hr=>
  simp [exA,Tr.f] at hr
  subst hr
  exact⟨aA h0 rfl,aA h0 rfl⟩
 | i+1,hr=>simp [exA,Tr.f] at hr
theorem tbG{W:World}{a g:Nat}(hA:TB W (exA a))(h1:W.heap[g]?=some (.cells #[.int .i64 2,.int .i64 0,.int .i64 0,.int .i64 0,.slice (some ⟨a,0,none⟩) 1 1,.slice none 0 0] 25 (0,0))):TB W (exG a g):=by
 refine(bE _).2 ⟨⟨.inl ⟨none,0,rfl,rfl,fun _=>rfl⟩,.inr ⟨g,0,1,rfl,aB h1,by simp [exG,Tr.ks],by unfold maxLen;omega,fun i t ht=>?_⟩,fun r hr=>by simp [exG,Tr.f] at hr,by simp [exG,Tr.f]⟩,(bX _).2 fun u hu=>?_⟩
 ·match i,ht with
  | 0,ht=>
   simp [exG,Tr.ks] at ht
   subst ht
   exact⟨aA h1 rfl,aA h1 rfl,aA h1 rfl,aA h1 rfl,aA h1 rfl,aA h1 rfl⟩
  | i+1,ht=>simp [exG,Tr.ks] at ht
 ·simp [exG,Tr.ks] at hu
  subst hu
  exact hA
theorem tbR{W:World}{a g r:Nat}(hA:TB W (exG a g))(h1:W.heap[r]?=some (.cells #[.int .i64 7,.int .i64 1,.int .i64 0,.int .i64 0,.slice none 0 0,.slice (some ⟨g,0,none⟩) 1 1] 25 (0,0))):TB W (exR a g r):=by
 refine(bE _).2 ⟨⟨.inl ⟨none,0,rfl,rfl,fun _=>rfl⟩,.inr ⟨r,0,1,rfl,aB h1,by simp [exR,Tr.ks],by unfold maxLen;omega,fun i t ht=>?_⟩,fun r hr=>by simp [exR,Tr.f] at hr,by simp [exR,Tr.f]⟩,(bX _).2 fun u hu=>?_⟩
 ·match i,ht with
  | 0,ht=>
   simp [exR,Tr.ks] at ht
   subst ht
   exact⟨aA h1 rfl,aA h1 rfl,aA h1 rfl,aA h1 rfl,aA h1 rfl,aA h1 rfl⟩
  | i+1,ht=>simp [exR,Tr.ks] at ht
 ·simp [exR,Tr.ks] at hu
  subst hu
  exact hA
theorem tbN{W:World}{a g n:Nat}(hA:TB W (exG a g))(h1:W.heap[n]?=some (.cells #[.int .i64 3,.int .i64 0,.int .i64 0,.int .i64 0,.slice none 0 0,.slice none 0 0,.int .i64 7,.int .i64 1,.int .i64 0,.int .i64 0,.slice none 0 0,.slice (some ⟨g,0,none⟩) 1 1,.int .i64 8,.int .i64 1,.int .i64 0,.int .i64 0,.slice none 0 0,.slice none 0 0] 25 (0,0))):TB W (exN a g n):=by
 refine(bE _).2 ⟨⟨.inl ⟨none,0,rfl,rfl,fun _=>rfl⟩,.inr ⟨n,0,3,rfl,aB h1,by simp [exN,Tr.ks],by unfold maxLen;omega,fun i t ht=>?_⟩,fun r hr=>by simp [exN,Tr.f] at hr,by simp [exN,Tr.f]⟩,(bX _).2 fun u hu=>?_⟩
 ·match i,ht with
  | 0,ht=>
   simp [exN,Tr.ks] at ht
   subst ht
   exact⟨aA h1 rfl,aA h1 rfl,aA h1 rfl,aA h1 rfl,aA h1 rfl,aA h1 rfl⟩
  | 1,ht=>
   simp [exN,Tr.ks] at ht
   subst ht
   exact⟨aA h1 rfl,aA h1 rfl,aA h1 rfl,aA h1 rfl,aA h1 rfl,aA h1 rfl⟩
  | 2,ht=>
   simp [exN,Tr.ks] at ht
   subst ht
   exact⟨aA h1 rfl,aA h1 rfl,aA h1 rfl,aA h1 rfl,aA h1 rfl,aA h1 rfl⟩
  | i+3,ht=>simp [exN,Tr.ks] at ht
 ·simp [exN,Tr.ks] at hu
  rcases hu with rfl | rfl | rfl
  ·exact aW1 _ _ _ _ _
  ·exact hA
  ·exact aW1 _ _ _ _ _
structure EX(bm a g r n xg xr xn:Nat)(V:World):Prop where
 fm:V.heap[bm]?=some (.cells #[.bool false,.bool false] 27 (0,0))
 fa:V.heap[a]?=some (.cells #[.int .i64 97,.int .i64 97] 110 (0,0))
 fg:V.heap[g]?=some (.cells #[.int .i64 2,.int .i64 0,.int .i64 0,.int .i64 0,.slice (some ⟨a,0,none⟩) 1 1,.slice none 0 0] 25 (0,0))
 fr:V.heap[r]?=some (.cells #[.int .i64 7,.int .i64 1,.int .i64 0,.int .i64 0,.slice none 0 0,.slice (some ⟨g,0,none⟩) 1 1] 25 (0,0))
 fn:V.heap[n]?=some (.cells #[.int .i64 3,.int .i64 0,.int .i64 0,.int .i64 0,.slice none 0 0,.slice none 0 0,.int .i64 7,.int .i64 1,.int .i64 0,.int .i64 0,.slice none 0 0,.slice (some ⟨g,0,none⟩) 1 1,.int .i64 8,.int .i64 1,.int .i64 0,.int .i64 0,.slice none 0 0,.slice none 0 0] 25 (0,0))
 fxg:V.heap[xg]?=some (.cells #[.int .i64 7,.int .i64 1,.int .i64 0,.int .i64 0,.slice none 0 0,.slice (some ⟨g,0,none⟩) 1 1] 25 (0,0))
 fxr:V.heap[xr]?=some (.cells #[.int .i64 9,.int .i64 0,.int .i64 3,.int .i64 3,.slice none 0 0,.slice (some ⟨r,0,none⟩) 1 1] 25 (0,0))
 fxn:V.heap[xn]?=some (.cells #[.int .i64 5,.int .i64 0,.int .i64 0,.int .i64 0,.slice none 0 0,.slice (some ⟨n,0,none⟩) 3 3] 25 (0,0))
theorem EX.kept{bm a g r n xg xr xn:Nat}{V V':World}(h:EX bm a g r n xg xr xn V)(hb:Below V.heap.size V V'):EX bm a g r n xg xr xn V':=
 ⟨(hb.block _ (aB h.fm)).trans h.fm,(hb.block _ (aB h.fa)).trans h.fa,(hb.block _ (aB h.fg)).trans h.fg,(hb.block _ (aB h.fr)).trans h.fr,(hb.block _ (aB h.fn)).trans h.fn,(hb.block _ (aB h.fxg)).trans h.fxg,(hb.block _ (aB h.fxr)).trans h.fxr,(hb.block _ (aB h.fxn)).trans h.fxn⟩
theorem EX.tg{bm a g r n xg xr xn:Nat}{V:World}(h:EX bm a g r n xg xr xn V):TB V (exG a g):=tbG (tbA h.fa) h.fg
theorem EX.tr{bm a g r n xg xr xn:Nat}{V:World}(h:EX bm a g r n xg xr xn V):TB V (exR a g r):=tbR h.tg h.fr
theorem EX.tn{bm a g r n xg xr xn:Nat}{V:World}(h:EX bm a g r n xg xr xn V):TB V (exN a g n):=tbN h.tg h.fn
theorem bP7:(aC (fB false [(97,97)]) 1==0)=false:=by
 have hb:(fB false [(97,97)]).getLsbD 97=true:=by
  unfold fB
  rw [eT _ _ _ lz9]
  simp only [aAT,aBC]
  exact⟨by omega,97,(eK ..).2 (by simp),by unfold bP top;simp,rfl⟩
 rw [i4]
 intro h
 unfold aC at h
 have h2:((fB false [(97,97)]).extractLsb' (64 * 1) 64).toNat=0:=by omega
 have h3:(fB false [(97,97)]).extractLsb' (64 * 1) 64=0#64:=BitVec.eq_of_toNat_eq (by simpa using h2)
 have h4:=congrArg (fun x=>BitVec.getLsbD x 33) h3
 simp only [BitVec.getLsbD_extractLsb'] at h4
 rw [show 64 * 1+33=97 from rfl,hb] at h4
 simp at h4
theorem wT{w:World}(hgw:GloS w):Calls Tryz.prog 9 #[] w fun e w'=>e=.returned (.bool true)/\Below w.heap.size w w':=by
 have HG:=aD hgw
 clear hgw
 go_enter Tryz.func9,Tryz.ntmps9
 have B0:Hid (Below w.heap.size w w):=Below.refl _ _
 have F2_bm:Hid ((w.alloc (.cells #[.bool false,.bool false] 27)).heap[w.heap.size]?=some (.cells #[.bool false,.bool false] 27 (0,0))):=aD (by(repeat (first | exact aK _ (by first | rfl | simp only [a7]) | rw [Below.heap_alloc _ _ _ (by first | omega |(simp only [a7];omega))])))
 have B2:Hid (Below w.heap.size w (w.alloc (.cells #[.bool false,.bool false] 27))):=(B0.out.alloc (by have:=B0.out.size;first | omega |(simp only [a7];omega)) _)
 go_upto_region 2 with fail
 generalize hV:(w.alloc (.cells #[.bool false,.bool false] 27))=w1 at F2_bm B2 ⊢
 clear hV B0
 generalize w.heap.size=bm at F2_bm ⊢
 have F_bm:=F2_bm
 have B0:=B2
 clear B2 F2_bm
 have SC:=aD (bB6 w1)
 go_upto_region 3 with (go_at_call 35;refine SC.out.mono ?_;rintro e w2 ⟨a,rfl,ha,hb⟩;have F_a:=aD ha;have F2_bm:=aD ((hb.block _ (aB F_bm.out)).trans F_bm.out);have B2:=aD (aJ B0.out hb lz9);clear ha hb B0 F_bm)
 have F_bm:=F2_bm
 have B0:=B2
 clear B2 F2_bm SC
 have F2_bm:Hid ((w2.alloc (.cells #[.int .i64 2,.int .i64 0,.int .i64 0,.int .i64 0,.slice (some ⟨a,0,none⟩) 1 1,.slice none 0 0] 25)).heap[bm]?=some (.cells #[.bool false,.bool false] 27 (0,0))):=aD (by(repeat (rw [Below.heap_alloc _ _ _ (by have:=aB F_bm.out;first | omega |(simp only [a7];omega))]));exact F_bm.out)
 have F2_a:Hid ((w2.alloc (.cells #[.int .i64 2,.int .i64 0,.int .i64 0,.int .i64 0,.slice (some ⟨a,0,none⟩) 1 1,.slice none 0 0] 25)).heap[a]?=some (.cells #[.int .i64 97,.int .i64 97] 110 (0,0))):=aD (by(repeat (rw [Below.heap_alloc _ _ _ (by have:=aB F_a.out;first | omega |(simp only [a7];omega))]));exact F_a.out)
 have F2_xa:Hid ((w2.alloc (.cells #[.int .i64 2,.int .i64 0,.int .i64 0,.int .i64 0,.slice (some ⟨a,0,none⟩) 1 1,.slice none 0 0] 25)).heap[w2.heap.size]?=some (.cells #[.int .i64 2,.int .i64 0,.int .i64 0,.int .i64 0,.slice (some ⟨a,0,none⟩) 1 1,.slice none 0 0] 25 (0,0))):=aD (by(repeat (first | exact aK _ (by first | rfl | simp only [a7]) | rw [Below.heap_alloc _ _ _ (by first | omega |(simp only [a7];omega))])))
 have B2:Hid (Below w.heap.size w (w2.alloc (.cells #[.int .i64 2,.int .i64 0,.int .i64 0,.int .i64 0,.slice (some ⟨a,0,none⟩) 1 1,.slice none 0 0] 25))):=(B0.out.alloc (by have:=B0.out.size;first | omega |(simp only [a7];omega)) _)
 generalize hV:(w2.alloc (.cells #[.int .i64 2,.int .i64 0,.int .i64 0,.int .i64 0,.slice (some ⟨a,0,none⟩) 1 1,.slice none 0 0] 25))=w3 at F2_bm F2_a F2_xa B2 ⊢
 clear hV B0 F_bm F_a
 generalize w2.heap.size=xa at F2_bm F2_a F2_xa ⊢
 have F_bm:=F2_bm
 have F_a:=F2_a
 have F_xa:=F2_xa
 have B0:=B2
 clear B2 F2_bm F2_a F2_xa
 have c0:=aA F_xa.out (i:=0) rfl
 have c1:=aA F_xa.out (i:=1) rfl
 have c2:=aA F_xa.out (i:=2) rfl
 have c3:=aA F_xa.out (i:=3) rfl
 have c4:=aA F_xa.out (i:=4) rfl
 have c5:=aA F_xa.out (i:=5) rfl
 have F2_bm:Hid (((w3.alloc (.cells #[.int .i64 2,.int .i64 0,.int .i64 0,.int .i64 0,.slice (some ⟨a,0,none⟩) 1 1,.slice none 0 0] 25)).alloc (.cells #[.int .i64 7,.int .i64 1,.int .i64 0,.int .i64 0,.slice none 0 0,.slice (some ⟨w3.heap.size,0,none⟩) 1 1] 25)).heap[bm]?=some (.cells #[.bool false,.bool false] 27 (0,0))):=aD (by(repeat (rw [Below.heap_alloc _ _ _ (by have:=aB F_bm.out;first | omega |(simp only [a7];omega))]));exact F_bm.out)
 have F2_a:Hid (((w3.alloc (.cells #[.int .i64 2,.int .i64 0,.int .i64 0,.int .i64 0,.slice (some ⟨a,0,none⟩) 1 1,.slice none 0 0] 25)).alloc (.cells #[.int .i64 7,.int .i64 1,.int .i64 0,.int .i64 0,.slice none 0 0,.slice (some ⟨w3.heap.size,0,none⟩) 1 1] 25)).heap[a]?=some (.cells #[.int .i64 97,.int .i64 97] 110 (0,0))):=aD (by(repeat (rw [Below.heap_alloc _ _ _ (by have:=aB F_a.out;first | omega |(simp only [a7];omega))]));exact F_a.out)
 have F2_xa:Hid (((w3.alloc (.cells #[.int .i64 2,.int .i64 0,.int .i64 0,.int .i64 0,.slice (some ⟨a,0,none⟩) 1 1,.slice none 0 0] 25)).alloc (.cells #[.int .i64 7,.int .i64 1,.int .i64 0,.int .i64 0,.slice none 0 0,.slice (some ⟨w3.heap.size,0,none⟩) 1 1] 25)).heap[xa]?=some (.cells #[.int .i64 2,.int .i64 0,.int .i64 0,.int .i64 0,.slice (some ⟨a,0,none⟩) 1 1,.slice none 0 0] 25 (0,0))):=aD (by(repeat (rw [Below.heap_alloc _ _ _ (by have:=aB F_xa.out;first | omega |(simp only [a7];omega))]));exact F_xa.out)
 have F2_g:Hid (((w3.alloc (.cells #[.int .i64 2,.int .i64 0,.int .i64 0,.int .i64 0,.slice (some ⟨a,0,none⟩) 1 1,.slice none 0 0] 25)).alloc (.cells #[.int .i64 7,.int .i64 1,.int .i64 0,.int .i64 0,.slice none 0 0,.slice (some ⟨w3.heap.size,0,none⟩) 1 1] 25)).heap[w3.heap.size]?=some (.cells #[.int .i64 2,.int .i64 0,.int .i64 0,.int .i64 0,.slice (some ⟨a,0,none⟩) 1 1,.slice none 0 0] 25 (0,0))):=aD (by(repeat (first | exact aK _ (by first | rfl | simp only [a7]) | rw [Below.heap_alloc _ _ _ (by first | omega |(simp only [a7];omega))])))
 have F2_xg:Hid (((w3.alloc (.cells #[.int .i64 2,.int .i64 0,.int .i64 0,.int .i64 0,.slice (some ⟨a,0,none⟩) 1 1,.slice none 0 0] 25)).alloc (.cells #[.int .i64 7,.int .i64 1,.int .i64 0,.int .i64 0,.slice none 0 0,.slice (some ⟨w3.heap.size,0,none⟩) 1 1] 25)).heap[w3.heap.size+1]?=some (.cells #[.int .i64 7,.int .i64 1,.int .i64 0,.int .i64 0,.slice none 0 0,.slice (some ⟨w3.heap.size,0,none⟩) 1 1] 25 (0,0))):=aD (by(repeat (first | exact aK _ (by first | rfl | simp only [a7]) | rw [Below.heap_alloc _ _ _ (by first | omega |(simp only [a7];omega))])))
 have B2:Hid (Below w.heap.size w ((w3.alloc (.cells #[.int .i64 2,.int .i64 0,.int .i64 0,.int .i64 0,.slice (some ⟨a,0,none⟩) 1 1,.slice none 0 0] 25)).alloc (.cells #[.int .i64 7,.int .i64 1,.int .i64 0,.int .i64 0,.slice none 0 0,.slice (some ⟨w3.heap.size,0,none⟩) 1 1] 25))):=((B0.out.alloc (by have:=B0.out.size;first | omega |(simp only [a7];omega)) _).alloc (by have:=B0.out.size;first | omega |(simp only [a7];omega)) _)
 go_upto_region 4 with fail
 generalize hV:((w3.alloc (.cells #[.int .i64 2,.int .i64 0,.int .i64 0,.int .i64 0,.slice (some ⟨a,0,none⟩) 1 1,.slice none 0 0] 25)).alloc (.cells #[.int .i64 7,.int .i64 1,.int .i64 0,.int .i64 0,.slice none 0 0,.slice (some ⟨w3.heap.size,0,none⟩) 1 1] 25))=w4 at F2_bm F2_a F2_xa F2_g F2_xg B2 ⊢
 clear hV B0 F_bm F_a F_xa
 generalize w3.heap.size+1=xg at F2_bm F2_a F2_xa F2_g F2_xg ⊢
 generalize w3.heap.size=g at F2_bm F2_a F2_xa F2_g F2_xg ⊢
 have F_bm:=F2_bm
 have F_a:=F2_a
 have F_xa:=F2_xa
 have F_g:=F2_g
 have F_xg:=F2_xg
 have B0:=B2
 clear B2 F2_bm F2_a F2_xa F2_g F2_xg
 clear c0 c1 c2 c3 c4 c5
 have c0:=aA F_xg.out (i:=0) rfl
 have c1:=aA F_xg.out (i:=1) rfl
 have c2:=aA F_xg.out (i:=2) rfl
 have c3:=aA F_xg.out (i:=3) rfl
 have c4:=aA F_xg.out (i:=4) rfl
 have c5:=aA F_xg.out (i:=5) rfl
 have F2_bm:Hid (((w4.alloc (.cells #[.int .i64 7,.int .i64 1,.int .i64 0,.int .i64 0,.slice none 0 0,.slice (some ⟨g,0,none⟩) 1 1] 25)).alloc (.cells #[.int .i64 9,.int .i64 0,.int .i64 3,.int .i64 3,.slice none 0 0,.slice (some ⟨w4.heap.size,0,none⟩) 1 1] 25)).heap[bm]?=some (.cells #[.bool false,.bool false] 27 (0,0))):=aD (by(repeat (rw [Below.heap_alloc _ _ _ (by have:=aB F_bm.out;first | omega |(simp only [a7];omega))]));exact F_bm.out)
 have F2_a:Hid (((w4.alloc (.cells #[.int .i64 7,.int .i64 1,.int .i64 0,.int .i64 0,.slice none 0 0,.slice (some ⟨g,0,none⟩) 1 1] 25)).alloc (.cells #[.int .i64 9,.int .i64 0,.int .i64 3,.int .i64 3,.slice none 0 0,.slice (some ⟨w4.heap.size,0,none⟩) 1 1] 25)).heap[a]?=some (.cells #[.int .i64 97,.int .i64 97] 110 (0,0))):=aD (by(repeat (rw [Below.heap_alloc _ _ _ (by have:=aB F_a.out;first | omega |(simp only [a7];omega))]));exact F_a.out)
 have F2_xa:Hid (((w4.alloc (.cells #[.int .i64 7,.int .i64 1,.int .i64 0,.int .i64 0,.slice none 0 0,.slice (some ⟨g,0,none⟩) 1 1] 25)).alloc (.cells #[.int .i64 9,.int .i64 0,.int .i64 3,.int .i64 3,.slice none 0 0,.slice (some ⟨w4.heap.size,0,none⟩) 1 1] 25)).heap[xa]?=some (.cells #[.int .i64 2,.int .i64 0,.int .i64 0,.int .i64 0,.slice (some ⟨a,0,none⟩) 1 1,.slice none 0 0] 25 (0,0))):=aD (by(repeat (rw [Below.heap_alloc _ _ _ (by have:=aB F_xa.out;first | omega |(simp only [a7];omega))]));exact F_xa.out)
 have F2_g:Hid (((w4.alloc (.cells #[.int .i64 7,.int .i64 1,.int .i64 0,.int .i64 0,.slice none 0 0,.slice (some ⟨g,0,none⟩) 1 1] 25)).alloc (.cells #[.int .i64 9,.int .i64 0,.int .i64 3,.int .i64 3,.slice none 0 0,.slice (some ⟨w4.heap.size,0,none⟩) 1 1] 25)).heap[g]?=some (.cells #[.int .i64 2,.int .i64 0,.int .i64 0,.int .i64 0,.slice (some ⟨a,0,none⟩) 1 1,.slice none 0 0] 25 (0,0))):=aD (by(repeat (rw [Below.heap_alloc _ _ _ (by have:=aB F_g.out;first | omega |(simp only [a7];omega))]));exact F_g.out)
 have F2_xg:Hid (((w4.alloc (.cells #[.int .i64 7,.int .i64 1,.int .i64 0,.int .i64 0,.slice none 0 0,.slice (some ⟨g,0,none⟩) 1 1] 25)).alloc (.cells #[.int .i64 9,.int .i64 0,.int .i64 3,.int .i64 3,.slice none 0 0,.slice (some ⟨w4.heap.size,0,none⟩) 1 1] 25)).heap[xg]?=some (.cells #[.int .i64 7,.int .i64 1,.int .i64 0,.int .i64 0,.slice none 0 0,.slice (some ⟨g,0,none⟩) 1 1] 25 (0,0))):=aD (by(repeat (rw [Below.heap_alloc _ _ _ (by have:=aB F_xg.out;first | omega |(simp only [a7];omega))]));exact F_xg.out)
 have F2_r:Hid (((w4.alloc (.cells #[.int .i64 7,.int .i64 1,.int .i64 0,.int .i64 0,.slice none 0 0,.slice (some ⟨g,0,none⟩) 1 1] 25)).alloc (.cells #[.int .i64 9,.int .i64 0,.int .i64 3,.int .i64 3,.slice none 0 0,.slice (some ⟨w4.heap.size,0,none⟩) 1 1] 25)).heap[w4.heap.size]?=some (.cells #[.int .i64 7,.int .i64 1,.int .i64 0,.int .i64 0,.slice none 0 0,.slice (some ⟨g,0,none⟩) 1 1] 25 (0,0))):=aD (by(repeat (first | exact aK _ (by first | rfl | simp only [a7]) | rw [Below.heap_alloc _ _ _ (by first | omega |(simp only [a7];omega))])))
 have F2_xr:Hid (((w4.alloc (.cells #[.int .i64 7,.int .i64 1,.int .i64 0,.int .i64 0,.slice none 0 0,.slice (some ⟨g,0,none⟩) 1 1] 25)).alloc (.cells #[.int .i64 9,.int .i64 0,.int .i64 3,.int .i64 3,.slice none 0 0,.slice (some ⟨w4.heap.size,0,none⟩) 1 1] 25)).heap[w4.heap.size+1]?=some (.cells #[.int .i64 9,.int .i64 0,.int .i64 3,.int .i64 3,.slice none 0 0,.slice (some ⟨w4.heap.size,0,none⟩) 1 1] 25 (0,0))):=aD (by(repeat (first | exact aK _ (by first | rfl | simp only [a7]) | rw [Below.heap_alloc _ _ _ (by first | omega |(simp only [a7];omega))])))
 have B2:Hid (Below w.heap.size w ((w4.alloc (.cells #[.int .i64 7,.int .i64 1,.int .i64 0,.int .i64 0,.slice none 0 0,.slice (some ⟨g,0,none⟩) 1 1] 25)).alloc (.cells #[.int .i64 9,.int .i64 0,.int .i64 3,.int .i64 3,.slice none 0 0,.slice (some ⟨w4.heap.size,0,none⟩) 1 1] 25))):=((B0.out.alloc (by have:=B0.out.size;first | omega |(simp only [a7];omega)) _).alloc (by have:=B0.out.size;first | omega |(simp only [a7];omega)) _)
 go_upto_region 5 with fail
 generalize hV:((w4.alloc (.cells #[.int .i64 7,.int .i64 1,.int .i64 0,.int .i64 0,.slice none 0 0,.slice (some ⟨g,0,none⟩) 1 1] 25)).alloc (.cells #[.int .i64 9,.int .i64 0,.int .i64 3,.int .i64 3,.slice none 0 0,.slice (some ⟨w4.heap.size,0,none⟩) 1 1] 25))=w5 at F2_bm F2_a F2_xa F2_g F2_xg F2_r F2_xr B2 ⊢
 clear hV B0 F_bm F_a F_xa F_g F_xg
 generalize w4.heap.size+1=xr at F2_bm F2_a F2_xa F2_g F2_xg F2_r F2_xr ⊢
 generalize w4.heap.size=r at F2_bm F2_a F2_xa F2_g F2_xg F2_r F2_xr ⊢
 have F_bm:=F2_bm
 have F_a:=F2_a
 have F_xa:=F2_xa
 have F_g:=F2_g
 have F_xg:=F2_xg
 have F_r:=F2_r
 have F_xr:=F2_xr
 have B0:=B2
 clear B2 F2_bm F2_a F2_xa F2_g F2_xg F2_r F2_xr
 clear c0 c1 c2 c3 c4 c5
 have c0:=aA F_xg.out (i:=0) rfl
 have c1:=aA F_xg.out (i:=1) rfl
 have c2:=aA F_xg.out (i:=2) rfl
 have c3:=aA F_xg.out (i:=3) rfl
 have c4:=aA F_xg.out (i:=4) rfl
 have c5:=aA F_xg.out (i:=5) rfl
 have F2_bm:Hid (((w5.alloc (.cells #[.int .i64 3,.int .i64 0,.int .i64 0,.int .i64 0,.slice none 0 0,.slice none 0 0,.int .i64 7,.int .i64 1,.int .i64 0,.int .i64 0,.slice none 0 0,.slice (some ⟨g,0,none⟩) 1 1,.int .i64 8,.int .i64 1,.int .i64 0,.int .i64 0,.slice none 0 0,.slice none 0 0] 25)).alloc (.cells #[.int .i64 5,.int .i64 0,.int .i64 0,.int .i64 0,.slice none 0 0,.slice (some ⟨w5.heap.size,0,none⟩) 3 3] 25)).heap[bm]?=some (.cells #[.bool false,.bool false] 27 (0,0))):=aD (by(repeat (rw [Below.heap_alloc _ _ _ (by have:=aB F_bm.out;first | omega |(simp only [a7];omega))]));exact F_bm.out)
 have F2_a:Hid (((w5.alloc (.cells #[.int .i64 3,.int .i64 0,.int .i64 0,.int .i64 0,.slice none 0 0,.slice none 0 0,.int .i64 7,.int .i64 1,.int .i64 0,.int .i64 0,.slice none 0 0,.slice (some ⟨g,0,none⟩) 1 1,.int .i64 8,.int .i64 1,.int .i64 0,.int .i64 0,.slice none 0 0,.slice none 0 0] 25)).alloc (.cells #[.int .i64 5,.int .i64 0,.int .i64 0,.int .i64 0,.slice none 0 0,.slice (some ⟨w5.heap.size,0,none⟩) 3 3] 25)).heap[a]?=some (.cells #[.int .i64 97,.int .i64 97] 110 (0,0))):=aD (by(repeat (rw [Below.heap_alloc _ _ _ (by have:=aB F_a.out;first | omega |(simp only [a7];omega))]));exact F_a.out)
 have F2_xa:Hid (((w5.alloc (.cells #[.int .i64 3,.int .i64 0,.int .i64 0,.int .i64 0,.slice none 0 0,.slice none 0 0,.int .i64 7,.int .i64 1,.int .i64 0,.int .i64 0,.slice none 0 0,.slice (some ⟨g,0,none⟩) 1 1,.int .i64 8,.int .i64 1,.int .i64 0,.int .i64 0,.slice none 0 0,.slice none 0 0] 25)).alloc (.cells #[.int .i64 5,.int .i64 0,.int .i64 0,.int .i64 0,.slice none 0 0,.slice (some ⟨w5.heap.size,0,none⟩) 3 3] 25)).heap[xa]?=some (.cells #[.int .i64 2,.int .i64 0,.int .i64 0,.int .i64 0,.slice (some ⟨a,0,none⟩) 1 1,.slice none 0 0] 25 (0,0))):=aD (by(repeat (rw [Below.heap_alloc _ _ _ (by have:=aB F_xa.out;first | omega |(simp only [a7];omega))]));exact F_xa.out)
 have F2_g:Hid (((w5.alloc (.cells #[.int .i64 3,.int .i64 0,.int .i64 0,.int .i64 0,.slice none 0 0,.slice none 0 0,.int .i64 7,.int .i64 1,.int .i64 0,.int .i64 0,.slice none 0 0,.slice (some ⟨g,0,none⟩) 1 1,.int .i64 8,.int .i64 1,.int .i64 0,.int .i64 0,.slice none 0 0,.slice none 0 0] 25)).alloc (.cells #[.int .i64 5,.int .i64 0,.int .i64 0,.int .i64 0,.slice none 0 0,.slice (some ⟨w5.heap.size,0,none⟩) 3 3] 25)).heap[g]?=some (.cells #[.int .i64 2,.int .i64 0,.int .i64 0,.int .i64 0,.slice (some ⟨a,0,none⟩) 1 1,.slice none 0 0] 25 (0,0))):=aD (by(repeat (rw [Below.heap_alloc _ _ _ (by have:=aB F_g.out;first | omega |(simp only [a7];omega))]));exact F_g.out)
 have F2_xg:Hid (((w5.alloc (.cells #[.int .i64 3,.int .i64 0,.int .i64 0,.int .i64 0,.slice none 0 0,.slice none 0 0,.int .i64 7,.int .i64 1,.int .i64 0,.int .i64 0,.slice none 0 0,.slice (some ⟨g,0,none⟩) 1 1,.int .i64 8,.int .i64 1,.int .i64 0,.int .i64 0,.slice none 0 0,.slice none 0 0] 25)).alloc (.cells #[.int .i64 5,.int .i64 0,.int .i64 0,.int .i64 0,.slice none 0 0,.slice (some ⟨w5.heap.size,0,none⟩) 3 3] 25)).heap[xg]?=some (.cells #[.int .i64 7,.int .i64 1,.int .i64 0,.int .i64 0,.slice none 0 0,.slice (some ⟨g,0,none⟩) 1 1] 25 (0,0))):=aD (by(repeat (rw [Below.heap_alloc _ _ _ (by have:=aB F_xg.out;first | omega |(simp only [a7];omega))]));exact F_xg.out)
 have F2_r:Hid (((w5.alloc (.cells #[.int .i64 3,.int .i64 0,.int .i64 0,.int .i64 0,.slice none 0 0,.slice none 0 0,.int .i64 7,.int .i64 1,.int .i64 0,.int .i64 0,.slice none 0 0,.slice (some ⟨g,0,none⟩) 1 1,.int .i64 8,.int .i64 1,.int .i64 0,.int .i64 0,.slice none 0 0,.slice none 0 0] 25)).alloc (.cells #[.int .i64 5,.int .i64 0,.int .i64 0,.int .i64 0,.slice none 0 0,.slice (some ⟨w5.heap.size,0,none⟩) 3 3] 25)).heap[r]?=some (.cells #[.int .i64 7,.int .i64 1,.int .i64 0,.int .i64 0,.slice none 0 0,.slice (some ⟨g,0,none⟩) 1 1] 25 (0,0))):=aD (by(repeat (rw [Below.heap_alloc _ _ _ (by have:=aB F_r.out;first | omega |(simp only [a7];omega))]));exact F_r.out)
 have F2_xr:Hid (((w5.alloc (.cells #[.int .i64 3,.int .i64 0,.int .i64 0,.int .i64 0,.slice none 0 0,.slice none 0 0,.int .i64 7,.int .i64 1,.int .i64 0,.int .i64 0,.slice none 0 0,.slice (some ⟨g,0,none⟩) 1 1,.int .i64 8,.int .i64 1,.int .i64 0,.int .i64 0,.slice none 0 0,.slice none 0 0] 25)).alloc (.cells #[.int .i64 5,.int .i64 0,.int .i64 0,.int .i64 0,.slice none 0 0,.slice (some ⟨w5.heap.size,0,none⟩) 3 3] 25)).heap[xr]?=some (.cells #[.int .i64 9,.int .i64 0,.int .i64 3,.int .i64 3,.slice none 0 0,.slice (some ⟨r,0,none⟩) 1 1] 25 (0,0))):=aD (by(repeat (rw [Below.heap_alloc _ _ _ (by have:=aB F_xr.out;first | omega |(simp only [a7];omega))]));exact F_xr.out)
 have F2_n:Hid (((w5.alloc (.cells #[.int .i64 3,.int .i64 0,.int .i64 0,.int .i64 0,.slice none 0 0,.slice none 0 0,.int .i64 7,.int .i64 1,.int .i64 0,.int .i64 0,.slice none 0 0,.slice (some ⟨g,0,none⟩) 1 1,.int .i64 8,.int .i64 1,.int .i64 0,.int .i64 0,.slice none 0 0,.slice none 0 0] 25)).alloc (.cells #[.int .i64 5,.int .i64 0,.int .i64 0,.int .i64 0,.slice none 0 0,.slice (some ⟨w5.heap.size,0,none⟩) 3 3] 25)).heap[w5.heap.size]?=some (.cells #[.int .i64 3,.int .i64 0,.int .i64 0,.int .i64 0,.slice none 0 0,.slice none 0 0,.int .i64 7,.int .i64 1,.int .i64 0,.int .i64 0,.slice none 0 0,.slice (some ⟨g,0,none⟩) 1 1,.int .i64 8,.int .i64 1,.int .i64 0,.int .i64 0,.slice none 0 0,.slice none 0 0] 25 (0,0))):=aD (by(repeat (first | exact aK _ (by first | rfl | simp only [a7]) | rw [Below.heap_alloc _ _ _ (by first | omega |(simp only [a7];omega))])))
 have F2_xn:Hid (((w5.alloc (.cells #[.int .i64 3,.int .i64 0,.int .i64 0,.int .i64 0,.slice none 0 0,.slice none 0 0,.int .i64 7,.int .i64 1,.int .i64 0,.int .i64 0,.slice none 0 0,.slice (some ⟨g,0,none⟩) 1 1,.int .i64 8,.int .i64 1,.int .i64 0,.int .i64 0,.slice none 0 0,.slice none 0 0] 25)).alloc (.cells #[.int .i64 5,.int .i64 0,.int .i64 0,.int .i64 0,.slice none 0 0,.slice (some ⟨w5.heap.size,0,none⟩) 3 3] 25)).heap[w5.heap.size+1]?=some (.cells #[.int .i64 5,.int .i64 0,.int .i64 0,.int .i64 0,.slice none 0 0,.slice (some ⟨w5.heap.size,0,none⟩) 3 3] 25 (0,0))):=aD (by(repeat (first | exact aK _ (by first | rfl | simp only [a7]) | rw [Below.heap_alloc _ _ _ (by first | omega |(simp only [a7];omega))])))
 have B2:Hid (Below w.heap.size w ((w5.alloc (.cells #[.int .i64 3,.int .i64 0,.int .i64 0,.int .i64 0,.slice none 0 0,.slice none 0 0,.int .i64 7,.int .i64 1,.int .i64 0,.int .i64 0,.slice none 0 0,.slice (some ⟨g,0,none⟩) 1 1,.int .i64 8,.int .i64 1,.int .i64 0,.int .i64 0,.slice none 0 0,.slice none 0 0] 25)).alloc (.cells #[.int .i64 5,.int .i64 0,.int .i64 0,.int .i64 0,.slice none 0 0,.slice (some ⟨w5.heap.size,0,none⟩) 3 3] 25))):=((B0.out.alloc (by have:=B0.out.size;first | omega |(simp only [a7];omega)) _).alloc (by have:=B0.out.size;first | omega |(simp only [a7];omega)) _)
 go_upto_region 6 with fail
 generalize hV:((w5.alloc (.cells #[.int .i64 3,.int .i64 0,.int .i64 0,.int .i64 0,.slice none 0 0,.slice none 0 0,.int .i64 7,.int .i64 1,.int .i64 0,.int .i64 0,.slice none 0 0,.slice (some ⟨g,0,none⟩) 1 1,.int .i64 8,.int .i64 1,.int .i64 0,.int .i64 0,.slice none 0 0,.slice none 0 0] 25)).alloc (.cells #[.int .i64 5,.int .i64 0,.int .i64 0,.int .i64 0,.slice none 0 0,.slice (some ⟨w5.heap.size,0,none⟩) 3 3] 25))=w6 at F2_bm F2_a F2_xa F2_g F2_xg F2_r F2_xr F2_n F2_xn B2 ⊢
 clear hV B0 F_bm F_a F_xa F_g F_xg F_r F_xr
 generalize w5.heap.size+1=xn at F2_bm F2_a F2_xa F2_g F2_xg F2_r F2_xr F2_n F2_xn ⊢
 generalize w5.heap.size=n at F2_bm F2_a F2_xa F2_g F2_xg F2_r F2_xr F2_n F2_xn ⊢
 have F_bm:=F2_bm
 have F_a:=F2_a
 have F_xa:=F2_xa
 have F_g:=F2_g
 have F_xg:=F2_xg
 have F_r:=F2_r
 have F_xr:=F2_xr
 have F_n:=F2_n
 have F_xn:=F2_xn
 have B0:=B2
 clear B2 F2_bm F2_a F2_xa F2_g F2_xg F2_r F2_xr F2_n F2_xn
 clear c0 c1 c2 c3 c4 c5
 have X0:Hid (EX bm a g r n xg xr xn w6):=⟨F_bm.out,F_a.out,F_g.out,F_r.out,F_n.out,F_xg.out,F_xr.out,F_xn.out⟩
 clear F_bm F_a F_g F_r F_n F_xg F_xr F_xn F_xa
 have CU:Hid (∀ V,EX bm a g r n xg xr xn V->Calls Tryz.prog 23 #[.agg #[.int .i64 5,.int .i64 0,.int .i64 0,.int .i64 0,.slice none 0 0,.slice (some ⟨n,0,none⟩) 3 3],.agg #[.bool false,.bool false]] V (fun e w'=>(∃ (b k:Nat),e=.returned (.slice (some ⟨b,0,none⟩) 1 k)/\w'.cell? ⟨b,0,none⟩=some (.int .i64 1)/\b < w'.heap.size)/\Below V.heap.size V w')):=fun V hV=>(aZ7 false false hV.tn).mono (by
  rw [aK1]
  rintro e w' ⟨q,k,rfl,h2,h3⟩
  obtain⟨gb,cb,e1⟩:=aL h2 (by simp)
  injection e1 with e1 _ e3
  subst e1 e3
  exact⟨⟨gb,k,rfl,aU h2 (j:=0) rfl,(aH h2 rfl).2.1⟩,h3⟩)
 have CW:Hid (∀ V,EX bm a g r n xg xr xn V->Calls Tryz.prog 12 #[.agg #[.int .i64 9,.int .i64 0,.int .i64 3,.int .i64 3,.slice none 0 0,.slice (some ⟨r,0,none⟩) 1 1],.agg #[.bool false,.bool false]] V (fun e w'=>e=.returned (.tuple #[.int .i64 3,.int .i64 3])/\Below V.heap.size V w')):=fun V hV=>(aG0 false false hV.tr).mono (by rw [aX4];exact fun _ _ h=>h)
 have CA:Hid (∀ V,EX bm a g r n xg xr xn V->Calls Tryz.prog 13 #[.agg #[.int .i64 5,.int .i64 0,.int .i64 0,.int .i64 0,.slice none 0 0,.slice (some ⟨n,0,none⟩) 3 3],.agg #[.bool false,.bool false]] V (fun e w'=>e=.returned (.tuple #[.bool true,.bool false])/\Below V.heap.size V w')):=fun V hV=>(xH false false hV.tn).mono (by rw [bF4];exact fun _ _ h=>h)
 obtain⟨a0,h0⟩:∃ x,aC (fB false [(97,97)]) 0=x:=⟨_,rfl⟩
 obtain⟨a1,h1⟩:∃ x,aC (fB false [(97,97)]) 1=x:=⟨_,rfl⟩
 obtain⟨a2,h2⟩:∃ x,aC (fB false [(97,97)]) 2=x:=⟨_,rfl⟩
 obtain⟨a3,h3⟩:∃ x,aC (fB false [(97,97)]) 3=x:=⟨_,rfl⟩
 have ha1:(a1==0)=false:=by rw [<- h1];exact bP7
 have CF:Hid (∀ V,EX bm a g r n xg xr xn V->Below w.heap.size w V->Calls Tryz.prog 14 #[.agg #[.int .i64 7,.int .i64 1,.int .i64 0,.int .i64 0,.slice none 0 0,.slice (some ⟨g,0,none⟩) 1 1],.agg #[.bool false,.bool false]] V (fun e w'=>e=.returned (.tuple #[.agg #[.int .u64 a0,.int .u64 a1,.int .u64 a2,.int .u64 a3],.bool false])/\Below V.heap.size V w')):=fun V hV hB=>(vH false false hV.tg (GloS.ck (CK.of_below hB) HG.out)).mono (by rw [aX7];unfold stV;simp only [h0,h1,h2,h3];exact fun _ _ h=>h)
 have CL:Hid (∀ V,EX bm a g r n xg xr xn V->Calls Tryz.prog 15 #[.agg #[.int .i64 9,.int .i64 0,.int .i64 3,.int .i64 3,.slice none 0 0,.slice (some ⟨r,0,none⟩) 1 1],.agg #[.bool false,.bool false]] V (fun e w'=>e=.returned (.tuple #[.string ⟨#[97,97,97]⟩,.bool true])/\Below V.heap.size V w')):=fun V hV=>(qQ false false hV.tr).mono (by rw [bM9];exact fun _ _ h=>h)
 have CS:Hid (∀ V,EX bm a g r n xg xr xn V->Calls Tryz.prog 24 #[.agg #[.int .i64 9,.int .i64 0,.int .i64 3,.int .i64 3,.slice none 0 0,.slice (some ⟨r,0,none⟩) 1 1],.agg #[.bool false,.bool false]] V (fun e w'=>e=.returned (.int .i64 15)/\Below V.heap.size V w')):=fun V hV=>(aZ8 false false hV.tr).mono (by rw [bF2];exact fun _ _ h=>h)
 have CN:Hid (∀ V,EX bm a g r n xg xr xn V->Calls Tryz.prog 22 #[.agg #[.int .i64 5,.int .i64 0,.int .i64 0,.int .i64 0,.slice none 0 0,.slice (some ⟨n,0,none⟩) 3 3],.agg #[.bool false,.bool false]] V (fun e w'=>e=.returned (.bool false)/\Below V.heap.size V w')):=fun V hV=>(aA6 false false hV.tn).mono (by rw [aX6];exact fun _ _ h=>h)
 have CR:Hid (∀ V,EX bm a g r n xg xr xn V->Calls Tryz.prog 22 #[.agg #[.int .i64 9,.int .i64 0,.int .i64 3,.int .i64 3,.slice none 0 0,.slice (some ⟨r,0,none⟩) 1 1],.agg #[.bool false,.bool false]] V (fun e w'=>e=.returned (.bool true)/\Below V.heap.size V w')):=fun V hV=>(aA6 false false hV.tr).mono (by rw [aX5];exact fun _ _ h=>h)
 have CP:Hid (∀ V,EX bm a g r n xg xr xn V->Calls Tryz.prog 16 #[.agg #[.int .i64 5,.int .i64 0,.int .i64 0,.int .i64 0,.slice none 0 0,.slice (some ⟨n,0,none⟩) 3 3],.agg #[.bool false,.bool false]] V (fun e w'=>e=.returned (.string ⟨#[97]⟩)/\Below V.heap.size V w')):=fun V hV=>(tH false false hV.tn).mono (by rw [bM8];exact fun _ _ h=>h)
 have EQ9:∀ w:World,(Op.equalIn 10000 36 (.agg #[.int .u64 a0,.int .u64 a1,.int .u64 a2,.int .u64 a3]) (.agg #[.int .u64 0,.int .u64 0,.int .u64 0,.int .u64 0])).run Tryz.prog w=.ok false w:=fun w=>by rw [nH,ha1];simp
 clear h0 h1 h2 h3
 have m0:=aA X0.out.fm (i:=0) rfl
 have m1:=aA X0.out.fm (i:=1) rfl
 have xn0:=aA X0.out.fxn (i:=0) rfl
 have xn1:=aA X0.out.fxn (i:=1) rfl
 have xn2:=aA X0.out.fxn (i:=2) rfl
 have xn3:=aA X0.out.fxn (i:=3) rfl
 have xn4:=aA X0.out.fxn (i:=4) rfl
 have xn5:=aA X0.out.fxn (i:=5) rfl
 go_upto_region 7 with (go_at_call 23;refine(CU.out _ X0.out).mono ?_;rintro e w7 ⟨⟨ub,uk,rfl,hu,hub⟩,hb⟩;have X1:=aD (X0.out.kept hb);have B1:=aD (aJ B0.out hb lz9);have U1:=aD (And.intro hu hub);clear hu hub;clear hb X0 B0 CU)
 clear m0 m1 xn0 xn1 xn2 xn3 xn4 xn5
 have m0:=aA X1.out.fm (i:=0) rfl
 have m1:=aA X1.out.fm (i:=1) rfl
 have xr0:=aA X1.out.fxr (i:=0) rfl
 have xr1:=aA X1.out.fxr (i:=1) rfl
 have xr2:=aA X1.out.fxr (i:=2) rfl
 have xr3:=aA X1.out.fxr (i:=3) rfl
 have xr4:=aA X1.out.fxr (i:=4) rfl
 have xr5:=aA X1.out.fxr (i:=5) rfl
 go_upto_region 8 with (go_at_call 12;refine(CW.out _ X1.out).mono ?_;rintro e w8 ⟨rfl,hb⟩;have X2:=aD (X1.out.kept hb);have B2:=aD (aJ B1.out hb lz9);have U2:=aD (show w8.cell? ⟨ub,0,none⟩=some (.int .i64 1)/\ub < w8.heap.size from ⟨(hb.cell (p:=⟨ub,0,none⟩) U1.out.2).trans U1.out.1,i6 U1.out.2 hb.size⟩);clear U1;clear hb X1 B1 CW)
 clear m0 m1 xr0 xr1 xr2 xr3 xr4 xr5
 have m0:=aA X2.out.fm (i:=0) rfl
 have m1:=aA X2.out.fm (i:=1) rfl
 have xn0:=aA X2.out.fxn (i:=0) rfl
 have xn1:=aA X2.out.fxn (i:=1) rfl
 have xn2:=aA X2.out.fxn (i:=2) rfl
 have xn3:=aA X2.out.fxn (i:=3) rfl
 have xn4:=aA X2.out.fxn (i:=4) rfl
 have xn5:=aA X2.out.fxn (i:=5) rfl
 go_upto_region 9 with (go_at_call 13;refine(CA.out _ X2.out).mono ?_;rintro e w9 ⟨rfl,hb⟩;have X3:=aD (X2.out.kept hb);have B3:=aD (aJ B2.out hb lz9);have U3:=aD (show w9.cell? ⟨ub,0,none⟩=some (.int .i64 1)/\ub < w9.heap.size from ⟨(hb.cell (p:=⟨ub,0,none⟩) U2.out.2).trans U2.out.1,i6 U2.out.2 hb.size⟩);clear U2;clear hb X2 B2 CA)
 clear m0 m1 xn0 xn1 xn2 xn3 xn4 xn5
 have m0:=aA X3.out.fm (i:=0) rfl
 have m1:=aA X3.out.fm (i:=1) rfl
 have xg0:=aA X3.out.fxg (i:=0) rfl
 have xg1:=aA X3.out.fxg (i:=1) rfl
 have xg2:=aA X3.out.fxg (i:=2) rfl
 have xg3:=aA X3.out.fxg (i:=3) rfl
 have xg4:=aA X3.out.fxg (i:=4) rfl
 have xg5:=aA X3.out.fxg (i:=5) rfl
 go_upto_region 10 with (go_at_call 14;refine(CF.out _ X3.out B3.out).mono ?_;rintro e w10 ⟨rfl,hb⟩;have X4:=aD (X3.out.kept hb);have B4:=aD (aJ B3.out hb lz9);have U4:=aD (show w10.cell? ⟨ub,0,none⟩=some (.int .i64 1)/\ub < w10.heap.size from ⟨(hb.cell (p:=⟨ub,0,none⟩) U3.out.2).trans U3.out.1,i6 U3.out.2 hb.size⟩);clear U3;clear hb X3 B3 CF)
 clear m0 m1 xg0 xg1 xg2 xg3 xg4 xg5
 have Q5:Hid (Below w10.heap.size w10 (w10.alloc (.cells #[.int .u64 a0,.int .u64 a1,.int .u64 a2,.int .u64 a3] 36))):=bz9
 have X5:=aD (X4.out.kept Q5.out)
 have B5:=aD (aJ B4.out Q5.out lz9)
 have U5:Hid ((w10.alloc (.cells #[.int .u64 a0,.int .u64 a1,.int .u64 a2,.int .u64 a3] 36)).cell? ⟨ub,0,none⟩=some (.int .i64 1)/\ub < (w10.alloc (.cells #[.int .u64 a0,.int .u64 a1,.int .u64 a2,.int .u64 a3] 36)).heap.size):=⟨(Q5.out.cell (p:=⟨ub,0,none⟩) U4.out.2).trans U4.out.1,i6 U4.out.2 Q5.out.size⟩
 have S5:=aD (aE w10 (.cells #[.int .u64 a0,.int .u64 a1,.int .u64 a2,.int .u64 a3] 36))
 clear Q5 X4 B4 U4
 generalize hV:(w10.alloc (.cells #[.int .u64 a0,.int .u64 a1,.int .u64 a2,.int .u64 a3] 36))=w11 at X5 B5 U5 S5 ⊢
 clear hV
 generalize w10.heap.size=sb at S5 ⊢
 have m0:=aA X5.out.fm (i:=0) rfl
 have m1:=aA X5.out.fm (i:=1) rfl
 have xr0:=aA X5.out.fxr (i:=0) rfl
 have xr1:=aA X5.out.fxr (i:=1) rfl
 have xr2:=aA X5.out.fxr (i:=2) rfl
 have xr3:=aA X5.out.fxr (i:=3) rfl
 have xr4:=aA X5.out.fxr (i:=4) rfl
 have xr5:=aA X5.out.fxr (i:=5) rfl
 go_upto_region 11 with (go_at_call 15;refine(CL.out _ X5.out).mono ?_;rintro e w12 ⟨rfl,hb⟩;have X6:=aD (X5.out.kept hb);have B6:=aD (aJ B5.out hb lz9);have U6:=aD (show w12.cell? ⟨ub,0,none⟩=some (.int .i64 1)/\ub < w12.heap.size from ⟨(hb.cell (p:=⟨ub,0,none⟩) U5.out.2).trans U5.out.1,i6 U5.out.2 hb.size⟩);have S6:=aD ((hb.block _ (aB S5.out)).trans S5.out);clear U5 S5;clear hb X5 B5 CL)
 clear m0 m1 xr0 xr1 xr2 xr3 xr4 xr5
 have m0:=aA X6.out.fm (i:=0) rfl
 have m1:=aA X6.out.fm (i:=1) rfl
 have xr0:=aA X6.out.fxr (i:=0) rfl
 have xr1:=aA X6.out.fxr (i:=1) rfl
 have xr2:=aA X6.out.fxr (i:=2) rfl
 have xr3:=aA X6.out.fxr (i:=3) rfl
 have xr4:=aA X6.out.fxr (i:=4) rfl
 have xr5:=aA X6.out.fxr (i:=5) rfl
 have xn0:=aA X6.out.fxn (i:=0) rfl
 have xn1:=aA X6.out.fxn (i:=1) rfl
 have xn2:=aA X6.out.fxn (i:=2) rfl
 have xn3:=aA X6.out.fxn (i:=3) rfl
 have xn4:=aA X6.out.fxn (i:=4) rfl
 have xn5:=aA X6.out.fxn (i:=5) rfl
 go_wp2_with first
  |(go_at_call 24;(with_reducible refine(CS.out _ X6.out).mono ?_);rintro e w13 ⟨rfl,hb⟩;have X7:=aD (X6.out.kept hb);have B7:=aD (aJ B6.out hb lz9);have U7:=aD (show w13.cell? ⟨ub,0,none⟩=some (.int .i64 1)/\ub < w13.heap.size from ⟨(hb.cell (p:=⟨ub,0,none⟩) U6.out.2).trans U6.out.1,i6 U6.out.2 hb.size⟩);have S7:=aD ((hb.block _ (aB S6.out)).trans S6.out);clear U6 S6;clear hb X6 B6;clear m0 m1 xr0 xr1 xr2 xr3 xr4 xr5 xn0 xn1 xn2 xn3 xn4 xn5;have m0:=aA X7.out.fm (i:=0) rfl;have m1:=aA X7.out.fm (i:=1) rfl;have xr0:=aA X7.out.fxr (i:=0) rfl;have xr1:=aA X7.out.fxr (i:=1) rfl;have xr2:=aA X7.out.fxr (i:=2) rfl;have xr3:=aA X7.out.fxr (i:=3) rfl;have xr4:=aA X7.out.fxr (i:=4) rfl;have xr5:=aA X7.out.fxr (i:=5) rfl;have xn0:=aA X7.out.fxn (i:=0) rfl;have xn1:=aA X7.out.fxn (i:=1) rfl;have xn2:=aA X7.out.fxn (i:=2) rfl;have xn3:=aA X7.out.fxn (i:=3) rfl;have xn4:=aA X7.out.fxn (i:=4) rfl;have xn5:=aA X7.out.fxn (i:=5) rfl)
  |(go_at_call 22;(with_reducible refine(CN.out _ X7.out).mono ?_);rintro e w14 ⟨rfl,hb⟩;have X8:=aD (X7.out.kept hb);have B8:=aD (aJ B7.out hb lz9);have U8:=aD (show w14.cell? ⟨ub,0,none⟩=some (.int .i64 1)/\ub < w14.heap.size from ⟨(hb.cell (p:=⟨ub,0,none⟩) U7.out.2).trans U7.out.1,i6 U7.out.2 hb.size⟩);have S8:=aD ((hb.block _ (aB S7.out)).trans S7.out);clear U7 S7;clear hb X7 B7;clear m0 m1 xr0 xr1 xr2 xr3 xr4 xr5 xn0 xn1 xn2 xn3 xn4 xn5;have m0:=aA X8.out.fm (i:=0) rfl;have m1:=aA X8.out.fm (i:=1) rfl;have xr0:=aA X8.out.fxr (i:=0) rfl;have xr1:=aA X8.out.fxr (i:=1) rfl;have xr2:=aA X8.out.fxr (i:=2) rfl;have xr3:=aA X8.out.fxr (i:=3) rfl;have xr4:=aA X8.out.fxr (i:=4) rfl;have xr5:=aA X8.out.fxr (i:=5) rfl;have xn0:=aA X8.out.fxn (i:=0) rfl;have xn1:=aA X8.out.fxn (i:=1) rfl;have xn2:=aA X8.out.fxn (i:=2) rfl;have xn3:=aA X8.out.fxn (i:=3) rfl;have xn4:=aA X8.out.fxn (i:=4) rfl;have xn5:=aA X8.out.fxn (i:=5) rfl)
  |(go_at_call 22;(with_reducible refine(CR.out _ X8.out).mono ?_);rintro e w15 ⟨rfl,hb⟩;have X9:=aD (X8.out.kept hb);have B9:=aD (aJ B8.out hb lz9);have U9:=aD (show w15.cell? ⟨ub,0,none⟩=some (.int .i64 1)/\ub < w15.heap.size from ⟨(hb.cell (p:=⟨ub,0,none⟩) U8.out.2).trans U8.out.1,i6 U8.out.2 hb.size⟩);have S9:=aD ((hb.block _ (aB S8.out)).trans S8.out);clear U8 S8;clear hb X8 B8;clear m0 m1 xr0 xr1 xr2 xr3 xr4 xr5 xn0 xn1 xn2 xn3 xn4 xn5;have m0:=aA X9.out.fm (i:=0) rfl;have m1:=aA X9.out.fm (i:=1) rfl;have xr0:=aA X9.out.fxr (i:=0) rfl;have xr1:=aA X9.out.fxr (i:=1) rfl;have xr2:=aA X9.out.fxr (i:=2) rfl;have xr3:=aA X9.out.fxr (i:=3) rfl;have xr4:=aA X9.out.fxr (i:=4) rfl;have xr5:=aA X9.out.fxr (i:=5) rfl;have xn0:=aA X9.out.fxn (i:=0) rfl;have xn1:=aA X9.out.fxn (i:=1) rfl;have xn2:=aA X9.out.fxn (i:=2) rfl;have xn3:=aA X9.out.fxn (i:=3) rfl;have xn4:=aA X9.out.fxn (i:=4) rfl;have xn5:=aA X9.out.fxn (i:=5) rfl;have uu:w15.cell? ⟨ub,0,none⟩=some (.int .i64 1):=U9.out.1;have t0:=aA S9.out (i:=0) rfl;have t1:=aA S9.out (i:=1) rfl;have t2:=aA S9.out (i:=2) rfl;have t3:=aA S9.out (i:=3) rfl)
  |(go_at_call 16;(with_reducible refine(CP.out _ X9.out).mono ?_);rintro e w16 ⟨rfl,hb⟩;have B10:=aD (aJ B9.out hb lz9);clear hb)
 go_ret
 exact⟨rfl,B10.out⟩
end Go.Proofs.YtlaimbkenbijeaaGreatDoor
