/-
  Parts of the proof.
-/
import Derived.Test.YtlamifbjklpdbaaGreatSameProofA0
import Derived.Test.YtlamifbjklpdbaaGreatSameProofB14
import Derived.Test.YtlamifbjklpdbaaGreatSameProofB13
import Derived.Test.YtlamifbjklpdbaaGreatSameProofB11
import Derived.Test.YtlamifbjklpdbaaGreatSameProofB22
import Derived.Deep.RegionWith
import Derived.Deep.DeepCutAuto
import Derived.Deep.LoopGhost
import Derived.Deep.CutBlock
import Derived.WalkMore
import Derived.Laws.EntriesVeiled
set_option linter.unusedSimpArgs false
set_option maxRecDepth 100000
set_option maxHeartbeats 8000000
namespace Go.Proofs.YtlamifbjklpdbaaGreat
open Go Go.RowKit
section
attribute [local go_sem] Oper.semAt_some aU
structure NB2(V:World)(nb mb:Nat)(f:Fl)(c o:Bool):Prop where
 n:BoxN V nb f
 m:V.heap[mb]?=some (.cells #[.bool c,.bool o] 27 (0,0))
theorem NB2.kept{V V':World}{nb mb:Nat}{f:Fl}{c o:Bool}(h:NB2 V nb mb f c o)(hb:Below V.heap.size V V'):NB2 V' nb mb f c o:=⟨(hb.block _ (aC h.n)).trans h.n,(hb.block _ (aC h.m)).trans h.m⟩
def NC2(V:World)(nb mb:Nat)(f:Fl)(c o:Bool):Prop:=V.cell? ⟨nb,0,none⟩=some (.int .i64 f.k)/\V.cell? ⟨nb,1,none⟩=some (.int .i64 f.n)/\V.cell? ⟨nb,2,none⟩=some (.int .i64 f.mn)/\V.cell? ⟨nb,3,none⟩=some (.int .i64 f.mx)/\V.cell? ⟨nb,4,none⟩=some (.slice f.rq f.rs.length f.rc)/\V.cell? ⟨nb,5,none⟩=some (.slice f.kq f.kl f.kc)/\V.cell? ⟨mb,0,none⟩=some (.bool c)/\V.cell? ⟨mb,1,none⟩=some (.bool o)
theorem NB2.cells{V:World}{nb mb:Nat}{f:Fl}{c o:Bool}(h:NB2 V nb mb f c o):NC2 V nb mb f c o:=by
 obtain⟨n0,n1,n2,n3,n4,n5⟩:=h.n.six
 simp only [m7] at n1 n2 n3 n4 n5
 exact⟨n0,n1,n2,n3,n4,n5,aB h.m rfl,aB h.m rfl⟩
structure NI1(w6:World)(b:Nat)(v:Value)(s:ByteArray)(c o:Bool)(u:Nat->Bool)(p r:Value)(V:World):Prop where
 h:V.heap[b]?=some (.cells (nwA v s c o u p r) 43 (0,0))
 f:Fr (fun k=>k=b) w6 V
theorem NI1.kept{w6:World}{b:Nat}{v:Value}{s:ByteArray}{c o:Bool}{u:Nat->Bool}{p r:Value}{V V':World}(h:NI1 w6 b v s c o u p r V)(hb:Below V.heap.size V V'):NI1 w6 b v s c o u p r V':=⟨(hb.block _ (aC h.h)).trans h.h,h.f.then hb⟩
theorem NI1.put{w6:World}{b:Nat}{v:Value}{s:ByteArray}{c o:Bool}{u:Nat->Bool}{p r:Value}{V:World}(h:NI1 w6 b v s c o u p r V){n:Nat}(hn:n<10):NI1 w6 b v s c o (fun m=>if m=n then true else u m) p r (V.setCell ⟨b,4+n,none⟩ (.bool true)):=
 ⟨by rw [aJ h.h,aZ6 hn],h.f.setCell (p:=⟨b,4+n,none⟩) rfl _⟩
theorem NI1.setp{w6:World}{b:Nat}{v:Value}{s:ByteArray}{c o:Bool}{u:Nat->Bool}{p r:Value}{V:World}(h:NI1 w6 b v s c o u p r V)(x:Value):NI1 w6 b v s c o u x r (V.setCell ⟨b,14,none⟩ x):=
 ⟨aJ h.h 14 x,h.f.setCell (p:=⟨b,14,none⟩) rfl _⟩
theorem NI1.setr{w6:World}{b:Nat}{v:Value}{s:ByteArray}{c o:Bool}{u:Nat->Bool}{p r:Value}{V:World}(h:NI1 w6 b v s c o u p r V)(x:Value):NI1 w6 b v s c o u p x (V.setCell ⟨b,15,none⟩ x):=
 ⟨aJ h.h 15 x,h.f.setCell (p:=⟨b,15,none⟩) rfl _⟩
structure NI2(w:World)(b:Nat)(v:Value)(s:ByteArray)(c o:Bool)(Z:List Zl)(gp gr:Nat)(i:Nat)(is:List Bool)(V:World):Prop where
 h:V.heap[b]?=some (.cells (nwA v s c o (uB Z) (.slice (some ⟨gp,0,none⟩) Z.length Z.length) (.slice (some ⟨gr,0,none⟩) Z.length Z.length)) 43 (0,0))
 z:ZR w.heap.size V v Z
 q:V.ownsRow w.heap.size 110 1 (.slice (some ⟨gr,0,none⟩) Z.length Z.length) Z.length (List.replicate Z.length (.slice none 0 0))
 r:BR w.heap.size V gp Z.length is
 n:is.length=Z.length
 m:∀ (j:Nat) (x:Zl),j<i->Z[j]?=some x->is[j]?=some (plB ⟨s,c,o,uB Z⟩ x.1.2)
 bel:Below w.heap.size w V
theorem NI2.kept{w:World}{b:Nat}{v:Value}{s:ByteArray}{c o:Bool}{Z:List Zl}{gp gr i:Nat}{is:List Bool}{V V':World}(h:NI2 w b v s c o Z gp gr i is V)(hb:Below V.heap.size V V'):NI2 w b v s c o Z gp gr i is V':=
 ⟨(hb.block _ (aC h.h)).trans h.h,aH (S:=fun _=>False) h.z (Fr.of_below hb) (fun _ _ q=>q),aH (S:=fun _=>False) h.q (Fr.of_below hb) (fun _ _ q=>q),h.r.kept hb,h.n,h.m,aG h.bel hb lz9⟩
theorem NI2.put{w:World}{b:Nat}{v:Value}{s:ByteArray}{c o:Bool}{Z:List Zl}{gp gr i:Nat}{is:List Bool}{V:World}(h:NI2 w b v s c o Z gp gr i is V){x:Zl}(hx:Z[i]?=some x){d:Bool}(hd:d=plB ⟨s,c,o,uB Z⟩ x.1.2):NI2 w b v s c o Z gp gr (i+1) (is.set i d) (V.setCell ⟨gp,i,none⟩ (.bool d)):=by
 have hf:Fr (fun k=>k=gp) V (V.setCell ⟨gp,i,none⟩ (.bool d)):=(Fr.refl (fun k=>k=gp) V).setCell (p:=⟨gp,i,none⟩) rfl _
 obtain⟨cs,hc⟩:=h.r.ty
 refine⟨(hf.block b (aC h.h) (fun e=>bD h.h hc (by decide) e)).trans h.h,aH h.z hf (fun g hg e=>?_),aH h.q hf (fun g hg e=>?_),h.r.put i d,by rw [aAQ];exact h.n,fun j y hj hy=>?_,h.bel.trans (hf.below h.bel.size (fun k e=>by rw [e];exact h.r.lo))⟩
 ·obtain⟨-,-,cur,hc'⟩:=aF h.z hg
  exact bD hc' hc (by decide) e
 ·obtain⟨-,-,cur,hc'⟩:=aF h.q hg
  exact bD hc' hc (by decide) e
 ·have hil:=(m8.1 hx).1
  rw [aAZ]
  by_cases e:i=j
  ·subst e
   rw [if_pos rfl,if_pos (by rw [h.n];exact hil),hd]
   rw [hx] at hy
   cases hy
   rfl
  ·rw [if_neg e]
   exact h.m j y (by omega) hy
theorem zI{w:World}{t:Tr}(hta:TB w t){c o:Bool}(hr:aZ c o 0 0 (pp [] t)=0){s:ByteArray}(hs:s.size<=1000) :
  Calls Tryz.prog 9 #[.agg #[.int .i64 t.f.k,.int .i64 t.f.n,.int .i64 t.f.mn,.int .i64 t.f.mx,.slice t.f.rq t.f.rs.length t.f.rc,.slice t.f.kq t.f.kl t.f.kc],.string s,.agg #[.bool c,.bool o]] w (bQ4 w t s c o):=by
 have HTA:=aA hta
 have HFT:=aA hta.foot
 have HNP:=aA (uC hr)
 have hl:=nO hr
 have B1:Hid (Below w.heap.size w ((w.alloc (.cells #[.int .i64 t.f.k,.int .i64 t.f.n,.int .i64 t.f.mn,.int .i64 t.f.mx,.slice t.f.rq t.f.rs.length t.f.rc,.slice t.f.kq t.f.kl t.f.kc] 25)).alloc (.cells #[.bool c,.bool o] 27))):=(bz9).alloc (by simp) _
 have N1:Hid (NB2 ((w.alloc (.cells #[.int .i64 t.f.k,.int .i64 t.f.n,.int .i64 t.f.mn,.int .i64 t.f.mx,.slice t.f.rq t.f.rs.length t.f.rc,.slice t.f.kq t.f.kl t.f.kc] 25)).alloc (.cells #[.bool c,.bool o] 27)) w.heap.size (w.heap.size+1) t.f c o):=aA ⟨(((Below.refl _ (w.alloc (.cells #[.int .i64 t.f.k,.int .i64 t.f.n,.int .i64 t.f.mn,.int .i64 t.f.mx,.slice t.f.rq t.f.rs.length t.f.rc,.slice t.f.kq t.f.kl t.f.kc] 25))).alloc lz9 _).block _ (by simp)).trans (aD w _),by have:=aD (w.alloc (.cells #[.int .i64 t.f.k,.int .i64 t.f.n,.int .i64 t.f.mn,.int .i64 t.f.mx,.slice t.f.rq t.f.rs.length t.f.rc,.slice t.f.kq t.f.kl t.f.kc] 25)) (.cells #[.bool c,.bool o] 27);simpa using this⟩
 have LD:Hid (∀ W,Below w.heap.size w W->Calls Tryz.prog 19 #[.agg #[.int .i64 t.f.k,.int .i64 t.f.n,.int .i64 t.f.mn,.int .i64 t.f.mx,.slice t.f.rq t.f.rs.length t.f.rc,.slice t.f.kq t.f.kl t.f.kc],.int .i64 2000] W (aU7 W (gM 2000 t))):=fun W hW=>sW 2000 (by omega) (HTA.out.kept hW)
 have HMP:Hid ((gM 2000 t).map (·.1)=pp [] t):=aA (by rw [jN,o4 hl])
 have hZ:(gM 2000 t).length<=2000:=by have:=jO 2000 t;omega
 have hZ0:0<(gM 2000 t).length:=by have:=jO 2000 t;have h1:=bL t [];have h2:=dO t;omega
 have HTO:Hid (∀ (i:Nat) (z:Zl),(gM 2000 t)[i]?=some z->z.2=i+z.1.2.sz):=aA fun i z h=>by
  have h1:=bL3 h
  have h2:(pp [] t)[i]?=some z.1:=by rw [<- HMP.out,aAO,h];rfl
  obtain⟨r,hr⟩:=seg t [] i z.1 h2
  have h3:=congrArg List.length hr
  rw [o5,bL,aAR] at h3
  have h4:=(m8.1 h2).1
  omega
 generalize gM 2000 t=Z at LD HMP hZ hZ0 HTO
 have HNZ:Hid (∀ (i:Nat) (z:Zl),Z[i]?=some z->NP c o z.1.2):=aA fun i z h=>by
  have h2:z.1∈pp [] t:=by rw [<- HMP.out];exact s4.2 ⟨z,n8 h,rfl⟩
  exact((aI z.1.2).1 (fD t [] HNP.out z.1 h2)).1
 clear hta hr hl
 go_enter Tryz.func9,Tryz.ntmps9
 go_upto_region 1 with fail
 generalize ((w.alloc (.cells #[.int .i64 t.f.k,.int .i64 t.f.n,.int .i64 t.f.mn,.int .i64 t.f.mx,.slice t.f.rq t.f.rs.length t.f.rc,.slice t.f.kq t.f.kl t.f.kc] 25)).alloc (.cells #[.bool c,.bool o] 27))=w1 at B1 N1 ⊢
 obtain⟨nb,hnb⟩:∃ nb,w.heap.size=nb:=⟨_,rfl⟩
 rw [hnb] at N1
 generalize hmb:nb+1=mb at N1
 have DR:=aA ((Below.refl w1.heap.size w1).drew)
 have B2:=aA (aG B1.out DR.out lz9)
 have N2:=aA (N1.out.kept DR.out)
 have LW:=aA (LD.out _ B2.out)
 have HS2:=aA N2.out.cells
 refine wp_region_held_drew (S:=fun w'=>NC2 w' nb mb t.f c o) (by kernel_rfl) HS2.out ?_
 intro hS0
 refine wpAnyH_take (i:=0) (oi:=_) (v:=?_) rfl (by kernel_rfl) (by kernel_rfl) (by kernel_rfl) (fun _ _ _ h=>h) (Or.inl ⟨by rfl,?_⟩) (by assumption) ?_
 rotate_left
 ·intro wz hSw
  obtain⟨hs0,hs1,hs2,hs3,hs4,hs5,hs6,hs7⟩:=hSw
  go_simp
  try with_reducible rfl
 dsimp only [Act.put,i7,g7,g8]
 simp only [f8,i8,i9]
 refine wpAnyH_take (i:=2) (oi:=_) (v:=?_) rfl (by kernel_rfl) (by kernel_rfl) (by kernel_rfl) (fun _ _ _ h=>h) (Or.inl ⟨by rfl,?_⟩) (by assumption) ?_
 rotate_left
 ·intro wz hSw
  obtain⟨hs0,hs1,hs2,hs3,hs4,hs5,hs6,hs7⟩:=hSw
  go_simp
  try with_reducible rfl
 dsimp only [Act.put,i7,g7,g8]
 simp only [f8,i8,i9]
 refine wpAnyH_take (i:=3) (oi:=_) (v:=?_) rfl (by kernel_rfl) (by kernel_rfl) (by kernel_rfl) (fun _ _ _ h=>h) (Or.inl ⟨by rfl,?_⟩) (by assumption) ?_
 rotate_left
 ·intro wz hSw
  obtain⟨hs0,hs1,hs2,hs3,hs4,hs5,hs6,hs7⟩:=hSw
  go_simp
  try with_reducible rfl
 dsimp only [Act.put,i7,g7,g8]
 simp only [f8,i8,i9]
 refine wpAnyH_ready (rs:=[1]) (by kernel_rfl) (by simp) ?_
 refine AllReadyH.cons rfl (fun K hK=>?_) AllReadyH.nil
 go_simp
 go_at_call 19
 refine(LW.out).mono ?_
 rintro e w5 ⟨zq,zc,rfl,h51,h52⟩
 have Z5:=aA h51
 have B5:=aA h52
 have N5:=aA (N2.out.kept B5.out)
 have BW5:=aA (aG B2.out B5.out lz9)
 clear h51 h52
 refine hK.out _ _ N5.out.cells (fun hS1=>?_)
 clear hK K
 refine wpAnyH_ready (rs:=[4]) (by kernel_rfl) (by simp) ?_
 refine AllReadyH.cons rfl (fun K hK=>?_) AllReadyH.nil
 go_simp
 refine hK.out _ _ N5.out.cells (fun hS2=>?_)
 clear hK K
 refine wpAnyH_ready (rs:=[5]) (by kernel_rfl) (by simp) ?_
 refine AllReadyH.cons rfl (fun K hK=>?_) AllReadyH.nil
 go_simp
 have B6:Hid (Below w5.heap.size w5 (w5.alloc (.cells #[.slice zq Z.length zc,.string s,.bool c,.bool o,.bool false,.bool false,.bool false,.bool false,.bool false,.bool false,.bool false,.bool false,.bool false,.bool false,.slice none 0 0,.slice none 0 0,.int .i64 0,.bool false] 43))):=bz9
 have N6:=aA (N5.out.kept B6.out)
 have I6:Hid (NI1 (w5.alloc (.cells #[.slice zq Z.length zc,.string s,.bool c,.bool o,.bool false,.bool false,.bool false,.bool false,.bool false,.bool false,.bool false,.bool false,.bool false,.bool false,.slice none 0 0,.slice none 0 0,.int .i64 0,.bool false] 43)) w5.heap.size (.slice zq Z.length zc) s c o (fun _=>false) (.slice none 0 0) (.slice none 0 0) (w5.alloc (.cells #[.slice zq Z.length zc,.string s,.bool c,.bool o,.bool false,.bool false,.bool false,.bool false,.bool false,.bool false,.bool false,.bool false,.bool false,.bool false,.slice none 0 0,.slice none 0 0,.int .i64 0,.bool false] 43))):=aA ⟨aD w5 _,Fr.refl _ _⟩
 have BW6:=aA (aG BW5.out B6.out lz9)
 have Z6:Hid (ZR w.heap.size (w5.alloc (.cells #[.slice zq Z.length zc,.string s,.bool c,.bool o,.bool false,.bool false,.bool false,.bool false,.bool false,.bool false,.bool false,.bool false,.bool false,.bool false,.slice none 0 0,.slice none 0 0,.int .i64 0,.bool false] 43)) (.slice zq Z.length zc) Z):=aA (aAB (bI Z5.out B2.out.size) _)
 refine hK.out _ _ N6.out.cells (fun hS3=>?_)
 clear hK K
 refine wpAnyH_ready (rs:=[6]) (by kernel_rfl) (by simp) ?_
 refine AllReadyH.cons rfl (fun K hK=>?_) AllReadyH.nil
 go_simp
 refine hK.out _ _ N6.out.cells (fun hS4=>?_)
 clear hK K
 refine wpAnyH_done (by kernel_rfl) ?_ _
 obtain⟨zb,zc',hz⟩:=aO Z6.out hZ0
 injection hz with hz1 hz2 hz3
 subst hz1
 have hzb:zb<w5.heap.size:=(aF Z5.out rfl).2.1
 have hwb:w.heap.size<=w5.heap.size:=BW5.out.size
 clear hS0 hS1 hS2 hS3 hS4 hz2 hz3 Z5 N5 N2 HS2 B6 N6 DR N1 B1 B2 LW LD BW5
 generalize w5.alloc (.cells #[.slice (some ⟨zb,0,none⟩) Z.length zc,.string s,.bool c,.bool o,.bool false,.bool false,.bool false,.bool false,.bool false,.bool false,.bool false,.bool false,.bool false,.bool false,.slice none 0 0,.slice none 0 0,.int .i64 0,.bool false] 43)=w6 at I6 BW6 Z6 ⊢
 generalize w5.heap.size=b at I6 hzb hwb ⊢
 have HZV:Hid (∀ V u p r,NI1 w6 b (.slice (some ⟨zb,0,none⟩) Z.length zc) s c o u p r V->ZR w.heap.size V (.slice (some ⟨zb,0,none⟩) Z.length zc) Z):=aA fun V u p r h=>aH Z6.out h.f (fun g hg e=>by have h0:zb=g:=aAE hg;omega)
 have U6:Hid (NI1 w6 b (.slice (some ⟨zb,0,none⟩) Z.length zc) s c o (uB (Z.take 0)) (.slice none 0 0) (.slice none 0 0) w6):=aA (by
  have e:uB (Z.take 0)=fun _=>false:=by funext m;simp [uB]
  rw [e];exact I6.out)
 clear I6
 go_upto_region 3 with fail
 go_loopw [8] (fun iv wr=>∃ i:Nat,i<=Z.length/\iv=.int .i64 (i:Int)/\NI1 w6 b (.slice (some ⟨zb,0,none⟩) Z.length zc) s c o (uB (Z.take i)) (.slice none 0 0) (.slice none 0 0) wr) (fun iv _=>Z.length-(intOf iv).toNat)
 case atStart=>exact⟨0,o9 _,rfl,U6.out⟩
 case round=>
  obtain⟨i,hi,rfl,hu⟩:=hrel
  have HU:=aA hu
  clear hu U6
  have c0:wr.cell? ⟨b,0,none⟩=some (.slice (some ⟨zb,0,none⟩) Z.length zc):=aB HU.out.h rfl
  by_cases hil:i<Z.length
  ·have i0:(i:Int)<(Z.length:Int):=by omega
   have hw2:IntKind.wrap .i64 ((i:Int)+1)=(i:Int)+1:=wrap_small _ (by omega) (by omega)
   obtain⟨z,hz⟩:∃ z,Z[i]?=some z:=⟨_,g9 hil⟩
   have y0:=(HZV.out _ _ _ _ HU.out).cells hz (j:=0) (v:=.int .i64 z.1.2.f.k) rfl
   have y1:=(HZV.out _ _ _ _ HU.out).cells hz (j:=1) (v:=.int .i64 z.1.2.f.n) rfl
   rw [aAJ] at y0
   have HT:=aA (fun m=>aV4 hz m)
   have HZ:=aA hz
   by_cases h8:z.1.2.f.k=8
   ·have e8:(z.1.2.f.k==8)=true:=by rw [h8];rfl
    obtain⟨n,hn⟩:∃ n:Nat,z.1.2.f.n=(n:Int):=⟨z.1.2.f.n.toNat,by have:=sL (HNZ.out i z hz) h8;omega⟩
    have hn9:n<10:=by have:=sL (HNZ.out i z hz) h8;omega
    rw [hn] at y1
    have HNN:=aA hn
    have HN:Hid (uB (Z.take (i+1))=fun m=>if m=n then true else uB (Z.take i) m):=aA (by
     funext m
     rw [HT.out m,e8,aCB,hn]
     by_cases e:m=n
     ·subst e;simp
     ·rw [if_neg e]
      have:((n:Int)==(m:Int))=false:=by simp;omega
      rw [this,Bool.or_false])
    clear hz h8 hn
    have in9:(n:Int)<10:=by omega
    have lb2:b<wr.heap.size:=aC HU.out.h
    have lz2:zb<wr.heap.size:=(aF (HZV.out _ _ _ _ HU.out) rfl).2.1
    have in0:(0:Int)<=(n:Int):=by omega
    go_upto_region 6 with fail
    have DR7:=aA ((Below.refl wr.heap.size wr).drew)
    have I7:=aA (HU.out.kept DR7.out)
    have d0:wr.drew.cell? ⟨b,0,none⟩=some (.slice (some ⟨zb,0,none⟩) Z.length zc):=aB I7.out.h rfl
    have HC1:Hid (∀ V u p r,NI1 w6 b (.slice (some ⟨zb,0,none⟩) Z.length zc) s c o u p r V->V.cell? ⟨b,0,none⟩=some (.slice (some ⟨zb,0,none⟩) Z.length zc)/\V.cell? ⟨zb,i*12+1,none⟩=some (.int .i64 (n:Int))):=aA fun V u p r h=>⟨aB h.h rfl,by
     have:=(HZV.out _ _ _ _ h).cells HZ.out (j:=1) (v:=.int .i64 z.1.2.f.n) rfl
     rw [this,HNN.out]⟩
    have c4:wr.drew.cell? ⟨b,4+n,none⟩=some (.bool (uB (Z.take i) n)):=aB I7.out.h (bE4 hn9)
    have fz:=fun j=>aK I7.out.h j
    have I8:=aA (I7.out.put hn9)
    rw [<- HN.out] at I8
    clear c0 y0 y1
    refine wp_region_held_drew (S:=fun w'=>w'.cell? ⟨b,0,none⟩=some (.slice (some ⟨zb,0,none⟩) Z.length zc)/\w'.cell? ⟨zb,i*12+1,none⟩=some (.int .i64 (n:Int))) (by kernel_rfl) (HC1.out _ _ _ _ I7.out) ?_
    intro hS0
    refine wpAnyH_take (i:=0) (oi:=_) (v:=?_) rfl (by kernel_rfl) (by kernel_rfl) (by kernel_rfl) (fun _ _ _ h=>h) (Or.inl ⟨by rfl,?_⟩) (by assumption) ?_
    rotate_left
    ·intro wz hSw
     obtain⟨hs0,hs1⟩:=hSw
     go_simp
     try with_reducible rfl
    dsimp only [Act.put,i7,g7,g8]
    simp only [f8,i8,i9]
    refine wpAnyH_take (i:=1) (oi:=_) (v:=?_) rfl (by kernel_rfl) (by kernel_rfl) (by kernel_rfl) (fun _ _ _ h=>h) (Or.inl ⟨by rfl,?_⟩) (by assumption) ?_
    rotate_left
    ·intro wz hSw
     obtain⟨hs0,hs1⟩:=hSw
     go_simp
     try with_reducible rfl
    dsimp only [Act.put,i7,g7,g8]
    simp only [f8,i8,i9]
    refine wpAnyH_take (i:=2) (oi:=_) (v:=?_) rfl (by kernel_rfl) (by kernel_rfl) (by kernel_rfl) (fun _ _ _ h=>h) (Or.inl ⟨by rfl,?_⟩) (by assumption) ?_
    rotate_left
    ·intro wz hSw
     obtain⟨hs0,hs1⟩:=hSw
     go_simp
     try with_reducible rfl
    dsimp only [Act.put,i7,g7,g8]
    simp only [f8,i8,i9]
    refine wpAnyH_take (i:=3) (oi:=_) (v:=?_) rfl (by kernel_rfl) (by kernel_rfl) (by kernel_rfl) (fun _ _ _ h=>h) (Or.inl ⟨by rfl,?_⟩) (by assumption) ?_
    rotate_left
    ·intro wz hSw
     obtain⟨hs0,hs1⟩:=hSw
     go_simp
     try with_reducible rfl
    dsimp only [Act.put,i7,g7,g8]
    simp only [f8,i8,i9]
    refine wpAnyH_take (i:=4) (oi:=_) (v:=?_) rfl (by kernel_rfl) (by kernel_rfl) (by kernel_rfl) (fun _ _ _ h=>h) (Or.inl ⟨by rfl,?_⟩) (by assumption) ?_
    rotate_left
    ·intro wz hSw
     obtain⟨hs0,hs1⟩:=hSw
     go_simp
     try with_reducible rfl
    dsimp only [Act.put,i7,g7,g8]
    simp only [f8,i8,i9]
    refine wpAnyH_take (i:=5) (oi:=_) (v:=?_) rfl (by kernel_rfl) (by kernel_rfl) (by kernel_rfl) (fun _ _ _ h=>h) (Or.inl ⟨by rfl,?_⟩) (by assumption) ?_
    rotate_left
    ·intro wz hSw
     obtain⟨hs0,hs1⟩:=hSw
     go_simp
     try with_reducible rfl
    dsimp only [Act.put,i7,g7,g8]
    simp only [f8,i8,i9]
    refine wpAnyH_take (i:=6) (oi:=_) (v:=?_) rfl (by kernel_rfl) (by kernel_rfl) (by kernel_rfl) (fun _ _ _ h=>h) (Or.inl ⟨by rfl,?_⟩) (by assumption) ?_
    rotate_left
    ·intro wz hSw
     obtain⟨hs0,hs1⟩:=hSw
     go_simp
     try with_reducible rfl
    dsimp only [Act.put,i7,g7,g8]
    simp only [f8,i8,i9]
    refine wpAnyH_take (i:=7) (oi:=_) (v:=?_) rfl (by kernel_rfl) (by kernel_rfl) (by kernel_rfl) (fun _ _ _ h=>h) (Or.inl ⟨by rfl,?_⟩) (by assumption) ?_
    rotate_left
    ·intro wz hSw
     obtain⟨hs0,hs1⟩:=hSw
     go_simp
     try with_reducible rfl
    dsimp only [Act.put,i7,g7,g8]
    simp only [f8,i8,i9]
    refine wpAnyH_take (i:=8) (oi:=_) (v:=?_) rfl (by kernel_rfl) (by kernel_rfl) (by kernel_rfl) (fun _ _ _ h=>h) (Or.inl ⟨by rfl,?_⟩) (by assumption) ?_
    rotate_left
    ·intro wz hSw
     obtain⟨hs0,hs1⟩:=hSw
     go_simp
     try with_reducible rfl
    dsimp only [Act.put,i7,g7,g8]
    simp only [f8,i8,i9]
    refine wpAnyH_take (i:=9) (oi:=_) (v:=?_) rfl (by kernel_rfl) (by kernel_rfl) (by kernel_rfl) (fun _ _ _ h=>h) (Or.inl ⟨by rfl,?_⟩) (by assumption) ?_
    rotate_left
    ·intro wz hSw
     obtain⟨hs0,hs1⟩:=hSw
     go_simp
     try with_reducible rfl
    dsimp only [Act.put,i7,g7,g8]
    simp only [f8,i8,i9]
    refine wpAnyH_take (i:=10) (oi:=_) (v:=?_) rfl (by kernel_rfl) (by kernel_rfl) (by kernel_rfl) (fun _ _ _ h=>h) (Or.inl ⟨by rfl,?_⟩) (by assumption) ?_
    rotate_left
    ·intro wz hSw
     obtain⟨hs0,hs1⟩:=hSw
     go_simp
     try with_reducible rfl
    dsimp only [Act.put,i7,g7,g8]
    simp only [f8,i8,i9]
    refine wpAnyH_take (i:=11) (oi:=_) (v:=?_) rfl (by kernel_rfl) (by kernel_rfl) (by kernel_rfl) (fun _ _ _ h=>h) (Or.inl ⟨by rfl,?_⟩) (by assumption) ?_
    rotate_left
    ·intro wz hSw
     obtain⟨hs0,hs1⟩:=hSw
     go_simp
     try with_reducible rfl
    dsimp only [Act.put,i7,g7,g8]
    simp only [f8,i8,i9]
    refine wpAnyH_ready (rs:=[12]) (by kernel_rfl) (by simp) ?_
    refine AllReadyH.cons rfl (fun K hK=>?_) AllReadyH.nil
    go_simp
    refine hK.out _ _ (HC1.out _ _ _ _ I7.out) (fun hS1=>?_)
    clear hK K
    refine wpAnyH_ready (rs:=[13]) (by kernel_rfl) (by simp) ?_
    refine AllReadyH.cons rfl (fun K hK=>?_) AllReadyH.nil
    go_simp
    refine hK.out _ _ (HC1.out _ _ _ _ I8.out) (fun hS2=>?_)
    clear hK K
    refine wpAnyH_done (by kernel_rfl) ?_ _
    clear hS0 hS1 hS2
    go_wp2
    go_roundw
    case rel=>exact⟨i+1,by omega,by go_num,I8.out⟩
    case measure=>simp only [intOf];omega
   ·have e8:(z.1.2.f.k==8)=false:=by simpa using h8
    have HN:Hid (uB (Z.take (i+1))=uB (Z.take i)):=aA (by
     funext m
     rw [HT.out m,e8,Bool.false_and,Bool.or_false])
    clear hz h8
    go_wp2
    go_roundw
    case rel=>exact⟨i+1,by omega,by go_num,by rw [HN.out];exact HU.out⟩
    case measure=>simp only [intOf];omega
  ·have i0:¬ (i:Int)<(Z.length:Int):=by omega
   have HT:Hid (Z.take i=Z):=aA (o4 (by omega))
   rw [HT.out] at HU
   clear HT
   have MB:=eA Z.length (by omega)
   have MR:=aE3 Z.length (by omega)
   have fz:=fun j=>aK HU.out.h j
   have c14:wr.cell? ⟨b,14,none⟩=some (.slice none 0 0):=aB HU.out.h rfl
   have lb2:b<wr.heap.size:=aC HU.out.h
   go_upto_region 8 with fail
   have hz7:(wr.setCell ⟨b,14,none⟩ (.slice (some ⟨wr.heap.size,0,none⟩) Z.length Z.length)).heap.size=wr.heap.size:=by simp [World.setCell]
   have A7:Hid (Below (wr.setCell ⟨b,14,none⟩ (.slice (some ⟨wr.heap.size,0,none⟩) Z.length Z.length)).heap.size (wr.setCell ⟨b,14,none⟩ (.slice (some ⟨wr.heap.size,0,none⟩) Z.length Z.length)) ((wr.setCell ⟨b,14,none⟩ (.slice (some ⟨wr.heap.size,0,none⟩) Z.length Z.length)).alloc (.cells (noC Z.length) 4))):=bz9
   have hwr:w.heap.size<=wr.heap.size:=o0 BW6.out.size HU.out.f.size
   have I7:=aA ((HU.out.setp (.slice (some ⟨wr.heap.size,0,none⟩) Z.length Z.length)).kept A7.out)
   have R7:Hid (BR w.heap.size ((wr.setCell ⟨b,14,none⟩ (.slice (some ⟨wr.heap.size,0,none⟩) Z.length Z.length)).alloc (.cells (noC Z.length) 4)) wr.heap.size Z.length (cJ Z.length)):=aA (by
    have:=iW (base:=w.heap.size) (n:=Z.length) (V:=(wr.setCell ⟨b,14,none⟩ (.slice (some ⟨wr.heap.size,0,none⟩) Z.length Z.length))) (by rw [hz7];exact hwr) (by omega)
    rwa [hz7] at this)
   clear fz c14 MB A7 hz7
   generalize ((wr.setCell ⟨b,14,none⟩ (.slice (some ⟨wr.heap.size,0,none⟩) Z.length Z.length)).alloc (.cells (noC Z.length) 4))=w7 at I7 R7 ⊢
   generalize wr.heap.size=gp at I7 R7 ⊢
   have fz:=fun j=>aK I7.out.h j
   have c15:w7.cell? ⟨b,15,none⟩=some (.slice none 0 0):=aB I7.out.h rfl
   have c0':w7.cell? ⟨b,0,none⟩=some (.slice (some ⟨zb,0,none⟩) Z.length zc):=aB I7.out.h rfl
   have lb3:b<w7.heap.size:=aC I7.out.h
   clear c0 lb2 hwr HU
   go_upto_region 9 with fail
   have hz8:(w7.setCell ⟨b,15,none⟩ (.slice (some ⟨w7.heap.size,0,none⟩) Z.length Z.length)).heap.size=w7.heap.size:=by simp [World.setCell]
   have A8:Hid (Below (w7.setCell ⟨b,15,none⟩ (.slice (some ⟨w7.heap.size,0,none⟩) Z.length Z.length)).heap.size (w7.setCell ⟨b,15,none⟩ (.slice (some ⟨w7.heap.size,0,none⟩) Z.length Z.length)) ((w7.setCell ⟨b,15,none⟩ (.slice (some ⟨w7.heap.size,0,none⟩) Z.length Z.length)).alloc (.cells (rzC Z.length) 110))):=bz9
   have hwr:w.heap.size<=w7.heap.size:=o0 BW6.out.size I7.out.f.size
   have I8:=aA ((I7.out.setr (.slice (some ⟨w7.heap.size,0,none⟩) Z.length Z.length)).kept A8.out)
   have R8:Hid (BR w.heap.size ((w7.setCell ⟨b,15,none⟩ (.slice (some ⟨w7.heap.size,0,none⟩) Z.length Z.length)).alloc (.cells (rzC Z.length) 110)) gp Z.length (cJ Z.length)):=aA (BR.kept (aH R7.out ((Fr.refl (fun k=>k=b) w7).setCell (p:=⟨b,15,none⟩) rfl _) (fun g hg e=>by
    obtain⟨-,-,cur,hc'⟩:=aF R7.out hg
    exact bD hc' I7.out.h (by decide) e)) A8.out)
   have Q8:Hid (((w7.setCell ⟨b,15,none⟩ (.slice (some ⟨w7.heap.size,0,none⟩) Z.length Z.length)).alloc (.cells (rzC Z.length) 110)).ownsRow w.heap.size 110 1 (.slice (some ⟨w7.heap.size,0,none⟩) Z.length Z.length) Z.length (List.replicate Z.length (.slice none 0 0))):=aA (by
    refine⟨by simp,.inr ⟨w7.heap.size,Z.length,rzC Z.length,rfl,hwr,?_,t8 _,by unfold maxLen;omega,by simp [rzC],by simp [rzC]⟩⟩
    have h9:=aD (w7.setCell ⟨b,15,none⟩ (.slice (some ⟨w7.heap.size,0,none⟩) Z.length Z.length)) (.cells (rzC Z.length) 110)
    rw [hz8] at h9
    exact h9)
   clear fz c15 c0' MR A8 hz8
   generalize ((w7.setCell ⟨b,15,none⟩ (.slice (some ⟨w7.heap.size,0,none⟩) Z.length Z.length)).alloc (.cells (rzC Z.length) 110))=w8 at I8 R8 Q8 ⊢
   generalize w7.heap.size=gr at I8 Q8 ⊢
   have J8:Hid (NI2 w b (.slice (some ⟨zb,0,none⟩) Z.length zc) s c o Z gp gr 0 (cJ Z.length) w8):=aA ⟨I8.out.h,HZV.out _ _ _ _ I8.out,Q8.out,R8.out,cZ _,fun j x h=>by omega,BW6.out.trans (I8.out.f.below (o0 BW6.out.size lz9) (fun k e=>by omega))⟩
   clear I7 I8 R7 R8 Q8 HZV
   go_upto_region 10 with fail
   go_loopw [9] (fun iv wr=>∃ (i:Nat) (is:List Bool),i<=Z.length/\iv=.int .i64 (i:Int)/\NI2 w b (.slice (some ⟨zb,0,none⟩) Z.length zc) s c o Z gp gr i is wr) (fun iv _=>Z.length-(intOf iv).toNat)
   case atStart=>exact⟨0,cJ Z.length,o9 _,rfl,J8.out⟩
   case round=>
    obtain⟨i2,is,hi2,rfl,hj⟩:=hrel
    have HJ:=aA hj
    clear hj J8
    have c0:wr.cell? ⟨b,0,none⟩=some (.slice (some ⟨zb,0,none⟩) Z.length zc):=aB HJ.out.h rfl
    by_cases hil2:i2<Z.length
    ·have j0:(i2:Int)<(Z.length:Int):=by omega
     have hw3:IntKind.wrap .i64 ((i2:Int)+1)=(i2:Int)+1:=wrap_small _ (by omega) (by omega)
     obtain⟨z,hz⟩:∃ z,Z[i2]?=some z:=⟨_,g9 hil2⟩
     have HZ:=aA hz
     obtain⟨T,hT⟩:∃ T,z.2=T:=⟨_,rfl⟩
     have hT1:T=i2+z.1.2.sz:=by rw [<- hT];exact HTO.out i2 z hz
     have hT2:T<=Z.length:=by
      have h2:(pp [] t)[i2]?=some z.1:=by rw [<- HMP.out,aAO,hz];rfl
      obtain⟨r,hr⟩:=seg t [] i2 z.1 h2
      have h3:=congrArg List.length hr
      rw [o5,bL,aAR,<- HMP.out,aAC] at h3
      omega
     have HT1:=aA hT1
     have HT:=aA hT
     clear hz hT hT1
     go_upto_region 14 with fail
     go_loopw [10,11] (fun pv kv wr=>∃ (k:Nat) (P:Bool),i2<=k/\k<=T/\P=okR ⟨s,c,o,uB Z⟩ ((Z.drop i2).take (k-i2))/\pv=.bool P/\kv=.int .i64 (k:Int)/\NI2 w b (.slice (some ⟨zb,0,none⟩) Z.length zc) s c o Z gp gr i2 is wr) (fun _ kv _=>T-(intOf kv).toNat)
     case atStart=>exact⟨i2,true,t8 _,by have:=HT1.out;omega,by rw [aBF,aAL];rfl,rfl,rfl,HJ.out⟩
     case round=>
      obtain⟨k,P,hk1,hk2,hP,rfl,rfl,hj⟩:=hrel
      have HJ3:=aA hj
      have HP:=aA hP
      clear hj hP HJ c0
      have c0:wr.cell? ⟨b,0,none⟩=some (.slice (some ⟨zb,0,none⟩) Z.length zc):=aB HJ3.out.h rfl
      have y11:=HJ3.out.z.cells HZ.out (j:=11) (v:=.int .i64 (z.2:Int)) rfl
      rw [HT.out] at y11
      by_cases hkT:k<T
      ·have k0:(k:Int)<(T:Int):=by omega
       have hkz:(k:Int)<(Z.length:Int):=by omega
       have hw4:IntKind.wrap .i64 ((k:Int)+1)=(k:Int)+1:=wrap_small _ (by omega) (by omega)
       obtain⟨x,hx⟩:∃ x,Z[k]?=some x:=⟨_,g9 (by omega)⟩
       have y0:=HJ3.out.z.cells hx (j:=0) (v:=.int .i64 x.1.2.f.k) rfl
       have y1:=HJ3.out.z.cells hx (j:=1) (v:=.int .i64 x.1.2.f.n) rfl
       have y2:=HJ3.out.z.cells hx (j:=2) (v:=.int .i64 x.1.2.f.mn) rfl
       have y3:=HJ3.out.z.cells hx (j:=3) (v:=.int .i64 x.1.2.f.mx) rfl
       have y4:=HJ3.out.z.cells hx (j:=4) (v:=.slice x.1.2.f.rq x.1.2.f.rs.length x.1.2.f.rc) rfl
       have y5:=HJ3.out.z.cells hx (j:=5) (v:=.slice x.1.2.f.kq x.1.2.f.kl x.1.2.f.kc) rfl
       rw [aAJ] at y0
       have HSN:Hid (okR ⟨s,c,o,uB Z⟩ ((Z.drop i2).take (k+1-i2))=(P && !bdB ⟨s,c,o,uB Z⟩ x.1.2.f)):=aA (by rw [aN7 hk1 hx,HP.out])
       have HNX:=aA (HNZ.out k x hx)
       go_upto_region 17 with fail
       have B4:Hid (Below wr.heap.size wr (wr.alloc (.cells #[.int .i64 x.1.2.f.k,.int .i64 x.1.2.f.n,.int .i64 x.1.2.f.mn,.int .i64 x.1.2.f.mx,.slice x.1.2.f.rq x.1.2.f.rs.length x.1.2.f.rc,.slice x.1.2.f.kq x.1.2.f.kl x.1.2.f.kc] 25))):=bz9
       have N4:Hid (BoxN (wr.alloc (.cells #[.int .i64 x.1.2.f.k,.int .i64 x.1.2.f.n,.int .i64 x.1.2.f.mn,.int .i64 x.1.2.f.mx,.slice x.1.2.f.rq x.1.2.f.rs.length x.1.2.f.rc,.slice x.1.2.f.kq x.1.2.f.kl x.1.2.f.kc] 25)) wr.heap.size x.1.2.f):=aD wr _
       have J4:=aA (HJ3.out.kept B4.out)
       generalize (wr.alloc (.cells #[.int .i64 x.1.2.f.k,.int .i64 x.1.2.f.n,.int .i64 x.1.2.f.mn,.int .i64 x.1.2.f.mx,.slice x.1.2.f.rq x.1.2.f.rs.length x.1.2.f.rc,.slice x.1.2.f.kq x.1.2.f.kl x.1.2.f.kc] 25))=w4 at B4 N4 J4 ⊢
       clear y0 y1 y2 y3 y4 y5 y11 c0 hx B4 HJ3
       generalize wr.heap.size=bn at N4 ⊢
       obtain⟨n0,n1,n2,n3,n4,n5⟩:=N4.out.six
       simp only [m7] at n1 n2 n3 n4 n5
       have l1:bn<w4.heap.size:=aC N4.out
       have l2:b<w4.heap.size:=aC J4.out.h
       by_cases h8:x.1.2.f.k=8
       ·have HB:Hid (bdB ⟨s,c,o,uB Z⟩ x.1.2.f=true):=aA (by unfold bdB;rw [h8];rfl)
        have e8:(x.1.2.f.k==8)=true:=by rw [h8];rfl
        clear h8
        clear n2 n3 n4 n5
        refine wx9 ?_
        repeat (go_big_quiet_step (first | exact rfl))
        refine wpQuiet_nil ?_
        intro w5 hw5
        have J5:=aA (J4.out.kept (aM hw5))
        clear hw5
        go_wp2
        go_roundw
        case rel=>exact⟨k+1,false,by omega,by omega,(by rw [HSN.out,HB.out];simp),rfl,by go_num,J5.out⟩
        case measure=>simp only [intOf];omega
       ·have e8:(x.1.2.f.k==8)=false:=by simpa using h8
        by_cases h7:x.1.2.f.k=7
        ·have e7:(x.1.2.f.k==7)=true:=by rw [h7];rfl
         obtain⟨n,hn,hn1⟩:∃ n:Nat,x.1.2.f.n=(n:Int)/\1<=n:=by
          have hb:=HNX.out.2 h7
          exact⟨x.1.2.f.n.toNat,by omega,by omega⟩
         have HB:Hid (bdB ⟨s,c,o,uB Z⟩ x.1.2.f=(decide ((n:Int)<10)&&uB Z n)):=aA (by unfold bdB kep;rw [e8,e7,hn];simp)
         rw [hn] at n1
         clear h7 h8 hn
         by_cases h10:(n:Int)<10
         ·rw [aAM h10,aCB] at HB
          have c4:w4.cell? ⟨b,4+n,none⟩=some (.bool (uB Z n)):=aB J4.out.h (bE4 (by omega))
          have in0:(0:Int)<=(n:Int):=by omega
          generalize uB Z n=U at HB c4
          cases U with
          | true=>
           clear n2 n3 n4 n5
           refine wx9 ?_
           repeat (go_big_quiet_step (first | exact rfl))
           refine wpQuiet_nil ?_
           intro w5 hw5
           have J5:=aA (J4.out.kept (aM hw5))
           clear hw5
           go_wp2
           go_roundw
           case rel=>exact⟨k+1,false,by omega,by omega,(by rw [HSN.out,HB.out];simp),rfl,by go_num,J5.out⟩
           case measure=>simp only [intOf];omega
          | false=>
           clear n2 n3 n4 n5
           refine wx9 ?_
           repeat (go_big_quiet_step (first | exact rfl))
           refine wpQuiet_nil ?_
           intro w5 hw5
           have J5:=aA (J4.out.kept (aM hw5))
           clear hw5
           go_wp2
           go_roundw
           case rel=>exact⟨k+1,P,by omega,by omega,(by rw [HSN.out,HB.out];simp),rfl,by go_num,J5.out⟩
           case measure=>simp only [intOf];omega
         ·rw [r9 h10,Bool.false_and] at HB
          clear n2 n3 n4 n5
          refine wx9 ?_
          repeat (go_big_quiet_step (first | exact rfl))
          refine wpQuiet_nil ?_
          intro w5 hw5
          have J5:=aA (J4.out.kept (aM hw5))
          clear hw5
          go_wp2
          go_roundw
          case rel=>exact⟨k+1,P,by omega,by omega,(by rw [HSN.out,HB.out];simp),rfl,by go_num,J5.out⟩
          case measure=>simp only [intOf];omega
        ·have e7:(x.1.2.f.k==7)=false:=by simpa using h7
         have HB:Hid (bdB ⟨s,c,o,uB Z⟩ x.1.2.f=false):=aA (by unfold bdB;rw [e8,e7];rfl)
         clear h7 h8
         clear n2 n3 n4 n5
         refine wx9 ?_
         repeat (go_big_quiet_step (first | exact rfl))
         refine wpQuiet_nil ?_
         intro w5 hw5
         have J5:=aA (J4.out.kept (aM hw5))
         clear hw5
         go_wp2
         go_roundw
         case rel=>exact⟨k+1,P,by omega,by omega,(by rw [HSN.out,HB.out];simp),rfl,by go_num,J5.out⟩
         case measure=>simp only [intOf];omega
      ·have k0:¬ (k:Int)<(T:Int):=by omega
       have HPL:Hid (P=plB ⟨s,c,o,uB Z⟩ z.1.2):=aA (by
        rw [HP.out,show k-i2=z.1.2.sz by have:=HT1.out;omega]
        exact aZ1 HMP.out HZ.out)
       have c14:wr.cell? ⟨b,14,none⟩=some (.slice (some ⟨gp,0,none⟩) Z.length Z.length):=aB HJ3.out.h rfl
       have hfz:=HJ3.out.r.frz i2
       obtain⟨d0,hd0⟩:∃ d0,wr.cell? ⟨gp,i2,none⟩=some (.bool d0):=⟨_,HJ3.out.r.cell (g9 (by rw [HJ3.out.n];omega))⟩
       have J6:=aA (HJ3.out.put HZ.out HPL.out)
       go_wp2
       go_roundw
       case rel=>exact⟨i2+1,_,by omega,by go_num,J6.out⟩
       case measure=>simp only [intOf];omega
    ·have j0:¬ (i2:Int)<(Z.length:Int):=by omega
     go_wp2
     go_ret
     have hism:is.map Value.bool=Z.map fun z=>Value.bool (plB ⟨s,c,o,uB Z⟩ z.1.2):=by
      apply List.ext_getElem?
      intro j
      by_cases hj:j<Z.length
      ·rw [aAO,aAO,HJ.out.m j _ (by omega) (g9 hj),g9 hj]
       rfl
      ·rw [List.getElem?_eq_none (by rw [aAC,HJ.out.n];omega),List.getElem?_eq_none (by rw [aAC];omega)]
     have hno:∀ (j k:Nat),(List.replicate Z.length (none:Option Nat))[j]?=some (some k)->False:=fun j k h=>by
      have:=n8 h
      simp at this
     refine⟨⟨t,⟨s,c,o,uB Z⟩,Z,w.heap.size,b,zb,zc,gp,Z.length,gr,Z.length⟩,List.replicate Z.length none,rfl,⟨HJ.out.h,HJ.out.z,?_,?_,fun i j k h _=>(hno i k h).elim,fun i k z h _=>(hno i k h).elim,hwb,HTA.out.kept HJ.out.bel,HFT.out,fun _=>by omega⟩,⟨HMP.out,HTO.out,hZ,hs,HNP.out⟩,rfl,rfl,rfl,rfl,rfl,rfl,HJ.out.bel⟩
     ·have:=HJ.out.r
      unfold BR at this
      rw [hism,HJ.out.n] at this
      exact this
     ·have:=HJ.out.q
      rw [show (List.replicate Z.length (none:Option Nat)).map (rwV s.size)=List.replicate Z.length (.slice none 0 0) by rw [List.map_replicate];rfl]
      exact this
end
section
attribute [local go_sem] Oper.semAt_some aU
def bN3(w:World)(s:ByteArray)(e:Ending)(w':World):Prop:=∃ (q:Option Addr) (c:Nat) (l:List Nat),e=.returned (.slice q l.length c)/\Ls12 w.heap.size w' q c l/\(∀ j∈l,j<=s.size)/\l.length<=s.size+1/\Below w.heap.size w w'
theorem bL1(w:World):RsI w (some ⟨w.heap.size,0,none⟩) 1 [0] (w.alloc (.cells #[.int .i64 0] 3)):=by
 refine⟨⟨by simp,.inr ⟨w.heap.size,1,#[.int .i64 0],by simp,t8 _,aD w _,by simp,by unfold maxLen;omega,by simp,by simp⟩⟩,bz9⟩
theorem tZ(s:ByteArray)(hs:s.size<=1000000)(w:World):Calls Tryz.prog 26 #[.string s] w (bN3 w s):=by
 have U1:=aA (bL1 w)
 go_enter Tryz.func26,Tryz.ntmps26
 go_upto_region 3 with fail
 generalize (w.alloc (.cells #[.int .i64 0] 3))=w1 at U1 ⊢
 obtain⟨g,hg⟩:∃ g,w.heap.size=g:=⟨_,rfl⟩
 have U2:Hid (RsI w (some ⟨g,0,none⟩) 1 [0] w1):=aA (by rw [<- hg];exact U1.out)
 rw [hg]
 clear U1 hg
 go_loopw [3,4] (fun lv av wr=>∃ (a:Nat) (q:Option Addr) (cc:Nat) (l:List Nat),a<=s.size/\av=.int .i64 (a:Int)/\lv=.slice q l.length cc/\(∀ j∈l,j<=s.size)/\l.length<=a+1/\RsI w q cc l wr) (fun _ av _=>s.size-(intOf av).toNat)
 case atStart=>exact⟨0,some ⟨g,0,none⟩,1,[0],by omega,rfl,rfl,by simp,by simp,U2.out⟩
 case round=>
  obtain⟨a,q,cc,l,ha,rfl,rfl,hj,hlen,hu⟩:=hrel
  have HU:=aA hu
  have HJ:=aA hj
  clear hu hj
  rename World=>wr
  by_cases hal:a<s.size
  ·have i0:(a:Int)<(s.size:Int):=by omega
   have NX:=aA (zA s a wr hal (by omega))
   have hwp:=aH9 s a
   have hwd:=(aI0 s a hal).2
   obtain⟨cv,hcv⟩:∃ x,ch s a=x:=⟨_,rfl⟩
   obtain⟨wv,hwv⟩:∃ x,wd s a=x:=⟨_,rfl⟩
   rw [hcv,hwv] at NX
   rw [hwv] at hwp hwd
   clear hcv hwv
   obtain⟨k,hk⟩:∃ k,a+wv=k:=⟨_,rfl⟩
   have hk1:a<k:=by omega
   have hk2:k<=s.size:=by omega
   have hwr:IntKind.wrap .i64 ((a:Int)+(wv:Int))=(k:Int):=by rw [wrap_small _ (by omega) (by omega)];omega
   clear hk
   go_upto_region 6 with (go_at_call 49;(with_reducible refine(NX.out).mono ?_);rintro e w5 ⟨rfl,h5⟩;have B5:=aA h5;clear h5)
   have U5:Hid (RsI w q cc l w5):=aA ⟨aH (S:=fun _=>False) HU.out.l (Fr.of_below B5.out) (fun _ _ q=>q),aG HU.out.bel B5.out lz9⟩
   clear HU B5
   clear hwr hwp hwd
   obtain⟨t0,hi,hz0,hz1,hz2⟩:=aR gU
   have Y7:Hid ((w5.alloc (.cells #[.int .i64 (k:Int)] 3)).ownsRow w.heap.size 3 1 (.slice q l.length cc) l.length (l.map fun j:Nat=>.int .i64 (j:Int))):=aAB U5.out.l _
   have HNEW:Hid (∀ j u,([.int .i64 (k:Int)]:List Value)[j]?=some u->(w5.alloc (.cells #[.int .i64 (k:Int)] 3)).cell? ((⟨w5.heap.size,0,none⟩:Addr).add j)=some u):=fU w5 [.int .i64 (k:Int)] _
   have HB8:Hid (w.heap.size<=(w5.alloc (.cells #[.int .i64 (k:Int)] 3)).heap.size):=o0 U5.out.bel.size (by simp)
   go_wp2_with (at_builtin;refine wpList_append_own_at _ rfl _ _ 35 rfl w.heap.size 3 t0 (.int .i64 0) 1 8 gP hi hz0 hz1 hz2 rfl (by decide) (.slice q l.length cc) l.length (l.map fun j:Nat=>.int .i64 (j:Int)) rfl Y7.out ⟨w5.heap.size,0,none⟩ 1 1 [.int .i64 (k:Int)] rfl rfl HNEW.out (by simp [Value.oneCell']) (by unfold maxLen;omega) (by omega) HB8.out ?_;intro v' w6 hown' hgrow _ _;obtain⟨q6,c6,rfl⟩:=aQ hown';have U6:=aA (U5.out.snoc hown' hgrow);clear hown' hgrow)
   go_roundw
   case rel=>exact⟨k,q6,c6,l++[k],hk2,rfl,by rw [o5];rfl,fun j hj=>(o3.1 hj).elim (HJ.out j) (fun e=>by rw [s9.1 e];exact hk2),by rw [o5];simp;omega,U6.out⟩
   case measure=>simp only [intOf];omega
  ·have i0:¬ (a:Int)<(s.size:Int):=by omega
   go_wp2
   go_ret
   exact⟨q,cc,l,rfl,HU.out.l,HJ.out,by omega,HU.out.bel⟩
theorem uI(s:ByteArray)(hs:s.size<=1000000)(c o:Bool)(w:World):Calls Tryz.prog 10 #[.string s,.agg #[.bool c,.bool o]] w (bN3 w s):=by
 have B0:Hid (Below w.heap.size w (w.alloc (.cells #[.bool c,.bool o] 27))):=bz9
 have c0:(w.alloc (.cells #[.bool c,.bool o] 27)).cell? ⟨w.heap.size,0,none⟩=some (.bool c):=aB (aD w _) rfl
 go_enter Tryz.func10,Tryz.ntmps10
 go_upto_region 1 with fail
 generalize (w.alloc (.cells #[.bool c,.bool o] 27))=w1 at B0 c0 ⊢
 cases c with
 | true=>
  have PL:=aA (tZ s hs w1)
  go_wp2_with (go_at_call 26;(with_reducible refine(PL.out).mono ?_);rintro e w5 ⟨q,cc,l,rfl,h1,h2,h3,h4⟩;have R5:Hid (bN3 w s (.returned (.slice q l.length cc)) w5):=aA ⟨q,cc,l,rfl,bI h1 B0.out.size,h2,h3,aG B0.out h4 lz9⟩;clear h1 h2 h3 h4)
  go_ret
  exact R5.out
 | false=>
  have U1:Hid (RsI w none 0 [] w1):=aA ⟨aAY _ _ _ _,B0.out⟩
  clear B0
  go_upto_region 5 with fail
  go_loopw [5,6] (fun lv av wr=>∃ (a:Nat) (q:Option Addr) (cc:Nat) (l:List Nat),a<=s.size+1/\av=.int .i64 (a:Int)/\lv=.slice q l.length cc/\(∀ j∈l,j<=s.size)/\l.length<=a/\RsI w q cc l wr) (fun _ av _=>s.size+1-(intOf av).toNat)
  case atStart=>exact⟨0,none,0,[],by omega,rfl,rfl,by simp,by simp,U1.out⟩
  case round=>
   obtain⟨a,q,cc,l,ha,rfl,rfl,hj,hlen,hu⟩:=hrel
   have HU:=aA hu
   have HJ:=aA hj
   clear hu hj U1
   rename World=>wr
   by_cases hal:a<=s.size
   ·have i0:(a:Int)<=(s.size:Int):=by omega
    have hw2:IntKind.wrap .i64 ((a:Int)+1)=(a:Int)+1:=wrap_small _ (by omega) (by omega)
    obtain⟨t0,hi,hz0,hz1,hz2⟩:=aR gU
    have Y7:Hid ((wr.alloc (.cells #[.int .i64 (a:Int)] 3)).ownsRow w.heap.size 3 1 (.slice q l.length cc) l.length (l.map fun j:Nat=>.int .i64 (j:Int))):=aAB HU.out.l _
    have HNEW:Hid (∀ j u,([.int .i64 (a:Int)]:List Value)[j]?=some u->(wr.alloc (.cells #[.int .i64 (a:Int)] 3)).cell? ((⟨wr.heap.size,0,none⟩:Addr).add j)=some u):=fU wr [.int .i64 (a:Int)] _
    have HB8:Hid (w.heap.size<=(wr.alloc (.cells #[.int .i64 (a:Int)] 3)).heap.size):=o0 HU.out.bel.size (by simp)
    go_wp2_with (at_builtin;refine wpList_append_own_at _ rfl _ _ 35 rfl w.heap.size 3 t0 (.int .i64 0) 1 8 gP hi hz0 hz1 hz2 rfl (by decide) (.slice q l.length cc) l.length (l.map fun j:Nat=>.int .i64 (j:Int)) rfl Y7.out ⟨wr.heap.size,0,none⟩ 1 1 [.int .i64 (a:Int)] rfl rfl HNEW.out (by simp [Value.oneCell']) (by unfold maxLen;omega) (by omega) HB8.out ?_;intro v' w6 hown' hgrow _ _;obtain⟨q6,c6,rfl⟩:=aQ hown';have U6:=aA (HU.out.snoc hown' hgrow);clear hown' hgrow)
    go_roundw
    case rel=>exact⟨a+1,q6,c6,l++[a],by omega,by go_num,by rw [o5];rfl,fun j hj=>(o3.1 hj).elim (HJ.out j) (fun e=>by rw [s9.1 e];exact hal),by rw [o5];simp;omega,U6.out⟩
    case measure=>simp only [intOf];omega
   ·have i0:¬ (a:Int)<=(s.size:Int):=by omega
    go_wp2
    go_ret
    exact⟨q,cc,l,rfl,HU.out.l,HJ.out,by omega,HU.out.bel⟩
end
section
attribute [local go_sem] Oper.semAt_some
theorem pR{R:Ending->World->Prop}{a:Act}{W:World}{b:Nat}{f:Fl}(h:Six W b 0 f)(ha:a.tmps[4]?.getD undef=.pointer (some ⟨b,0,none⟩))(hd:a.defers=[])(hR:R (.returned (.agg #[.int .i64 f.k,.int .i64 f.n,.int .i64 f.mn,.int .i64 f.mx,.slice f.rq f.rs.length f.rc,.slice f.kq f.kl f.kc])) W):bodyPost Tryz.prog Tryz.f22 R .ret a W:=by
 obtain⟨z0,z1,z2,z3,z4,z5⟩:=h
 simp only [m7] at z1 z2 z3 z4 z5
 refine bodyPost_ret (v:=.agg #[.int .i64 f.k,.int .i64 f.n,.int .i64 f.mn,.int .i64 f.mx,.slice f.rq f.rs.length f.rc,.slice f.kq f.kl f.kc]) ?_ hd hR
 simp [results,Tryz.results22,go_sem,ha,z0,z1,z2,z3,z4,z5]
theorem RSays.no{base:Nat}{w:World}{e:Ending}{w':World}(h:RSays base w (Option.map te none) e w'):∃ f':Fl,e=.returned (.tuple #[.agg #[.int .i64 f'.k,.int .i64 f'.n,.int .i64 f'.mn,.int .i64 f'.mx,.slice f'.rq f'.rs.length f'.rc,.slice f'.kq f'.kl f'.kc],.bool false])/\Below w.heap.size w w':=by
 obtain⟨f',h1,h2,-⟩:=h
 exact⟨f',h1,h2⟩
theorem RSays.yes{base:Nat}{w:World}{z:Ps}{e:Ending}{w':World}(h:RSays base w (Option.map te (some z)) e w'):∃ t':Tr,e=.returned (.tuple #[.agg #[.int .i64 t'.f.k,.int .i64 t'.f.n,.int .i64 t'.f.mn,.int .i64 t'.f.mx,.slice t'.f.rq t'.f.rs.length t'.f.rc,.slice t'.f.kq t'.f.kl t'.f.kc],.bool true])/\Below w.heap.size w w'/\TA w' t'/\Foot (fun k=>base<=k) t'/\er t'=te z:=by
 obtain⟨f',h1,h2,h3⟩:=h
 obtain⟨t',q1,q2,q3,q4⟩:=h3 (te z) rfl
 subst q1
 exact⟨t',h1,h2,q2,q3,q4⟩
structure SpC(w:World)(s0 b bz rb:Nat)(fk fn fmn fmx:Int)(frs:List (Int×Int))(tks:List Tr)(f:Fl)(W:World):Prop where
 fl:∃ q1 k1 q2 k2,f=⟨fk,fn,fmn,fmx,frs,q1,k1,q2,tks.length,k2⟩
 st:SpS w s0 b bz rb f [] tks W
 cap:tks.length<=f.kc/\f.kc<=maxLen
theorem bH3{w W0 V:World}{s1 b bz rb:Nat}{fk fn fmn fmx:Int}{frs:List (Int×Int)}{tks:List Tr}{q0 fq0 q1 q2:Option Addr}{k0 fk0 k1 k2:Nat}(hw:w.heap.size<=b)(hbz:b<bz)(hz0:bz<W0.heap.size)(hs1:W0.heap.size<=s1)(hrb:rb<w.heap.size)
  (B0:Below w.heap.size w W0) (B2:Below W0.heap.size W0 V) (N2:V.heap[b]?=some (.cells #[.int .i64 fk,.int .i64 fn,.int .i64 fmn,.int .i64 fmx,.slice q0 frs.length k0,.slice fq0 tks.length fk0] 25 (0,0)))
  (R2:V.heap[bz]?=some (.cells #[.int .i64 0,.int .i64 0,.int .i64 0,.int .i64 0,.slice none 0 0,.slice none 0 0] 25 (0,0))) (L2:RL V rb) (X:RR W0.heap.size V (.slice q1 frs.length k1) frs) (Y:V.ownsRow s1 25 6 (.slice q2 tks.length k2) tks.length (aV tks)) :
  SpC w W0.heap.size b bz rb fk fn fmn fmx frs tks ⟨fk,fn,fmn,fmx,frs,q1,k1,q2,tks.length,k2⟩ ((V.setCell ⟨b,4,none⟩ (.slice q1 frs.length k1)).setCell ⟨b,5,none⟩ (.slice q2 tks.length k2)):=by
 have F:Fr (fun z=>z=b) V ((V.setCell ⟨b,4,none⟩ (.slice q1 frs.length k1)).setCell ⟨b,5,none⟩ (.slice q2 tks.length k2)):=((Fr.refl (fun z=>z=b) V).setCell (p:=⟨b,4,none⟩) rfl _).setCell (p:=⟨b,5,none⟩) rfl _
 have hY:((V.setCell ⟨b,4,none⟩ (.slice q1 frs.length k1)).setCell ⟨b,5,none⟩ (.slice q2 tks.length k2)).ownsRow s1 25 6 (.slice q2 tks.length k2) tks.length (aV tks):=aH Y F (fun k hk e=>by have:=(aF Y hk).1;omega)
 have hN:=aJ (aJ N2 4 (.slice q1 frs.length k1)) 5 (.slice q2 tks.length k2)
 refine⟨⟨q1,k1,q2,k2,rfl⟩,⟨hN,(F.block _ (aC R2) (by omega)).trans R2,X.fr F (fun k hk e=>by have:=(aF X hk).1;omega),bB (aG B0 B2 lz9) F lz9 (fun k e=>by omega),(F.block _ (aC L2) (by omega)).trans L2,?_,fun u hu=>by cases hu⟩,?_⟩
 ·rcases hY.2 with⟨e,hn0⟩ | ⟨g,cap,cur,e,hg1,hg2,hg3,hg4,hg5,hg6⟩
  ·injection e with e1 _ e3
   exact .inl ⟨aAD hn0,e1,e3⟩
  ·injection e with e1 _ e3
   subst e1 e3
   exact .inr ⟨g,rfl,by omega,by omega,KR.of_row hY,fun u hu=>by cases hu⟩
 ·rcases hY.2 with⟨e,hn0⟩ | ⟨g,cap,cur,e,hg1,hg2,hg3,hg4,hg5,hg6⟩
  ·injection e with e1 _ e3
   subst e3
   exact⟨by show tks.length<=0;omega,o9 _⟩
  ·injection e with e1 _ e3
   subst e3
   exact⟨hg3,hg4⟩
theorem rY(c f:Bool)(rb:Nat):∀ (m:Nat) (t:Tr) (x:Ps) (w:World),t.sz<=m->TB w t->er t=te x->wf x->(∀ s∈pfl x,dG c f s)->x.sz<=2000->RL w rb->Calls Tryz.prog 22 #[.agg #[.int .i64 t.f.k,.int .i64 t.f.n,.int .i64 t.f.mn,.int .i64 t.f.mx,.slice t.f.rq t.f.rs.length t.f.rc,.slice t.f.kq t.f.kl t.f.kc],.slice (some ⟨rb,0,none⟩) 7 7] w (jZ w (te (sim unC x))):=by
 intro m
 induction m with
 | zero=>intro t x w hm;exact absurd (dO t) (by omega)
 | succ m ih=>
  intro t x w hm hta he hwf hsg hsz hrl
  have IH:=aA ih
  have HM:=aA hm
  have HTA:=aA hta
  have HE:=aA he
  have HWF:=aA hwf
  have HSG:=aA hsg
  have HSZ:=aA hsz
  have hrb:=aC hrl
  have hkl:=hta.node.kl
  have htsz:t.sz<=2000:=by rw [<- mT,he,pJ];exact hsz
  have hkn:t.ks.length<=2000:=by have:=eZ t.ks;have:=dA t;omega
  have hfit:=hta.node.fit
  have hlen:=hta.node.len
  have HMK:=aA (bA5 he)
  have HKT:=aA (sX he)
  have HKM:Hid (∀ u∈t.ks,u.sz<=m):=aA fun u hu=>by have:=bW hu;omega
  obtain⟨tf,tks⟩:=t
  obtain⟨fk,fn,fmn,fmx,frs,frq,frc,fkq,fkl,fkc⟩:=tf
  have hkl':fkl=tks.length:=hkl
  subst hkl'
  change tks.length<=2000 at hkn
  change Fit frs at hfit
  change frs.length+3<=8796093022208 at hlen
  change Hid (Er.mk fk fn fmn fmx frs (x.kids.map fun y=>te (sim unC y))=te (gL unC x)) at HMK
  change Hid (tks.map er=x.kids.map te) at HKT
  change Hid (∀ u∈tks,u.sz<=m) at HKM
  show Calls Tryz.prog 22 #[.agg #[.int .i64 fk,.int .i64 fn,.int .i64 fmn,.int .i64 fmx,.slice frq frs.length frc,.slice fkq tks.length fkc],.slice (some ⟨rb,0,none⟩) 7 7] w (jZ w (te (sim unC x)))
  obtain⟨FIN,hfin⟩:∃ y,sim unC x=y:=⟨_,rfl⟩
  rw [hfin]
  have HFIN:=aA (show nf unC (gL unC x)=FIN by rw [<- hfin,bH8])
  have B0:Hid (Below w.heap.size w ((w.alloc (.cells #[.int .i64 fk,.int .i64 fn,.int .i64 fmn,.int .i64 fmx,.slice frq frs.length frc,.slice fkq tks.length fkc] 25)).alloc (.cells #[.int .i64 0,.int .i64 0,.int .i64 0,.int .i64 0,.slice none 0 0,.slice none 0 0] 25))):=(bz9).alloc (by simp) _
  have N0:Hid (BoxN ((w.alloc (.cells #[.int .i64 fk,.int .i64 fn,.int .i64 fmn,.int .i64 fmx,.slice frq frs.length frc,.slice fkq tks.length fkc] 25)).alloc (.cells #[.int .i64 0,.int .i64 0,.int .i64 0,.int .i64 0,.slice none 0 0,.slice none 0 0] 25)) w.heap.size ⟨fk,fn,fmn,fmx,frs,frq,frc,fkq,tks.length,fkc⟩):=(Below.heap_alloc _ _ _ (by simp)).trans (aD w _)
  have R0:Hid (((w.alloc (.cells #[.int .i64 fk,.int .i64 fn,.int .i64 fmn,.int .i64 fmx,.slice frq frs.length frc,.slice fkq tks.length fkc] 25)).alloc (.cells #[.int .i64 0,.int .i64 0,.int .i64 0,.int .i64 0,.slice none 0 0,.slice none 0 0] 25)).heap[w.heap.size+1]?=some (.cells #[.int .i64 0,.int .i64 0,.int .i64 0,.int .i64 0,.slice none 0 0,.slice none 0 0] 25 (0,0))):=(by
   have:=aD (w.alloc (.cells #[.int .i64 fk,.int .i64 fn,.int .i64 fmn,.int .i64 fmx,.slice frq frs.length frc,.slice fkq tks.length fkc] 25)) (.cells #[.int .i64 0,.int .i64 0,.int .i64 0,.int .i64 0,.slice none 0 0,.slice none 0 0] 25)
   rwa [v9] at this)
  have L0:Hid (RL ((w.alloc (.cells #[.int .i64 fk,.int .i64 fn,.int .i64 fmn,.int .i64 fmx,.slice frq frs.length frc,.slice fkq tks.length fkc] 25)).alloc (.cells #[.int .i64 0,.int .i64 0,.int .i64 0,.int .i64 0,.slice none 0 0,.slice none 0 0] 25)) rb):=(B0.out.block _ hrb).trans hrl
  clear ih hm hta hkl he hwf hsg hsz hrl hfin htsz
  go_enter Tryz.func22,Tryz.ntmps22
  go_upto_region 1 with fail
  generalize ((w.alloc (.cells #[.int .i64 fk,.int .i64 fn,.int .i64 fmn,.int .i64 fmx,.slice frq frs.length frc,.slice fkq tks.length fkc] 25)).alloc (.cells #[.int .i64 0,.int .i64 0,.int .i64 0,.int .i64 0,.slice none 0 0,.slice none 0 0] 25))=W0 at B0 N0 R0 L0 ⊢
  obtain⟨bz,hbz⟩:∃ bz,w.heap.size+1=bz:=⟨_,rfl⟩
  rw [hbz] at R0 ⊢
  have LZ:=aC R0.out
  have LB:=aC N0.out
  go_step3
  go_upto_region 1 with fail
  go_cut [18] (fun _ wx=>∃ f',SpC w W0.heap.size w.heap.size bz rb fk fn fmn fmx frs tks f' wx)
  case first=>
   obtain⟨c0,c1,c2,c3,c4,c5⟩:=N0.out.six
   simp only [m7] at c1 c2 c3 c4 c5
   have A0:=aA (HTA.out.kept B0.out)
   have CR:Hid (∀ V,Below W0.heap.size W0 V->Calls Tryz.prog 40 #[.slice frq frs.length frc] V fun e w'=>∃ q' k',e=.returned (.slice q' frs.length k')/\RR V.heap.size w' (.slice q' frs.length k') frs/\Below V.heap.size V w'):=aA fun V hV=>vS (A0.out.kept hV).node.r hlen
   have CN:Hid (∀ V,Below W0.heap.size W0 V->Calls Tryz.prog 41 #[.slice fkq tks.length fkc] V fun e w'=>∃ q' k',e=.returned (.slice q' tks.length k')/\w'.ownsRow V.heap.size 25 6 (.slice q' tks.length k') tks.length (aV tks)/\Below V.heap.size V w'):=aA fun V hV=>vT (ks:=tks) (A0.out.kept hV).node.k (by omega)
   first | go_region_with (first |(go_at_call 41;(with_reducible refine(CN.out _ B1.out).mono ?_);rintro e w2 ⟨q2,k2,rfl,h21,h22⟩;have Y2:=aA h21;have B2:=aA (aG B1.out h22 lz9);have Y1:=aA (X1.out.kept h22);have N2:w2.heap[w.heap.size]?=some (.cells #[.int .i64 fk,.int .i64 fn,.int .i64 fmn,.int .i64 fmx,.slice frq frs.length frc,.slice fkq tks.length fkc] 25 (0,0)):=(h22.block _ (o8 LB B1.out.size)).trans ((B1.out.block _ LB).trans N0.out);have g4:=aB N2 (i:=4) rfl;have g5:=aB N2 (i:=5) rfl;have fz:=fun z=>aK N2 z;clear h21 h22) |(go_at_call 40;(with_reducible refine(CR.out _ (Below.refl W0.heap.size W0).drew).mono ?_);rintro e w1 ⟨q1,k1,rfl,h11,h12⟩;have X1:Hid (RR W0.heap.size w1 (.slice q1 frs.length k1) frs):=aA h11;have B1:Hid (Below W0.heap.size W0 w1):=aA ((Below.refl W0.heap.size W0).drew.trans h12);have N1:w1.heap[w.heap.size]?=some (.cells #[.int .i64 fk,.int .i64 fn,.int .i64 fmn,.int .i64 fmx,.slice frq frs.length frc,.slice fkq tks.length fkc] 25 (0,0)):=(B1.out.block _ LB).trans N0.out;have f4:=aB N1 (i:=4) rfl;have f5:=aB N1 (i:=5) rfl;clear h11 h12)) | fail
   all_goals have S2:=aA (bH3 lz9 (by omega) LZ B1.out.size hrb B0.out B2.out N2 ((B2.out.block _ LZ).trans R0.out) ((B2.out.block _ (aC L0.out)).trans L0.out) Y1.out Y2.out)
   all_goals go_wp2
   all_goals go_meet
   all_goals exact⟨_,S2.out⟩
  case rest=>
  obtain⟨f',hC⟩:=hcut
  have HC:=aA hC
  clear hC N0 R0 L0
  obtain⟨q1,k1,q2,k2,rfl⟩:=HC.out.fl
  have c5:wc.cell? ⟨w.heap.size,5,none⟩=some (.slice q2 tks.length k2):=aB HC.out.st.box (i:=5) rfl
  go_upto_block 0 with fail
  go_cut [22] from 22 to 34 (fun _ wx=>∃ t',SI w w.heap.size bz rb c f FIN (gL unC x) t' wx)
  case first=>
   have HCP:=aA HC.out.cap
   have HST:=aA HC.out.st
   clear HC
   go_wp2
   go_loopw [22] (fun i wr=>∃ (j:Nat) (nk:List Tr),j<=tks.length/\i=.int .i64 (j:Int)/\nk.length=j/\nk.map er=(x.kids.take j).map (fun y=>te (sim unC y))/\SpS w W0.heap.size w.heap.size bz rb ⟨fk,fn,fmn,fmx,frs,q1,k1,q2,tks.length,k2⟩ nk (tks.drop j) wr) (fun i _=>tks.length-(intOf i).toNat)
   case atStart=>exact⟨0,[],o9 _,rfl,rfl,rfl,HST.out⟩
   case round=>
    clear HST c5
    obtain⟨j,nk,hj,rfl,hnk,hmap,hcs⟩:=hrel
    have HS:=aA hcs
    have HMP:=aA hmap
    have HNK:=aA hnk
    clear hcs hmap hnk
    by_cases hjl:j<tks.length
    ·have i0:(j:Int)<(tks.length:Int):=by omega
     obtain⟨u,hu⟩:∃ u,tks[j]?=some u:=⟨_,g9 hjl⟩
     have hdr:tks.drop j=u :: tks.drop (j+1):=by
      rw [aBO hjl]
      congr 1
      rw [g9 hjl] at hu
      injection hu
     obtain⟨g,hq,hbg,hzg,hkr,-⟩:=HS.out.at (by rw [hdr];simp)
     change q2=some ⟨g,0,none⟩ at hq
     subst hq
     have hsx:=hkr.six j u (by rw [hdr,aAA (by have:=HNK.out;omega),HNK.out,aBF];rfl)
     have hin:u∈tks:=n8 hu
     have hug:=hkr.lt
     have hxl:tks.length=x.kids.length:=by have:=congrArg List.length HKT.out;simpa using this
     obtain⟨y,hy⟩:∃ y,x.kids[j]?=some y:=⟨_,g9 (by omega)⟩
     have hyin:y∈x.kids:=n8 hy
     have huy:er u=te y:=by
      have h1:(tks.map er)[j]?=some (er u):=by simp [hu]
      rw [HKT.out] at h1
      simp [hy] at h1
      exact h1.symm
     clear hxl
     obtain⟨d0,d1,d2,d3,d4,d5⟩:=hsx
     have K4:Below wr.heap.size wr (wr.alloc (.cells #[.int .i64 u.f.k,.int .i64 u.f.n,.int .i64 u.f.mn,.int .i64 u.f.mx,.slice u.f.rq u.f.rs.length u.f.rc,.slice u.f.kq u.f.kl u.f.kc] 25)):=bz9
     have S4:=aA (HS.out.kept K4)
     have N4:Hid (BoxN (wr.alloc (.cells #[.int .i64 u.f.k,.int .i64 u.f.n,.int .i64 u.f.mn,.int .i64 u.f.mx,.slice u.f.rq u.f.rs.length u.f.rc,.slice u.f.kq u.f.kl u.f.kc] 25)) wr.heap.size u.f):=aD wr _
     have HY:=aA hy
     have HDR:=aA hdr
     have T4:=aA ((HTA.out.kid (u:=u) hin).kept (aG HS.out.bel K4 lz9))
     have L4:g<(wr.alloc (.cells #[.int .i64 u.f.k,.int .i64 u.f.n,.int .i64 u.f.mn,.int .i64 u.f.mx,.slice u.f.rq u.f.rs.length u.f.rc,.slice u.f.kq u.f.kl u.f.kc] 25)).heap.size:=o8 hug K4.size
     have I4:Hid (∀ V,TB V u->RL V rb->Calls Tryz.prog 22 #[.agg #[.int .i64 u.f.k,.int .i64 u.f.n,.int .i64 u.f.mn,.int .i64 u.f.mx,.slice u.f.rq u.f.rs.length u.f.rc,.slice u.f.kq u.f.kl u.f.kc],.slice (some ⟨rb,0,none⟩) 7 7] V (jZ V (te (sim unC y)))):=aA fun V hV hR=>IH.out u y V (HKM.out u hin) hV huy (eJ HWF.out hyin) (fun s hs=>HSG.out s (oQ hyin hs)) (by have:=zD hyin;have:=HSZ.out;omega) hR
     clear hu hdr K4 hy hkr
     go_upto_region 5 with fail
     generalize (wr.alloc (.cells #[.int .i64 u.f.k,.int .i64 u.f.n,.int .i64 u.f.mn,.int .i64 u.f.mx,.slice u.f.rq u.f.rs.length u.f.rc,.slice u.f.kq u.f.kl u.f.kc] 25))=W4 at S4 N4 T4 L4 ⊢
     obtain⟨n0,n1,n2,n3,n4,n5⟩:=N4.out.six
     simp only [m7] at n1 n2 n3 n4 n5
     have b5:W4.cell? ⟨w.heap.size,5,none⟩=some (.slice (some ⟨g,0,none⟩) tks.length k2):=S4.out.box.six.2.2.2.2.2
     have IHU:Hid (Calls Tryz.prog 22 #[.agg #[.int .i64 u.f.k,.int .i64 u.f.n,.int .i64 u.f.mn,.int .i64 u.f.mx,.slice u.f.rq u.f.rs.length u.f.rc,.slice u.f.kq u.f.kl u.f.kc],.slice (some ⟨rb,0,none⟩) 7 7] W4.drew fun e w5=>∃ t5:Tr,e=.returned (.agg #[.int .i64 t5.f.k,.int .i64 t5.f.n,.int .i64 t5.f.mn,.int .i64 t5.f.mx,.slice t5.f.rq t5.f.rs.length t5.f.rc,.slice t5.f.kq t5.f.kl t5.f.kc])/\SpS w W0.heap.size w.heap.size bz rb ⟨fk,fn,fmn,fmx,frs,q1,k1,some ⟨g,0,none⟩,tks.length,k2⟩ nk (tks.drop j) w5/\Six w5 g (j*6) u.f/\SpS w W0.heap.size w.heap.size bz rb ⟨fk,fn,fmn,fmx,frs,q1,k1,some ⟨g,0,none⟩,tks.length,k2⟩ (nk++[t5]) (tks.drop j).tail (cD w5 g (j*6) t5.f)/\er t5=te (sim unC y)/\KR w5 g (nk++tks.drop j)):=aA ((I4.out W4.drew (T4.out.kept (Below.refl _ _).drew) S4.out.rul).mono fun e w5 ⟨t5,h50,h51,h52,h53,h54⟩=>(by
      have S5:=(S4.out.kept (Below.refl _ _).drew).kept h54
      obtain⟨g',e',-,-,hkr,-⟩:=S5.at (by rw [HDR.out];simp)
      cases e'
      refine⟨t5,h50,S5,hkr.six j u (by rw [HDR.out,aAA (by have:=HNK.out;omega),HNK.out,aBF];rfl),S5.next (t:=t5) rfl HNK.out (by rw [HDR.out];simp) hrb lz9 h51 (h52.mono (fun k hk=>o8 L4 hk)),h53,hkr⟩))
     clear I4
     go_region_with (go_at_call 22;(with_reducible refine(IHU.out).mono ?_);rintro e w5 ⟨t5,rfl,h51,h52,h53,h54,h55⟩;obtain⟨y0,y1,y2,y3,y4,y5⟩:=h52;have S5:=aA h51;have fz:=fun z=>h55.frz z;have bb5:w5.cell? ⟨w.heap.size,5,none⟩=some (.slice (some ⟨g,0,none⟩) tks.length k2):=S5.out.box.six.2.2.2.2.2;have S6:=aA h53;have E6:=aA h54;clear h51 h53 h54 h55)
     all_goals have HMN:=aA (show (nk++[t5]).map er=(x.kids.take (j+1)).map (fun y=>te (sim unC y)) by rw [s7,HY.out,aAK,aAK,HMP.out];simp [E6.out])
     all_goals have S7:=S6.out
     all_goals rw [List.tail_drop] at S7
     all_goals unfold cD at S7
     all_goals have S8:=aA S7
     all_goals clear S7
     all_goals go_wp2_with fail
     all_goals go_roundw
     all_goals first | exact⟨j+1,nk++[t5],by omega,by go_num,by rw [o5,HNK.out];rfl,HMN.out,S8.out⟩ |(simp [intOf];omega) |(simp only [intOf];omega)
    ·have i0:¬ (j:Int)<(tks.length:Int):=by omega
     have hxl:tks.length=x.kids.length:=by have:=congrArg List.length HKT.out;simpa using this
     have S9:=HS.out
     rw [List.drop_eq_nil_of_le (by omega)] at S9
     have hmp:=HMP.out
     rw [o4 (by omega)] at hmp
     have hnl:=HNK.out
     have T9:=S9.tree LZ (by show tks.length=_;omega) (by have:=HCP.out.1;show nk.length<=k2;change tks.length<=k2 at this;omega) HCP.out.2 hfit hlen
     have HSI:Hid (SI w w.heap.size bz rb c f FIN (gL unC x) (.mk ⟨fk,fn,fmn,fmx,frs,q1,k1,q2,tks.length,k2⟩ nk) wr):=aA ⟨S9.box,S9.res,S9.bel,S9.rul,T9.1,T9.2,⟨by rw [bY];show Er.mk fk fn fmn fmx frs (nk.map er)=_;rw [hmp];exact HMK.out,Nd.ofk unC HWF.out,bA7 HSG.out,o0 (bA6 x) HSZ.out⟩,HFIN.out⟩
     clear S9 T9 hmp hnl HS hxl
     go_wp2
     go_meet
     exact⟨_,HSI.out⟩
  case rest=>
  obtain⟨t1,hSI⟩:=hcut
  have H1:=aA hSI
  clear hSI HC c5 HMK HKT HKM HFIN HTA HE HWF HSG HSZ HM IH B0 LZ LB hkn hfit hlen
  go_wp2
  go_step3
  go_wp2
  go_loopg [35] 2000 (fun k _ wr=>∃ z t,z.sz<=k/\SI w w.heap.size bz rb c f FIN z t wr)
  case atStart=>exact⟨_,t1,H1.out.ns.sz,H1.out⟩
  case round=>
   obtain⟨z,t,hzk,hsi⟩:=hrel
   have HS0:=aA hsi
   clear hsi H1
   go_wp2
   go_loopg [37] 7 (fun k i wr=>∃ j:Nat,j+k=7/\i=.int .i64 (j:Int)/\(∀ i,i<j->rl i z=none)/\SI w w.heap.size bz rb c f FIN z t wr)
   case atStart=>exact⟨0,rfl,rfl,fun i hi=>absurd hi (Nat.not_lt_zero _),HS0.out⟩
   case round=>
    obtain⟨j,hjk,rfl,hno,hsi⟩:=hrel
    have HSI:=aA hsi
    have HNO:=aA hno
    clear hsi hno HS0
    have hj:j=0\/j=1\/j=2\/j=3\/j=4\/j=5\/j=6\/j=7:=by omega
    rcases hj with hj0 | hj1 | hj2 | hj3 | hj4 | hj5 | hj6 | hj7
    ·subst hj0
     have l0:wr.cell? ⟨rb,0,none⟩=some (.int .i64 9):=aB HSI.out.rul (i:=0) rfl
     have l1:wr.cell? ⟨rb,1,none⟩=some (.func (.func 42) #[] #[]):=aB HSI.out.rul (i:=1) rfl
     have K1:Below wr.heap.size wr (wr.alloc (.cells #[.int .i64 9,.func (.func 42) #[] #[]] 91)):=bz9
     have S1:=aA (HSI.out.kept K1)
     have M1:=aA (aD wr (.cells #[.int .i64 9,.func (.func 42) #[] #[]] 91))
     have SC:Hid (∀ V,Below wr.heap.size wr V->z.kd=9->Calls Tryz.prog 42 #[.agg #[.int .i64 t.f.k,.int .i64 t.f.n,.int .i64 t.f.mn,.int .i64 t.f.mx,.slice t.f.rq t.f.rs.length t.f.rc,.slice t.f.kq t.f.kl t.f.kc]] V (RSays (bz+1) V ((rl 0 z).map te))):=aA fun V hV hk=>aL3 HSI.out.ns (HSI.out.kept hV).ta HSI.out.ft hk
     go_upto_region 10 with fail
     generalize (wr.alloc (.cells #[.int .i64 9,.func (.func 42) #[] #[]] 91))=V1 at K1 S1 M1 ⊢
     clear l0 l1
     obtain⟨c0,c1,c2,c3,c4,c5⟩:=S1.out.box.six
     simp only [m7] at c1 c2 c3 c4 c5
     have m0:=aB M1.out (i:=0) rfl
     have m1:=aB M1.out (i:=1) rfl
     by_cases hk:z.kd=9
     ·have e45:((9:Int) != t.f.k)=false:=by rw [<- dR,HSI.out.ns.er,dS,hk];rfl
      have SC1:=SC.out V1 K1 hk
      clear SC hk
      cases ho:rl 0 z with
      | none=>
       rw [ho] at SC1
       have SD:=aA (SC1.mono fun e w' q=>q.no)
       have HNX:=aA (show ∀ i,i<0+1->rl i z=none from fun i hi=>if hij:i<0 then HNO.out i hij else by have:i=0:=(by omega);subst this;exact ho)
       clear SC1 ho
       go_wp2_with (go_at_call 42;(with_reducible refine SD.out.mono ?_);rintro e w7 ⟨f7,rfl,h72⟩;have S7:=aA ((S1.out.kept h72).kept ((Below.refl _ _).alloc lz9 (.cells #[.int .i64 f7.k,.int .i64 f7.n,.int .i64 f7.mn,.int .i64 f7.mx,.slice f7.rq f7.rs.length f7.rc,.slice f7.kq f7.kl f7.kc] 25)));clear h72)
       go_roundg 6
       case measure=>omega
       case rel=>exact⟨1,rfl,rfl,HNX.out,S7.out⟩
      | some z'=>
       rw [ho] at SC1
       have SD:=aA (SC1.mono fun e w' q=>q.yes)
       have HOO:=aA ho
       clear SC1 ho
       go_upto_region 13 with (go_at_call 42;(with_reducible refine SD.out.mono ?_);rintro e w7 ⟨t7,rfl,h72,h73,h74,h75⟩;have B7:=aA h72;have T7:=aA h73;have F7:=aA h74;have E7:=aA h75;clear h72 h73 h74 h75)
       have K8:Below w7.heap.size w7 (w7.alloc (.cells #[.int .i64 t7.f.k,.int .i64 t7.f.n,.int .i64 t7.f.mn,.int .i64 t7.f.mx,.slice t7.f.rq t7.f.rs.length t7.f.rc,.slice t7.f.kq t7.f.kl t7.f.kc] 25)):=bz9
       have S8:=aA ((S1.out.kept B7.out).kept K8)
       have N8:Hid (BoxN (w7.alloc (.cells #[.int .i64 t7.f.k,.int .i64 t7.f.n,.int .i64 t7.f.mn,.int .i64 t7.f.mx,.slice t7.f.rq t7.f.rs.length t7.f.rc,.slice t7.f.kq t7.f.kl t7.f.kc] 25)) w7.heap.size t7.f):=aA (aD w7 _)
       have T8:=aA (T7.out.kept K8)
       clear c0 c1 c2 c3 c4 c5 m0 m1
       generalize (w7.alloc (.cells #[.int .i64 t7.f.k,.int .i64 t7.f.n,.int .i64 t7.f.mn,.int .i64 t7.f.mx,.slice t7.f.rq t7.f.rs.length t7.f.rc,.slice t7.f.kq t7.f.kl t7.f.kc] 25))=w8 at K8 S8 N8 T8 ⊢
       obtain⟨c0,c1,c2,c3,c4,c5⟩:=S8.out.box.six
       simp only [m7] at c1 c2 c3 c4 c5
       obtain⟨n0,n1,n2,n3,n4,n5⟩:=N8.out.six
       simp only [m7] at n1 n2 n3 n4 n5
       have fz:=fun z=>aK S8.out.box z
       obtain⟨h91,h92⟩:=S8.out.step HNO.out HOO.out T8.out F7.out E7.out (by omega) hrb lz9
       unfold cD at h91
       have S9:=aA h91
       clear h91
       go_wp2
       go_roundg z'.sz
       case measure=>omega
       case rel=>exact⟨z',t7,t8 _,S9.out⟩
     ·have e45:((9:Int) != t.f.k)=true:=by rw [<- dR,HSI.out.ns.er,dS];simpa using (fun q=>hk q.symm)
      have HNX:=aA (show ∀ i,i<0+1->rl i z=none from fun i hi=>if hij:i<0 then HNO.out i hij else by have:i=0:=(by omega);subst this;exact iO (by unfold rk;simpa using hk))
      clear SC hk
      go_wp2
      go_roundg 6
      case measure=>omega
      case rel=>exact⟨1,rfl,rfl,HNX.out,S1.out⟩
    ·subst hj1
     have l0:wr.cell? ⟨rb,2,none⟩=some (.int .i64 9):=aB HSI.out.rul (i:=2) rfl
     have l1:wr.cell? ⟨rb,3,none⟩=some (.func (.func 43) #[] #[]):=aB HSI.out.rul (i:=3) rfl
     have K1:Below wr.heap.size wr (wr.alloc (.cells #[.int .i64 9,.func (.func 43) #[] #[]] 91)):=bz9
     have S1:=aA (HSI.out.kept K1)
     have M1:=aA (aD wr (.cells #[.int .i64 9,.func (.func 43) #[] #[]] 91))
     have SC:Hid (∀ V,Below wr.heap.size wr V->z.kd=9->Calls Tryz.prog 43 #[.agg #[.int .i64 t.f.k,.int .i64 t.f.n,.int .i64 t.f.mn,.int .i64 t.f.mx,.slice t.f.rq t.f.rs.length t.f.rc,.slice t.f.kq t.f.kl t.f.kc]] V (RSays (bz+1) V ((rl 1 z).map te))):=aA fun V hV hk=>aC2 HSI.out.ns (HSI.out.kept hV).ta HSI.out.ft hk
     go_upto_region 10 with fail
     generalize (wr.alloc (.cells #[.int .i64 9,.func (.func 43) #[] #[]] 91))=V1 at K1 S1 M1 ⊢
     clear l0 l1
     obtain⟨c0,c1,c2,c3,c4,c5⟩:=S1.out.box.six
     simp only [m7] at c1 c2 c3 c4 c5
     have m0:=aB M1.out (i:=0) rfl
     have m1:=aB M1.out (i:=1) rfl
     by_cases hk:z.kd=9
     ·have e45:((9:Int) != t.f.k)=false:=by rw [<- dR,HSI.out.ns.er,dS,hk];rfl
      have SC1:=SC.out V1 K1 hk
      clear SC hk
      cases ho:rl 1 z with
      | none=>
       rw [ho] at SC1
       have SD:=aA (SC1.mono fun e w' q=>q.no)
       have HNX:=aA (show ∀ i,i<1+1->rl i z=none from fun i hi=>if hij:i<1 then HNO.out i hij else by have:i=1:=(by omega);subst this;exact ho)
       clear SC1 ho
       go_wp2_with (go_at_call 43;(with_reducible refine SD.out.mono ?_);rintro e w7 ⟨f7,rfl,h72⟩;have S7:=aA ((S1.out.kept h72).kept ((Below.refl _ _).alloc lz9 (.cells #[.int .i64 f7.k,.int .i64 f7.n,.int .i64 f7.mn,.int .i64 f7.mx,.slice f7.rq f7.rs.length f7.rc,.slice f7.kq f7.kl f7.kc] 25)));clear h72)
       go_roundg 5
       case measure=>omega
       case rel=>exact⟨2,rfl,rfl,HNX.out,S7.out⟩
      | some z'=>
       rw [ho] at SC1
       have SD:=aA (SC1.mono fun e w' q=>q.yes)
       have HOO:=aA ho
       clear SC1 ho
       go_upto_region 13 with (go_at_call 43;(with_reducible refine SD.out.mono ?_);rintro e w7 ⟨t7,rfl,h72,h73,h74,h75⟩;have B7:=aA h72;have T7:=aA h73;have F7:=aA h74;have E7:=aA h75;clear h72 h73 h74 h75)
       have K8:Below w7.heap.size w7 (w7.alloc (.cells #[.int .i64 t7.f.k,.int .i64 t7.f.n,.int .i64 t7.f.mn,.int .i64 t7.f.mx,.slice t7.f.rq t7.f.rs.length t7.f.rc,.slice t7.f.kq t7.f.kl t7.f.kc] 25)):=bz9
       have S8:=aA ((S1.out.kept B7.out).kept K8)
       have N8:Hid (BoxN (w7.alloc (.cells #[.int .i64 t7.f.k,.int .i64 t7.f.n,.int .i64 t7.f.mn,.int .i64 t7.f.mx,.slice t7.f.rq t7.f.rs.length t7.f.rc,.slice t7.f.kq t7.f.kl t7.f.kc] 25)) w7.heap.size t7.f):=aA (aD w7 _)
       have T8:=aA (T7.out.kept K8)
       clear c0 c1 c2 c3 c4 c5 m0 m1
       generalize (w7.alloc (.cells #[.int .i64 t7.f.k,.int .i64 t7.f.n,.int .i64 t7.f.mn,.int .i64 t7.f.mx,.slice t7.f.rq t7.f.rs.length t7.f.rc,.slice t7.f.kq t7.f.kl t7.f.kc] 25))=w8 at K8 S8 N8 T8 ⊢
       obtain⟨c0,c1,c2,c3,c4,c5⟩:=S8.out.box.six
       simp only [m7] at c1 c2 c3 c4 c5
       obtain⟨n0,n1,n2,n3,n4,n5⟩:=N8.out.six
       simp only [m7] at n1 n2 n3 n4 n5
       have fz:=fun z=>aK S8.out.box z
       obtain⟨h91,h92⟩:=S8.out.step HNO.out HOO.out T8.out F7.out E7.out (by omega) hrb lz9
       unfold cD at h91
       have S9:=aA h91
       clear h91
       go_wp2
       go_roundg z'.sz
       case measure=>omega
       case rel=>exact⟨z',t7,t8 _,S9.out⟩
     ·have e45:((9:Int) != t.f.k)=true:=by rw [<- dR,HSI.out.ns.er,dS];simpa using (fun q=>hk q.symm)
      have HNX:=aA (show ∀ i,i<1+1->rl i z=none from fun i hi=>if hij:i<1 then HNO.out i hij else by have:i=1:=(by omega);subst this;exact iO (by unfold rk;simpa using hk))
      clear SC hk
      go_wp2
      go_roundg 5
      case measure=>omega
      case rel=>exact⟨2,rfl,rfl,HNX.out,S1.out⟩
    ·subst hj2
     have l0:wr.cell? ⟨rb,4,none⟩=some (.int .i64 9):=aB HSI.out.rul (i:=4) rfl
     have l1:wr.cell? ⟨rb,5,none⟩=some (.func (.func 44) #[] #[]):=aB HSI.out.rul (i:=5) rfl
     have K1:Below wr.heap.size wr (wr.alloc (.cells #[.int .i64 9,.func (.func 44) #[] #[]] 91)):=bz9
     have S1:=aA (HSI.out.kept K1)
     have M1:=aA (aD wr (.cells #[.int .i64 9,.func (.func 44) #[] #[]] 91))
     have SC:Hid (∀ V,Below wr.heap.size wr V->z.kd=9->Calls Tryz.prog 44 #[.agg #[.int .i64 t.f.k,.int .i64 t.f.n,.int .i64 t.f.mn,.int .i64 t.f.mx,.slice t.f.rq t.f.rs.length t.f.rc,.slice t.f.kq t.f.kl t.f.kc]] V (RSays (bz+1) V ((rl 2 z).map te))):=aA fun V hV hk=>aX5 HSI.out.ns (HSI.out.kept hV).ta hk
     go_upto_region 10 with fail
     generalize (wr.alloc (.cells #[.int .i64 9,.func (.func 44) #[] #[]] 91))=V1 at K1 S1 M1 ⊢
     clear l0 l1
     obtain⟨c0,c1,c2,c3,c4,c5⟩:=S1.out.box.six
     simp only [m7] at c1 c2 c3 c4 c5
     have m0:=aB M1.out (i:=0) rfl
     have m1:=aB M1.out (i:=1) rfl
     by_cases hk:z.kd=9
     ·have e45:((9:Int) != t.f.k)=false:=by rw [<- dR,HSI.out.ns.er,dS,hk];rfl
      have SC1:=SC.out V1 K1 hk
      clear SC hk
      cases ho:rl 2 z with
      | none=>
       rw [ho] at SC1
       have SD:=aA (SC1.mono fun e w' q=>q.no)
       have HNX:=aA (show ∀ i,i<2+1->rl i z=none from fun i hi=>if hij:i<2 then HNO.out i hij else by have:i=2:=(by omega);subst this;exact ho)
       clear SC1 ho
       go_wp2_with (go_at_call 44;(with_reducible refine SD.out.mono ?_);rintro e w7 ⟨f7,rfl,h72⟩;have S7:=aA ((S1.out.kept h72).kept ((Below.refl _ _).alloc lz9 (.cells #[.int .i64 f7.k,.int .i64 f7.n,.int .i64 f7.mn,.int .i64 f7.mx,.slice f7.rq f7.rs.length f7.rc,.slice f7.kq f7.kl f7.kc] 25)));clear h72)
       go_roundg 4
       case measure=>omega
       case rel=>exact⟨3,rfl,rfl,HNX.out,S7.out⟩
      | some z'=>
       rw [ho] at SC1
       have SD:=aA (SC1.mono fun e w' q=>q.yes)
       have HOO:=aA ho
       clear SC1 ho
       go_upto_region 13 with (go_at_call 44;(with_reducible refine SD.out.mono ?_);rintro e w7 ⟨t7,rfl,h72,h73,h74,h75⟩;have B7:=aA h72;have T7:=aA h73;have F7:=aA h74;have E7:=aA h75;clear h72 h73 h74 h75)
       have K8:Below w7.heap.size w7 (w7.alloc (.cells #[.int .i64 t7.f.k,.int .i64 t7.f.n,.int .i64 t7.f.mn,.int .i64 t7.f.mx,.slice t7.f.rq t7.f.rs.length t7.f.rc,.slice t7.f.kq t7.f.kl t7.f.kc] 25)):=bz9
       have S8:=aA ((S1.out.kept B7.out).kept K8)
       have N8:Hid (BoxN (w7.alloc (.cells #[.int .i64 t7.f.k,.int .i64 t7.f.n,.int .i64 t7.f.mn,.int .i64 t7.f.mx,.slice t7.f.rq t7.f.rs.length t7.f.rc,.slice t7.f.kq t7.f.kl t7.f.kc] 25)) w7.heap.size t7.f):=aA (aD w7 _)
       have T8:=aA (T7.out.kept K8)
       clear c0 c1 c2 c3 c4 c5 m0 m1
       generalize (w7.alloc (.cells #[.int .i64 t7.f.k,.int .i64 t7.f.n,.int .i64 t7.f.mn,.int .i64 t7.f.mx,.slice t7.f.rq t7.f.rs.length t7.f.rc,.slice t7.f.kq t7.f.kl t7.f.kc] 25))=w8 at K8 S8 N8 T8 ⊢
       obtain⟨c0,c1,c2,c3,c4,c5⟩:=S8.out.box.six
       simp only [m7] at c1 c2 c3 c4 c5
       obtain⟨n0,n1,n2,n3,n4,n5⟩:=N8.out.six
       simp only [m7] at n1 n2 n3 n4 n5
       have fz:=fun z=>aK S8.out.box z
       obtain⟨h91,h92⟩:=S8.out.step HNO.out HOO.out T8.out F7.out E7.out (by omega) hrb lz9
       unfold cD at h91
       have S9:=aA h91
       clear h91
       go_wp2
       go_roundg z'.sz
       case measure=>omega
       case rel=>exact⟨z',t7,t8 _,S9.out⟩
     ·have e45:((9:Int) != t.f.k)=true:=by rw [<- dR,HSI.out.ns.er,dS];simpa using (fun q=>hk q.symm)
      have HNX:=aA (show ∀ i,i<2+1->rl i z=none from fun i hi=>if hij:i<2 then HNO.out i hij else by have:i=2:=(by omega);subst this;exact iO (by unfold rk;simpa using hk))
      clear SC hk
      go_wp2
      go_roundg 4
      case measure=>omega
      case rel=>exact⟨3,rfl,rfl,HNX.out,S1.out⟩
    ·subst hj3
     have l0:wr.cell? ⟨rb,6,none⟩=some (.int .i64 9):=aB HSI.out.rul (i:=6) rfl
     have l1:wr.cell? ⟨rb,7,none⟩=some (.func (.func 45) #[] #[]):=aB HSI.out.rul (i:=7) rfl
     have K1:Below wr.heap.size wr (wr.alloc (.cells #[.int .i64 9,.func (.func 45) #[] #[]] 91)):=bz9
     have S1:=aA (HSI.out.kept K1)
     have M1:=aA (aD wr (.cells #[.int .i64 9,.func (.func 45) #[] #[]] 91))
     have SC:Hid (∀ V,Below wr.heap.size wr V->z.kd=9->Calls Tryz.prog 45 #[.agg #[.int .i64 t.f.k,.int .i64 t.f.n,.int .i64 t.f.mn,.int .i64 t.f.mx,.slice t.f.rq t.f.rs.length t.f.rc,.slice t.f.kq t.f.kl t.f.kc]] V (RSays (bz+1) V ((rl 3 z).map te))):=aA fun V hV hk=>sE HSI.out.ns (HSI.out.kept hV).ta hk
     go_upto_region 10 with fail
     generalize (wr.alloc (.cells #[.int .i64 9,.func (.func 45) #[] #[]] 91))=V1 at K1 S1 M1 ⊢
     clear l0 l1
     obtain⟨c0,c1,c2,c3,c4,c5⟩:=S1.out.box.six
     simp only [m7] at c1 c2 c3 c4 c5
     have m0:=aB M1.out (i:=0) rfl
     have m1:=aB M1.out (i:=1) rfl
     by_cases hk:z.kd=9
     ·have e45:((9:Int) != t.f.k)=false:=by rw [<- dR,HSI.out.ns.er,dS,hk];rfl
      have SC1:=SC.out V1 K1 hk
      clear SC hk
      cases ho:rl 3 z with
      | none=>
       rw [ho] at SC1
       have SD:=aA (SC1.mono fun e w' q=>q.no)
       have HNX:=aA (show ∀ i,i<3+1->rl i z=none from fun i hi=>if hij:i<3 then HNO.out i hij else by have:i=3:=(by omega);subst this;exact ho)
       clear SC1 ho
       go_wp2_with (go_at_call 45;(with_reducible refine SD.out.mono ?_);rintro e w7 ⟨f7,rfl,h72⟩;have S7:=aA ((S1.out.kept h72).kept ((Below.refl _ _).alloc lz9 (.cells #[.int .i64 f7.k,.int .i64 f7.n,.int .i64 f7.mn,.int .i64 f7.mx,.slice f7.rq f7.rs.length f7.rc,.slice f7.kq f7.kl f7.kc] 25)));clear h72)
       go_roundg 3
       case measure=>omega
       case rel=>exact⟨4,rfl,rfl,HNX.out,S7.out⟩
      | some z'=>
       rw [ho] at SC1
       have SD:=aA (SC1.mono fun e w' q=>q.yes)
       have HOO:=aA ho
       clear SC1 ho
       go_upto_region 13 with (go_at_call 45;(with_reducible refine SD.out.mono ?_);rintro e w7 ⟨t7,rfl,h72,h73,h74,h75⟩;have B7:=aA h72;have T7:=aA h73;have F7:=aA h74;have E7:=aA h75;clear h72 h73 h74 h75)
       have K8:Below w7.heap.size w7 (w7.alloc (.cells #[.int .i64 t7.f.k,.int .i64 t7.f.n,.int .i64 t7.f.mn,.int .i64 t7.f.mx,.slice t7.f.rq t7.f.rs.length t7.f.rc,.slice t7.f.kq t7.f.kl t7.f.kc] 25)):=bz9
       have S8:=aA ((S1.out.kept B7.out).kept K8)
       have N8:Hid (BoxN (w7.alloc (.cells #[.int .i64 t7.f.k,.int .i64 t7.f.n,.int .i64 t7.f.mn,.int .i64 t7.f.mx,.slice t7.f.rq t7.f.rs.length t7.f.rc,.slice t7.f.kq t7.f.kl t7.f.kc] 25)) w7.heap.size t7.f):=aA (aD w7 _)
       have T8:=aA (T7.out.kept K8)
       clear c0 c1 c2 c3 c4 c5 m0 m1
       generalize (w7.alloc (.cells #[.int .i64 t7.f.k,.int .i64 t7.f.n,.int .i64 t7.f.mn,.int .i64 t7.f.mx,.slice t7.f.rq t7.f.rs.length t7.f.rc,.slice t7.f.kq t7.f.kl t7.f.kc] 25))=w8 at K8 S8 N8 T8 ⊢
       obtain⟨c0,c1,c2,c3,c4,c5⟩:=S8.out.box.six
       simp only [m7] at c1 c2 c3 c4 c5
       obtain⟨n0,n1,n2,n3,n4,n5⟩:=N8.out.six
       simp only [m7] at n1 n2 n3 n4 n5
       have fz:=fun z=>aK S8.out.box z
       obtain⟨h91,h92⟩:=S8.out.step HNO.out HOO.out T8.out F7.out E7.out (by omega) hrb lz9
       unfold cD at h91
       have S9:=aA h91
       clear h91
       go_wp2
       go_roundg z'.sz
       case measure=>omega
       case rel=>exact⟨z',t7,t8 _,S9.out⟩
     ·have e45:((9:Int) != t.f.k)=true:=by rw [<- dR,HSI.out.ns.er,dS];simpa using (fun q=>hk q.symm)
      have HNX:=aA (show ∀ i,i<3+1->rl i z=none from fun i hi=>if hij:i<3 then HNO.out i hij else by have:i=3:=(by omega);subst this;exact iO (by unfold rk;simpa using hk))
      clear SC hk
      go_wp2
      go_roundg 3
      case measure=>omega
      case rel=>exact⟨4,rfl,rfl,HNX.out,S1.out⟩
    ·subst hj4
     have l0:wr.cell? ⟨rb,8,none⟩=some (.int .i64 5):=aB HSI.out.rul (i:=8) rfl
     have l1:wr.cell? ⟨rb,9,none⟩=some (.func (.func 46) #[] #[]):=aB HSI.out.rul (i:=9) rfl
     have K1:Below wr.heap.size wr (wr.alloc (.cells #[.int .i64 5,.func (.func 46) #[] #[]] 91)):=bz9
     have S1:=aA (HSI.out.kept K1)
     have M1:=aA (aD wr (.cells #[.int .i64 5,.func (.func 46) #[] #[]] 91))
     have SC:Hid (∀ V,Below wr.heap.size wr V->z.kd=5->Calls Tryz.prog 46 #[.agg #[.int .i64 t.f.k,.int .i64 t.f.n,.int .i64 t.f.mn,.int .i64 t.f.mx,.slice t.f.rq t.f.rs.length t.f.rc,.slice t.f.kq t.f.kl t.f.kc]] V (RSays (bz+1) V ((rl 4 z).map te))):=aA fun V hV hk=>tY HSI.out.ns (HSI.out.kept hV).ta (aC (HSI.out.kept hV).res) hk
     go_upto_region 10 with fail
     generalize (wr.alloc (.cells #[.int .i64 5,.func (.func 46) #[] #[]] 91))=V1 at K1 S1 M1 ⊢
     clear l0 l1
     obtain⟨c0,c1,c2,c3,c4,c5⟩:=S1.out.box.six
     simp only [m7] at c1 c2 c3 c4 c5
     have m0:=aB M1.out (i:=0) rfl
     have m1:=aB M1.out (i:=1) rfl
     by_cases hk:z.kd=5
     ·have e45:((5:Int) != t.f.k)=false:=by rw [<- dR,HSI.out.ns.er,dS,hk];rfl
      have SC1:=SC.out V1 K1 hk
      clear SC hk
      cases ho:rl 4 z with
      | none=>
       rw [ho] at SC1
       have SD:=aA (SC1.mono fun e w' q=>q.no)
       have HNX:=aA (show ∀ i,i<4+1->rl i z=none from fun i hi=>if hij:i<4 then HNO.out i hij else by have:i=4:=(by omega);subst this;exact ho)
       clear SC1 ho
       go_wp2_with (go_at_call 46;(with_reducible refine SD.out.mono ?_);rintro e w7 ⟨f7,rfl,h72⟩;have S7:=aA ((S1.out.kept h72).kept ((Below.refl _ _).alloc lz9 (.cells #[.int .i64 f7.k,.int .i64 f7.n,.int .i64 f7.mn,.int .i64 f7.mx,.slice f7.rq f7.rs.length f7.rc,.slice f7.kq f7.kl f7.kc] 25)));clear h72)
       go_roundg 2
       case measure=>omega
       case rel=>exact⟨5,rfl,rfl,HNX.out,S7.out⟩
      | some z'=>
       rw [ho] at SC1
       have SD:=aA (SC1.mono fun e w' q=>q.yes)
       have HOO:=aA ho
       clear SC1 ho
       go_upto_region 13 with (go_at_call 46;(with_reducible refine SD.out.mono ?_);rintro e w7 ⟨t7,rfl,h72,h73,h74,h75⟩;have B7:=aA h72;have T7:=aA h73;have F7:=aA h74;have E7:=aA h75;clear h72 h73 h74 h75)
       have K8:Below w7.heap.size w7 (w7.alloc (.cells #[.int .i64 t7.f.k,.int .i64 t7.f.n,.int .i64 t7.f.mn,.int .i64 t7.f.mx,.slice t7.f.rq t7.f.rs.length t7.f.rc,.slice t7.f.kq t7.f.kl t7.f.kc] 25)):=bz9
       have S8:=aA ((S1.out.kept B7.out).kept K8)
       have N8:Hid (BoxN (w7.alloc (.cells #[.int .i64 t7.f.k,.int .i64 t7.f.n,.int .i64 t7.f.mn,.int .i64 t7.f.mx,.slice t7.f.rq t7.f.rs.length t7.f.rc,.slice t7.f.kq t7.f.kl t7.f.kc] 25)) w7.heap.size t7.f):=aA (aD w7 _)
       have T8:=aA (T7.out.kept K8)
       clear c0 c1 c2 c3 c4 c5 m0 m1
       generalize (w7.alloc (.cells #[.int .i64 t7.f.k,.int .i64 t7.f.n,.int .i64 t7.f.mn,.int .i64 t7.f.mx,.slice t7.f.rq t7.f.rs.length t7.f.rc,.slice t7.f.kq t7.f.kl t7.f.kc] 25))=w8 at K8 S8 N8 T8 ⊢
       obtain⟨c0,c1,c2,c3,c4,c5⟩:=S8.out.box.six
       simp only [m7] at c1 c2 c3 c4 c5
       obtain⟨n0,n1,n2,n3,n4,n5⟩:=N8.out.six
       simp only [m7] at n1 n2 n3 n4 n5
       have fz:=fun z=>aK S8.out.box z
       obtain⟨h91,h92⟩:=S8.out.step HNO.out HOO.out T8.out F7.out E7.out (by omega) hrb lz9
       unfold cD at h91
       have S9:=aA h91
       clear h91
       go_wp2
       go_roundg z'.sz
       case measure=>omega
       case rel=>exact⟨z',t7,t8 _,S9.out⟩
     ·have e45:((5:Int) != t.f.k)=true:=by rw [<- dR,HSI.out.ns.er,dS];simpa using (fun q=>hk q.symm)
      have HNX:=aA (show ∀ i,i<4+1->rl i z=none from fun i hi=>if hij:i<4 then HNO.out i hij else by have:i=4:=(by omega);subst this;exact iO (by unfold rk;simpa using hk))
      clear SC hk
      go_wp2
      go_roundg 2
      case measure=>omega
      case rel=>exact⟨5,rfl,rfl,HNX.out,S1.out⟩
    ·subst hj5
     have l0:wr.cell? ⟨rb,10,none⟩=some (.int .i64 6):=aB HSI.out.rul (i:=10) rfl
     have l1:wr.cell? ⟨rb,11,none⟩=some (.func (.func 47) #[] #[]):=aB HSI.out.rul (i:=11) rfl
     have K1:Below wr.heap.size wr (wr.alloc (.cells #[.int .i64 6,.func (.func 47) #[] #[]] 91)):=bz9
     have S1:=aA (HSI.out.kept K1)
     have M1:=aA (aD wr (.cells #[.int .i64 6,.func (.func 47) #[] #[]] 91))
     have SC:Hid (∀ V,Below wr.heap.size wr V->z.kd=6->Calls Tryz.prog 47 #[.agg #[.int .i64 t.f.k,.int .i64 t.f.n,.int .i64 t.f.mn,.int .i64 t.f.mx,.slice t.f.rq t.f.rs.length t.f.rc,.slice t.f.kq t.f.kl t.f.kc]] V (RSays (bz+1) V ((rl 5 z).map te))):=aA fun V hV hk=>aC3 HSI.out.ns (HSI.out.kept hV).ta (aC (HSI.out.kept hV).res) hk
     go_upto_region 10 with fail
     generalize (wr.alloc (.cells #[.int .i64 6,.func (.func 47) #[] #[]] 91))=V1 at K1 S1 M1 ⊢
     clear l0 l1
     obtain⟨c0,c1,c2,c3,c4,c5⟩:=S1.out.box.six
     simp only [m7] at c1 c2 c3 c4 c5
     have m0:=aB M1.out (i:=0) rfl
     have m1:=aB M1.out (i:=1) rfl
     by_cases hk:z.kd=6
     ·have e45:((6:Int) != t.f.k)=false:=by rw [<- dR,HSI.out.ns.er,dS,hk];rfl
      have SC1:=SC.out V1 K1 hk
      clear SC hk
      cases ho:rl 5 z with
      | none=>
       rw [ho] at SC1
       have SD:=aA (SC1.mono fun e w' q=>q.no)
       have HNX:=aA (show ∀ i,i<5+1->rl i z=none from fun i hi=>if hij:i<5 then HNO.out i hij else by have:i=5:=(by omega);subst this;exact ho)
       clear SC1 ho
       go_wp2_with (go_at_call 47;(with_reducible refine SD.out.mono ?_);rintro e w7 ⟨f7,rfl,h72⟩;have S7:=aA ((S1.out.kept h72).kept ((Below.refl _ _).alloc lz9 (.cells #[.int .i64 f7.k,.int .i64 f7.n,.int .i64 f7.mn,.int .i64 f7.mx,.slice f7.rq f7.rs.length f7.rc,.slice f7.kq f7.kl f7.kc] 25)));clear h72)
       go_roundg 1
       case measure=>omega
       case rel=>exact⟨6,rfl,rfl,HNX.out,S7.out⟩
      | some z'=>
       rw [ho] at SC1
       have SD:=aA (SC1.mono fun e w' q=>q.yes)
       have HOO:=aA ho
       clear SC1 ho
       go_upto_region 13 with (go_at_call 47;(with_reducible refine SD.out.mono ?_);rintro e w7 ⟨t7,rfl,h72,h73,h74,h75⟩;have B7:=aA h72;have T7:=aA h73;have F7:=aA h74;have E7:=aA h75;clear h72 h73 h74 h75)
       have K8:Below w7.heap.size w7 (w7.alloc (.cells #[.int .i64 t7.f.k,.int .i64 t7.f.n,.int .i64 t7.f.mn,.int .i64 t7.f.mx,.slice t7.f.rq t7.f.rs.length t7.f.rc,.slice t7.f.kq t7.f.kl t7.f.kc] 25)):=bz9
       have S8:=aA ((S1.out.kept B7.out).kept K8)
       have N8:Hid (BoxN (w7.alloc (.cells #[.int .i64 t7.f.k,.int .i64 t7.f.n,.int .i64 t7.f.mn,.int .i64 t7.f.mx,.slice t7.f.rq t7.f.rs.length t7.f.rc,.slice t7.f.kq t7.f.kl t7.f.kc] 25)) w7.heap.size t7.f):=aA (aD w7 _)
       have T8:=aA (T7.out.kept K8)
       clear c0 c1 c2 c3 c4 c5 m0 m1
       generalize (w7.alloc (.cells #[.int .i64 t7.f.k,.int .i64 t7.f.n,.int .i64 t7.f.mn,.int .i64 t7.f.mx,.slice t7.f.rq t7.f.rs.length t7.f.rc,.slice t7.f.kq t7.f.kl t7.f.kc] 25))=w8 at K8 S8 N8 T8 ⊢
       obtain⟨c0,c1,c2,c3,c4,c5⟩:=S8.out.box.six
       simp only [m7] at c1 c2 c3 c4 c5
       obtain⟨n0,n1,n2,n3,n4,n5⟩:=N8.out.six
       simp only [m7] at n1 n2 n3 n4 n5
       have fz:=fun z=>aK S8.out.box z
       obtain⟨h91,h92⟩:=S8.out.step HNO.out HOO.out T8.out F7.out E7.out (by omega) hrb lz9
       unfold cD at h91
       have S9:=aA h91
       clear h91
       go_wp2
       go_roundg z'.sz
       case measure=>omega
       case rel=>exact⟨z',t7,t8 _,S9.out⟩
     ·have e45:((6:Int) != t.f.k)=true:=by rw [<- dR,HSI.out.ns.er,dS];simpa using (fun q=>hk q.symm)
      have HNX:=aA (show ∀ i,i<5+1->rl i z=none from fun i hi=>if hij:i<5 then HNO.out i hij else by have:i=5:=(by omega);subst this;exact iO (by unfold rk;simpa using hk))
      clear SC hk
      go_wp2
      go_roundg 1
      case measure=>omega
      case rel=>exact⟨6,rfl,rfl,HNX.out,S1.out⟩
    ·subst hj6
     have l0:wr.cell? ⟨rb,12,none⟩=some (.int .i64 6):=aB HSI.out.rul (i:=12) rfl
     have l1:wr.cell? ⟨rb,13,none⟩=some (.func (.func 48) #[] #[]):=aB HSI.out.rul (i:=13) rfl
     have K1:Below wr.heap.size wr (wr.alloc (.cells #[.int .i64 6,.func (.func 48) #[] #[]] 91)):=bz9
     have S1:=aA (HSI.out.kept K1)
     have M1:=aA (aD wr (.cells #[.int .i64 6,.func (.func 48) #[] #[]] 91))
     have SC:Hid (∀ V,Below wr.heap.size wr V->z.kd=6->Calls Tryz.prog 48 #[.agg #[.int .i64 t.f.k,.int .i64 t.f.n,.int .i64 t.f.mn,.int .i64 t.f.mx,.slice t.f.rq t.f.rs.length t.f.rc,.slice t.f.kq t.f.kl t.f.kc]] V (RSays (bz+1) V ((rl 6 z).map te))):=aA fun V hV hk=>wT HSI.out.ns (HSI.out.kept hV).ta (aC (HSI.out.kept hV).res) hk
     go_upto_region 10 with fail
     generalize (wr.alloc (.cells #[.int .i64 6,.func (.func 48) #[] #[]] 91))=V1 at K1 S1 M1 ⊢
     clear l0 l1
     obtain⟨c0,c1,c2,c3,c4,c5⟩:=S1.out.box.six
     simp only [m7] at c1 c2 c3 c4 c5
     have m0:=aB M1.out (i:=0) rfl
     have m1:=aB M1.out (i:=1) rfl
     by_cases hk:z.kd=6
     ·have e45:((6:Int) != t.f.k)=false:=by rw [<- dR,HSI.out.ns.er,dS,hk];rfl
      have SC1:=SC.out V1 K1 hk
      clear SC hk
      cases ho:rl 6 z with
      | none=>
       rw [ho] at SC1
       have SD:=aA (SC1.mono fun e w' q=>q.no)
       have HNX:=aA (show ∀ i,i<6+1->rl i z=none from fun i hi=>if hij:i<6 then HNO.out i hij else by have:i=6:=(by omega);subst this;exact ho)
       clear SC1 ho
       go_wp2_with (go_at_call 48;(with_reducible refine SD.out.mono ?_);rintro e w7 ⟨f7,rfl,h72⟩;have S7:=aA ((S1.out.kept h72).kept ((Below.refl _ _).alloc lz9 (.cells #[.int .i64 f7.k,.int .i64 f7.n,.int .i64 f7.mn,.int .i64 f7.mx,.slice f7.rq f7.rs.length f7.rc,.slice f7.kq f7.kl f7.kc] 25)));clear h72)
       go_roundg 0
       case measure=>omega
       case rel=>exact⟨7,rfl,rfl,HNX.out,S7.out⟩
      | some z'=>
       rw [ho] at SC1
       have SD:=aA (SC1.mono fun e w' q=>q.yes)
       have HOO:=aA ho
       clear SC1 ho
       go_upto_region 13 with (go_at_call 48;(with_reducible refine SD.out.mono ?_);rintro e w7 ⟨t7,rfl,h72,h73,h74,h75⟩;have B7:=aA h72;have T7:=aA h73;have F7:=aA h74;have E7:=aA h75;clear h72 h73 h74 h75)
       have K8:Below w7.heap.size w7 (w7.alloc (.cells #[.int .i64 t7.f.k,.int .i64 t7.f.n,.int .i64 t7.f.mn,.int .i64 t7.f.mx,.slice t7.f.rq t7.f.rs.length t7.f.rc,.slice t7.f.kq t7.f.kl t7.f.kc] 25)):=bz9
       have S8:=aA ((S1.out.kept B7.out).kept K8)
       have N8:Hid (BoxN (w7.alloc (.cells #[.int .i64 t7.f.k,.int .i64 t7.f.n,.int .i64 t7.f.mn,.int .i64 t7.f.mx,.slice t7.f.rq t7.f.rs.length t7.f.rc,.slice t7.f.kq t7.f.kl t7.f.kc] 25)) w7.heap.size t7.f):=aA (aD w7 _)
       have T8:=aA (T7.out.kept K8)
       clear c0 c1 c2 c3 c4 c5 m0 m1
       generalize (w7.alloc (.cells #[.int .i64 t7.f.k,.int .i64 t7.f.n,.int .i64 t7.f.mn,.int .i64 t7.f.mx,.slice t7.f.rq t7.f.rs.length t7.f.rc,.slice t7.f.kq t7.f.kl t7.f.kc] 25))=w8 at K8 S8 N8 T8 ⊢
       obtain⟨c0,c1,c2,c3,c4,c5⟩:=S8.out.box.six
       simp only [m7] at c1 c2 c3 c4 c5
       obtain⟨n0,n1,n2,n3,n4,n5⟩:=N8.out.six
       simp only [m7] at n1 n2 n3 n4 n5
       have fz:=fun z=>aK S8.out.box z
       obtain⟨h91,h92⟩:=S8.out.step HNO.out HOO.out T8.out F7.out E7.out (by omega) hrb lz9
       unfold cD at h91
       have S9:=aA h91
       clear h91
       go_wp2
       go_roundg z'.sz
       case measure=>omega
       case rel=>exact⟨z',t7,t8 _,S9.out⟩
     ·have e45:((6:Int) != t.f.k)=true:=by rw [<- dR,HSI.out.ns.er,dS];simpa using (fun q=>hk q.symm)
      have HNX:=aA (show ∀ i,i<6+1->rl i z=none from fun i hi=>if hij:i<6 then HNO.out i hij else by have:i=6:=(by omega);subst this;exact iO (by unfold rk;simpa using hk))
      clear SC hk
      go_wp2
      go_roundg 0
      case measure=>omega
      case rel=>exact⟨7,rfl,rfl,HNX.out,S1.out⟩
    ·subst hj7
     have hz:z=FIN:=by rw [<- HSI.out.fin,aK1 unC HSI.out.ns.nd (aY3 HNO.out)]
     have E9:=aA (show er t=te FIN by rw [<- hz];exact HSI.out.ns.er)
     have P9:=aA (dP wr bz 0 t.f)
     have X9:=aA (dT (b:=bz) (o:=0) (f:=⟨0,0,0,0,[],none,0,none,0,0⟩) (g:=t.f) ⟨aB HSI.out.res (i:=0) rfl,aB HSI.out.res (i:=1) rfl,aB HSI.out.res (i:=2) rfl,aB HSI.out.res (i:=3) rfl,aB HSI.out.res (i:=4) rfl,aB HSI.out.res (i:=5) rfl⟩)
     unfold cD at P9 X9
     obtain⟨c0,c1,c2,c3,c4,c5⟩:=HSI.out.box.six
     simp only [m7] at c1 c2 c3 c4 c5
     have r0:=aB HSI.out.res (i:=0) rfl
     have r1:=aB HSI.out.res (i:=1) rfl
     have r2:=aB HSI.out.res (i:=2) rfl
     have r3:=aB HSI.out.res (i:=3) rfl
     have r4:=aB HSI.out.res (i:=4) rfl
     have r5:=aB HSI.out.res (i:=5) rfl
     have fz:=fun z=>aK HSI.out.res z
     clear hz
     go_wp2
     try rw [Exit.noGoto_ret]
     refine pR X9.out rfl rfl ?_
     exact⟨t,rfl,HSI.out.ta.ckN HSI.out.ft (P9.out.ckeep (fun k e z=>by omega)),HSI.out.ft.mono (fun k hk=>by omega),E9.out,bB HSI.out.bel P9.out lz9 (fun k e=>by omega)⟩
end
section
attribute [local go_sem] Oper.semAt_some
theorem aX8(w:World):Calls Tryz.prog 23 #[] w fun e w'=>∃ rb,e=.returned (.slice (some ⟨rb,0,none⟩) 7 7)/\RL w' rb/\Below w.heap.size w w':=by
 go_enter Tryz.func23,Tryz.ntmps23
 go_wp2
 go_ret
 exact⟨w.heap.size,rfl,aD w _,bz9⟩
theorem mE{R:Ending->World->Prop}{a:Act}{W:World}{b:Nat}{f:Fl}{e:Int}(h:Six W b 0 f)(ha:a.tmps[4]?.getD undef=.pointer (some ⟨b,0,none⟩))(he:a.tmps[5]?.getD undef=.int .i64 e)(hd:a.defers=[])(hR:R (.returned (.tuple #[.agg #[.int .i64 f.k,.int .i64 f.n,.int .i64 f.mn,.int .i64 f.mx,.slice f.rq f.rs.length f.rc,.slice f.kq f.kl f.kc],.int .i64 e])) W):bodyPost Tryz.prog Tryz.f7 R .ret a W:=by
 obtain⟨z0,z1,z2,z3,z4,z5⟩:=h
 simp only [m7] at z1 z2 z3 z4 z5
 refine bodyPost_ret (v:=.tuple #[.agg #[.int .i64 f.k,.int .i64 f.n,.int .i64 f.mn,.int .i64 f.mx,.slice f.rq f.rs.length f.rc,.slice f.kq f.kl f.kc],.int .i64 e]) ?_ hd hR
 simp [results,Tryz.results7,go_sem,ha,he,z0,z1,z2,z3,z4,z5]
structure Sm3(w:World)(f:Fl)(c o:Bool)(W:World):Prop where
 bel:Below w.heap.size w W
 box:BoxN W w.heap.size f
 mode:W.heap[w.heap.size+1]?=some (.cells #[.bool c,.bool o] 27 (0,0))
 res:W.heap[w.heap.size+2]?=some (.cells #[.int .i64 0,.int .i64 0,.int .i64 0,.int .i64 0,.slice none 0 0,.slice none 0 0] 25 (0,0))
theorem Sm3.new(w:World)(f:Fl)(c o:Bool):Sm3 w f c o (((w.alloc (.cells #[.int .i64 f.k,.int .i64 f.n,.int .i64 f.mn,.int .i64 f.mx,.slice f.rq f.rs.length f.rc,.slice f.kq f.kl f.kc] 25)).alloc (.cells #[.bool c,.bool o] 27)).alloc (.cells #[.int .i64 0,.int .i64 0,.int .i64 0,.int .i64 0,.slice none 0 0,.slice none 0 0] 25)):=by
 refine⟨((bz9).alloc (by simp) _).alloc (by simp;omega) _,?_,?_,?_⟩
 ·exact(Below.heap_alloc _ _ _ (by simp;omega)).trans ((Below.heap_alloc _ _ _ (by simp)).trans (aD w _))
 ·have:=aD (w.alloc (.cells #[.int .i64 f.k,.int .i64 f.n,.int .i64 f.mn,.int .i64 f.mx,.slice f.rq f.rs.length f.rc,.slice f.kq f.kl f.kc] 25)) (.cells #[.bool c,.bool o] 27)
  rw [v9] at this
  exact(Below.heap_alloc _ _ _ (by simp)).trans this
 ·have:=aD ((w.alloc (.cells #[.int .i64 f.k,.int .i64 f.n,.int .i64 f.mn,.int .i64 f.mx,.slice f.rq f.rs.length f.rc,.slice f.kq f.kl f.kc] 25)).alloc (.cells #[.bool c,.bool o] 27)) (.cells #[.int .i64 0,.int .i64 0,.int .i64 0,.int .i64 0,.slice none 0 0,.slice none 0 0] 25)
  rwa [v9,v9] at this
theorem Sm3.kept{w W W':World}{f:Fl}{c o:Bool}(h:Sm3 w f c o W)(hb:Below W.heap.size W W'):Sm3 w f c o W':=
 ⟨aG h.bel hb lz9,(hb.block _ (aC h.box)).trans h.box,(hb.block _ (aC h.mode)).trans h.mode,(hb.block _ (aC h.res)).trans h.res⟩
theorem lX{w:World}{t:Tr}(c o:Bool)(hta:TB w t)(hr:aZ c o 0 0 (pp [] t)≠0):Calls Tryz.prog 7 #[.agg #[.int .i64 t.f.k,.int .i64 t.f.n,.int .i64 t.f.mn,.int .i64 t.f.mx,.slice t.f.rq t.f.rs.length t.f.rc,.slice t.f.kq t.f.kl t.f.kc],.agg #[.bool c,.bool o]] w fun e w'=>e=.returned (.tuple #[.agg #[.int .i64 0,.int .i64 0,.int .i64 0,.int .i64 0,.slice none 0 0,.slice none 0 0],.int .i64 (aZ c o 0 0 (pp [] t))])/\Below w.heap.size w w':=by
 have S0:=aA (Sm3.new w t.f c o)
 have RC:=aA (fun V (hV:Below w.heap.size w V)=>uE c o (hta.kept hV))
 obtain⟨R,hR⟩:∃ R,aZ c o 0 0 (pp [] t)=R:=⟨_,rfl⟩
 rw [hR] at RC hr ⊢
 have hr1:(R != 0)=true:=by simpa using hr
 clear hta hR hr
 go_enter Tryz.func7,Tryz.ntmps7
 go_upto_region 1 with fail
 generalize (((w.alloc (.cells #[.int .i64 t.f.k,.int .i64 t.f.n,.int .i64 t.f.mn,.int .i64 t.f.mx,.slice t.f.rq t.f.rs.length t.f.rc,.slice t.f.kq t.f.kl t.f.kc] 25)).alloc (.cells #[.bool c,.bool o] 27)).alloc (.cells #[.int .i64 0,.int .i64 0,.int .i64 0,.int .i64 0,.slice none 0 0,.slice none 0 0] 25))=W at S0 ⊢
 obtain⟨c0,c1,c2,c3,c4,c5⟩:=S0.out.box.six
 simp only [m7] at c1 c2 c3 c4 c5
 have m0:=aB S0.out.mode (i:=0) rfl
 have m1:=aB S0.out.mode (i:=1) rfl
 have RD:=aA (RC.out W S0.out.bel)
 clear RC
 go_wp2_with (go_at_call 21;(with_reducible refine RD.out.mono ?_);rintro e w5 ⟨rfl,h5⟩;have S5:=aA (S0.out.kept h5);clear h5;have r0:=aB S5.out.res (i:=0) rfl;have r1:=aB S5.out.res (i:=1) rfl;have r2:=aB S5.out.res (i:=2) rfl;have r3:=aB S5.out.res (i:=3) rfl;have r4:=aB S5.out.res (i:=4) rfl;have r5:=aB S5.out.res (i:=5) rfl;have fz:=fun z=>aK S5.out.res z;have E0:=aA (mF S5.out.bel S5.out.res (by omega)))
 exact mE E0.out.1 rfl rfl rfl ⟨rfl,E0.out.2⟩
theorem gD{w:World}{t:Tr}{x:Ps}{c o:Bool}(hta:TB w t)(he:er t=te x)(hx:PsOK c o x):Calls Tryz.prog 7 #[.agg #[.int .i64 t.f.k,.int .i64 t.f.n,.int .i64 t.f.mn,.int .i64 t.f.mx,.slice t.f.rq t.f.rs.length t.f.rc,.slice t.f.kq t.f.kl t.f.kc],.agg #[.bool c,.bool o]] w fun e w'=>∃ t':Tr,e=.returned (.tuple #[.agg #[.int .i64 t'.f.k,.int .i64 t'.f.n,.int .i64 t'.f.mn,.int .i64 t'.f.mx,.slice t'.f.rq t'.f.rs.length t'.f.rc,.slice t'.f.kq t'.f.kl t'.f.kc],.int .i64 0])/\TA w' t'/\Foot (fun k=>w.heap.size<=k) t'/\er t'=te (sim unC x)/\Below w.heap.size w w':=by
 have S0:=aA (Sm3.new w t.f c o)
 have RC:Hid (∀ V,Below w.heap.size w V->Calls Tryz.prog 21 #[.agg #[.int .i64 t.f.k,.int .i64 t.f.n,.int .i64 t.f.mn,.int .i64 t.f.mx,.slice t.f.rq t.f.rs.length t.f.rc,.slice t.f.kq t.f.kl t.f.kc],.agg #[.bool c,.bool o]] V fun e w'=>e=.returned (.int .i64 0)/\Below V.heap.size V w'):=aA fun V hV=>(uE c o (hta.kept hV)).mono fun e w' ⟨h1,h2⟩=>⟨by rw [h1,hx.right he],h2⟩
 have SC:Hid (∀ V rb,Below w.heap.size w V->RL V rb->Calls Tryz.prog 22 #[.agg #[.int .i64 t.f.k,.int .i64 t.f.n,.int .i64 t.f.mn,.int .i64 t.f.mx,.slice t.f.rq t.f.rs.length t.f.rc,.slice t.f.kq t.f.kl t.f.kc],.slice (some ⟨rb,0,none⟩) 7 7] V (jZ V (te (sim unC x)))):=aA fun V rb hV hR=>rY c o rb t.sz t x V lz9 (hta.kept hV) he hx.wf hx.sg hx.sz hR
 obtain⟨X,hX⟩:∃ X,te (sim unC x)=X:=⟨_,rfl⟩
 rw [hX] at SC ⊢
 clear hta he hx hX
 go_enter Tryz.func7,Tryz.ntmps7
 go_upto_region 1 with fail
 generalize (((w.alloc (.cells #[.int .i64 t.f.k,.int .i64 t.f.n,.int .i64 t.f.mn,.int .i64 t.f.mx,.slice t.f.rq t.f.rs.length t.f.rc,.slice t.f.kq t.f.kl t.f.kc] 25)).alloc (.cells #[.bool c,.bool o] 27)).alloc (.cells #[.int .i64 0,.int .i64 0,.int .i64 0,.int .i64 0,.slice none 0 0,.slice none 0 0] 25))=W at S0 ⊢
 obtain⟨c0,c1,c2,c3,c4,c5⟩:=S0.out.box.six
 simp only [m7] at c1 c2 c3 c4 c5
 have m0:=aB S0.out.mode (i:=0) rfl
 have m1:=aB S0.out.mode (i:=1) rfl
 have RD:=aA (RC.out W S0.out.bel)
 clear RC
 go_upto_region 4 with (go_at_call 21;(with_reducible refine RD.out.mono ?_);rintro e w5 ⟨rfl,h5⟩;have S5:=aA (S0.out.kept h5);clear h5)
 clear c0 c1 c2 c3 c4 c5 m0 m1 RD
 obtain⟨c0,c1,c2,c3,c4,c5⟩:=S5.out.box.six
 simp only [m7] at c1 c2 c3 c4 c5
 have RU:=aA (fun V=>aX8 V)
 first | go_region_with (first |(go_at_call 22;(with_reducible refine(SC.out _ _ S6.out.bel L6.out).mono ?_);rintro e w7 ⟨t7,rfl,h71,h72,h73,h74⟩;have S7:=aA (S6.out.kept h74);have T7:=aA h71;have F7:=aA h72;have E7:=aA h73;clear h71 h72 h73 h74;have r0:=aB S7.out.res (i:=0) rfl;have r1:=aB S7.out.res (i:=1) rfl;have r2:=aB S7.out.res (i:=2) rfl;have r3:=aB S7.out.res (i:=3) rfl;have r4:=aB S7.out.res (i:=4) rfl;have r5:=aB S7.out.res (i:=5) rfl;have fz:=fun z=>aK S7.out.res z) |(go_at_call 23;(with_reducible refine(RU.out _).mono ?_);rintro e w6 ⟨rb,rfl,h61,h62⟩;have S6:=aA (S5.out.kept ((Below.refl w5.heap.size w5).drew.trans h62));have L6:=aA h61;clear h61 h62;have d0:=S6.out.box.six.1;have d1:=S6.out.box.six.2.1;have d2:=S6.out.box.six.2.2.1;have d3:=S6.out.box.six.2.2.2.1;have d4:=S6.out.box.six.2.2.2.2.1;have d5:=S6.out.box.six.2.2.2.2.2;simp only [m7] at d1 d2 d3 d4 d5)) | fail
 all_goals go_wp2
 all_goals have E0:=aA (oP t7 S7.out.bel S7.out.res (by omega) T7.out (F7.out.mono fun k hk=>o8 (aC S6.out.res) hk))
 all_goals exact mE E0.out.1 rfl rfl rfl ⟨t7,rfl,E0.out.2.2,F7.out.mono (fun k hk=>o0 S6.out.bel.size hk),E7.out,E0.out.2.1⟩
end
def chP(c:Int):Ps:=.lf 2 0 [(c,c)]
theorem aJ4(c:Int):te (chP c)=.mk 2 0 0 0 [(c,c)] []:=by unfold chP;rw [te]
theorem vR{a b:Int}(h:a<=b):Cls [(a,b)]:=⟨fun r hr=>by simp at hr;subst hr;exact h,by simp⟩
theorem aC1{a b:Int}(h:a<=b)(h0:0<=a)(h1:b<=255):lC false false [(a,b)]:=by
 refine⟨⟨vR h,gJ (by omega),fun c=>⟨fun q=>⟨q,?_⟩,fun q=>q.1⟩⟩,fun q=>by cases q⟩
 rw [dZ] at q
 exact⟨by omega,by unfold top;simp;omega,fun z=>by cases z⟩
theorem aL1{c:Int}(h0:0<=c)(h1:c<=255):dG false false (.lf 2 0 [(c,c)]):=⟨fun _=>⟨aC1 (aAW _) h0 h1,rfl⟩,fun h=>absurd rfl h,fun h=>absurd h (by decide),fun _=>rfl⟩
theorem aH8(c:Int):wf (chP c):=by unfold chP;rw [wf];exact .inl rfl
def x1P:Ps:=.rep 1 1 (chP 97)
def stP:Ps:=.rep 0 (-1) (chP 97)
def x2P:Ps:=.rep 0 (-1) stP
def x3P:Ps:=.alt [chP 97,chP 98,chP 97]
theorem bO5:PsOK false false x1P:=by
 refine⟨by unfold x1P;rw [wf];exact⟨rfl,aH8 97⟩,?_,?_,?_,?_⟩
 ·intro s hs
  simp [x1P,chP,pfl] at hs
  rcases hs with rfl | rfl
  ·exact aL1 (by decide) (by decide)
  ·show eX 1 1=true;decide
 ·simp [x1P,chP,pfl,hk]
 ·simp [x1P,chP,Ps.dp]
 ·simp [x1P,chP,Ps.sz]
theorem bO4:PsOK false false x2P:=by
 refine⟨by unfold x2P stP;rw [wf];exact⟨rfl,by rw [wf];exact⟨rfl,aH8 97⟩⟩,?_,?_,?_,?_⟩
 ·intro s hs
  simp [x2P,stP,chP,pfl] at hs
  rcases hs with rfl | rfl
  ·exact aL1 (by decide) (by decide)
  ·show eX 0 (-1)=true;decide
 ·simp [x2P,stP,chP,pfl,hk]
 ·simp [x2P,stP,chP,Ps.dp]
 ·simp [x2P,stP,chP,Ps.sz]
theorem bO3:PsOK false false x3P:=by
 refine⟨by unfold x3P;rw [wf];exact⟨by simp,by intro x hx;simp at hx;rcases hx with rfl | rfl | rfl <;> rfl,(dC _).2 (by intro x hx;simp at hx;rcases hx with rfl | rfl | rfl <;> exact aH8 _)⟩,?_,?_,?_,?_⟩
 ·intro s hs
  simp [x3P,chP,pfl,lH,eH] at hs
  rcases hs with rfl | rfl | rfl | rfl | rfl <;> first | exact aL1 (by decide) (by decide) | trivial
 ·simp [x3P,chP,pfl,lH,eH,hk]
 ·simp [x3P,chP,Ps.dp,gK]
 ·simp [x3P,chP,Ps.sz,bU]
theorem sD(c:Int):sim unC (chP c)=chP c:=by unfold chP;rw [sim]
theorem bH6:sim unC x1P=chP 97:=by
 unfold x1P
 rw [sim,sD]
 unfold iL
 rw [if_pos ⟨rfl,rfl⟩]
theorem bH7:sim unC stP=stP:=by
 unfold stP
 rw [sim,sD]
 unfold iL
 rw [if_neg (by decide),if_neg (by rintro ⟨-,-,h⟩;cases h),if_neg (by rintro ⟨h,-⟩;cases h),if_neg (by intro h;cases h)]
theorem bH5:sim unC x2P=stP:=by
 unfold x2P
 rw [sim,bH7]
 unfold iL
 rw [if_neg (by decide),if_pos ⟨rfl,rfl,rfl⟩]
theorem bN6:unC [(97,97),(98,98),(97,97)]=[(97,98)]:=by
 refine lP _ _ (rS _) (vR (by decide)) fun c=>?_
 rw [pE,bK,bK,dZ,dZ]
 simp only
 omega
theorem bH4:sim unC x3P=.lf 2 0 [(97,98)]:=by
 unfold x3P
 rw [sim,cC,cC,cC,cC,sD,sD]
 unfold kO bG
 have hf:[chP 97,chP 98,chP 97].filter isS=[chP 97,chP 98,chP 97]:=rfl
 rw [hf,if_pos (by simp)]
 have hu:[chP 97,chP 98,chP 97].flatMap rsP=[(97,97),(98,98),(97,97)]:=rfl
 rw [hu,bN6]
 have hs:bV [(97,98)] false [chP 97,chP 98,chP 97]=[.lf 2 0 [(97,98)]]:=rfl
 rw [hs,aW,if_neg (by simp),aW]
 rfl
theorem bC7{t:Tr}(h:er t=.mk 5 0 0 0 [] [.mk 2 0 0 0 [(97,97)] []]):aZ false false 0 0 (pp [] t)=50:=by
 obtain⟨k1,n1,m1,x1,r1,l1⟩:=iR h
 obtain⟨a,e1,ha⟩:=sV l1
 have hp:∃ rest,pp [] t=([],t) :: rest:=by rw [bX];exact⟨_,rfl⟩
 obtain⟨rest,hp⟩:=hp
 rw [hp]
 simp [aZ,bR,bQ,cP,aS,dY,k1,n1,m1,x1,r1,e1]
theorem bL4{W:World}{g:Nat}{us:List Tr}(h:W.heap[g]?=some (.cells (aV us).toArray 25 (0,0))):KR W g us:=by
 refine⟨⟨_,h⟩,fun i t hi=>?_⟩
 have key:∀ (j:Nat) (u:Value),j<6->t.f.cells[j]?=some u->W.cell? ⟨g,i*6+j,none⟩=some u:=fun j u hj hu=>by
  refine aB h (i:=i*6+j) ?_
  have:=iU us i j t hi hj
  rw [List.getElem?_toArray,this,hu]
 exact⟨key 0 _ (by omega) rfl,key 1 _ (by omega) rfl,key 2 _ (by omega) rfl,key 3 _ (by omega) rfl,key 4 _ (by omega) rfl,key 5 _ (by omega) rfl⟩
theorem aJ7{W:World}{g:Nat}{us:List Tr}(k n mn mx:Int)(h:W.heap[g]?=some (.cells (aV us).toArray 25 (0,0)))(hu:∀ u∈us,TB W u)(hl:us.length<=1000):TB W (.mk ⟨k,n,mn,mx,[],none,0,some ⟨g,0,none⟩,us.length,us.length⟩ us):=
 (aI _).2 ⟨⟨.inl ⟨none,0,rfl,rfl,fun _=>rfl⟩,(bL4 h).arg lz9 (by show us.length<=maxLen;unfold maxLen;omega),(fun r hr=>by cases hr),by simp [Tr.f]⟩,(aT _).2 hu⟩
end Go.Proofs.YtlamifbjklpdbaaGreat
