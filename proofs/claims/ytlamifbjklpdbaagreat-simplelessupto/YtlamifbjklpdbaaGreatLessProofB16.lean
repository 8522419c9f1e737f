/-
  Parts of the proof.
-/
import Derived.Test.YtlamifbjklpdbaaGreatLessProofA0
import Derived.Test.YtlamifbjklpdbaaGreatLessProofB15
import Derived.Test.YtlamifbjklpdbaaGreatLessProofB0
import Derived.Deep.RegionHeld
set_option linter.unusedSimpArgs false
set_option maxRecDepth 100000
set_option maxHeartbeats 8000000
namespace Go.Proofs.YtlamifbjklpdbaaGreat
open Go Go.RowKit
theorem sM:Tryz.prog.underlying 38=some (.slice 56):=by kernel_rfl
theorem sT:(Tryz.prog.info? 56).map (fun i=>(i.zero,i.size,i.bytes))=some (some (.agg #[.int .i64 0,.int .i64 0,.int .i64 0,.int .i64 0,.slice none 0 0,.slice none 0 0,.int .i64 0,.int .i64 0,.bool false,.bool false,.bool false,.int .i64 0]),12,112):=by kernel_rfl
theorem oH{W:World}{base g n cap size:Nat}{t:TypeId}{xs:List Value}(h:W.ownsRow base t size (.slice (some ⟨g,0,none⟩) n cap) n xs)(i:Nat)(x:Value):(W.setCell ⟨g,i,none⟩ x).ownsRow base t size (.slice (some ⟨g,0,none⟩) n cap) n (xs.set i x):=by
 rcases h with⟨h1,⟨q,_⟩ | ⟨g',c,cur,q1,q2,q3,q4,q5,q6,q7⟩⟩
 ·cases q
 ·cases q1
  refine⟨by rw [List.length_set];exact h1,.inr ⟨g,cap,cur.setIfInBounds i x,rfl,q2,aM q3 i _,q4,q5,by simpa using q6,?_⟩⟩
  rw [<- q7,Array.toList_setIfInBounds,List.take_set]
def aL6(W:World)(b:Nat)(z:Zl):Prop:=W.heap[b]?=some (.cells (zc z).toArray 56 (0,0))
def ZR(base:Nat)(W:World)(v:Value)(E:List Zl):Prop:=W.ownsRow base 56 12 v E.length (cV E)
def sE(w0 w:World)(v:Value)(E':List Zl)(e:Ending)(w':World):Prop:=∃ q' c',e=.returned (.slice q' E'.length c')/\ZR w0.heap.size w' (.slice q' E'.length c') E'/\moved v (.slice q' E'.length c') w.heap.size/\Fr (fun k=>v.ownBlock=some k) w w'
structure LS(w0 w:World)(v:Value)(bp bn:Nat)(p:Way)(t:Tr)(v':Value)(E':List Zl)(W:World):Prop where
 pb:aL6 W bp ((p,t),0)
 nb:BoxN W bn t.f
 row:ZR w0.heap.size W v' E'
 apart:v'.ownBlock≠some bp
 mv:moved v v' w.heap.size
 fr:Fr (fun k=>v.ownBlock=some k) w W
theorem Fr.step8{S T:Nat->Prop}{w V W:World}(h:Fr S w V)(k:Fr T V W)(hst:∀ i,i<w.heap.size->T i->S i):Fr S w W:=
 ⟨k.os.trans h.os,k.tape.trans h.tape,k.output.trans h.output,j4 h.size k.size,fun i hi hs=>(k.block i (j2 hi h.size) (fun ht=>hs (hst i hi ht))).trans (h.block i hi hs)⟩
theorem LS.kept{w0 w W W':World}{v v':Value}{bp bn:Nat}{p:Way}{t:Tr}{E':List Zl}(h:LS w0 w v bp bn p t v' E' W)(hb:Below W.heap.size W W'):LS w0 w v bp bn p t v' E' W':=
 ⟨(hb.block _ (aC h.pb)).trans h.pb,(hb.block _ (aC h.nb)).trans h.nb,aK h.row (Fr.of_below (S:=fun _=>False) hb) (fun _ _ z=>z),h.apart,h.mv,h.fr.then hb⟩
theorem LS.next{w0 w W W':World}{v v' v'':Value}{bp bn:Nat}{p:Way}{t:Tr}{E' E'':List Zl}(h:LS w0 w v bp bn p t v' E' W)(hz:ZR w0.heap.size W' v'' E'')(hm:moved v' v'' W.heap.size)(hf:Fr (fun k=>v'.ownBlock=some k) W W'):LS w0 w v bp bn p t v'' E'' W':=by
 refine⟨(hf.block _ (aC h.pb) h.apart).trans h.pb,(hf.block _ (aC h.nb) (dF h.row h.nb (by decide))).trans h.nb,hz,fun e=>?_,h.mv.trans hm h.fr.size,h.fr.step8 hf (fun i hi ht=>kS h.mv hi ht)⟩
 exact h.apart (kS hm (aC h.pb) e)
theorem LS.bel{w0 w W:World}{v v':Value}{bp bn n:Nat}{p:Way}{t:Tr}{E':List Zl}{xs:List Value}(h:LS w0 w v bp bn p t v' E' W)(hb:Below w0.heap.size w0 w)(hz:w.ownsRow w0.heap.size 56 12 v n xs):Below w0.heap.size w0 W:=
 aX hb h.fr lz9 (fun _ hk=>(aG hz hk).1)
theorem aU8{w0:World}{most:Nat}(hmost:most<=100000):∀ (m:Nat) (t:Tr) (p:Way) (w:World) (E:List Zl) (q:Option Addr) (c:Nat),t.sz<=m->TB w0 t->Below w0.heap.size w0 w->ZR w0.heap.size w (.slice q E.length c) E->p.length<=E.length ->
  Calls Tryz.prog 32 #[.slice q E.length c,.agg (zc ((p,t),0)).toArray,.int .i64 (most:Int)] w (sE w0 w (.slice q E.length c) (jK most E (p,t))):=by
 intro m
 induction m with
 | zero=>intro t p w E q c hm;exact absurd (dM t) (by omega)
 | succ m ih=>
  intro t p w E q c hm hta hbel hzr hpl
  have IH:=aB ih
  have HM:=aB hm
  have HTA:=aB hta
  have HBEL:=aB hbel
  have HZ:=aB hzr
  have HPL:=aB hpl
  have hel:E.length<=maxLen:=qZ hzr
  have N1:Hid (aL6 (w.alloc (.cells (zc ((p,t),0)).toArray 56)) w.heap.size ((p,t),0)):=aD w _
  have B1:Hid (Below w.heap.size w (w.alloc (.cells (zc ((p,t),0)).toArray 56))):=bz9
  clear ih hm hta hbel hzr hpl
  simp only [zc,Fl.cells,l7,n9] at N1 B1 ⊢
  go_enter Tryz.func32,Tryz.ntmps32
  by_cases hfull:most<=E.length
  ·have e0:(most:Int)<=(E.length:Int):=by omega
   have hS:jK most E (p,t)=E:=by unfold jK;rw [show most-E.length=0 by omega,List.take_zero,l9]
   go_wp2
   go_ret
   rw [hS]
   exact⟨q,c,rfl,aK HZ.out (Fr.of_below (S:=fun _=>False) B1.out) (fun _ _ z=>z),moved.refl _ _,Fr.of_below B1.out⟩
  ·have e0:¬ (most:Int)<=(E.length:Int):=by omega
   have hlt:E.length<most:=by omega
   have KN:=aB HTA.out.node
   obtain⟨kq,kcap,hkv,hk1,hk2,hk3⟩:=HTA.out.node.k.slice
   injection hkv with hkq hkl hkc
   have HKL:=aB hkl
   have HKQ:=aB hkq
   have HK3:=aB hk3
   have hkm:t.ks.length<=9223372036854775807:=hk1
   have HLT:=aB hlt
   clear hkq hkl hkc hk3 hk1 hk2 hfull
   go_upto_region 4 with fail
   generalize (w.alloc (.cells #[.int .i64 t.f.k,.int .i64 t.f.n,.int .i64 t.f.mn,.int .i64 t.f.mx,.slice t.f.rq t.f.rs.length t.f.rc,.slice t.f.kq t.f.kl t.f.kc,.int .i64 ((p.length:Int)+1),.int .i64 (arP p),.bool (fiP p),.bool (laP p),.bool (brP p),.int .i64 0] 56))=W1 at N1 B1 ⊢
   have LB:w.heap.size<W1.heap.size:=aC N1.out
   have y0:W1.cell? ⟨w.heap.size,0,none⟩=some (.int .i64 t.f.k):=aA N1.out (i:=0) rfl
   have y1:W1.cell? ⟨w.heap.size,1,none⟩=some (.int .i64 t.f.n):=aA N1.out (i:=1) rfl
   have y2:W1.cell? ⟨w.heap.size,2,none⟩=some (.int .i64 t.f.mn):=aA N1.out (i:=2) rfl
   have y3:W1.cell? ⟨w.heap.size,3,none⟩=some (.int .i64 t.f.mx):=aA N1.out (i:=3) rfl
   have y4:W1.cell? ⟨w.heap.size,4,none⟩=some (.slice t.f.rq t.f.rs.length t.f.rc):=aA N1.out (i:=4) rfl
   have y5:W1.cell? ⟨w.heap.size,5,none⟩=some (.slice t.f.kq t.f.kl t.f.kc):=aA N1.out (i:=5) rfl
   have y6:W1.cell? ⟨w.heap.size,6,none⟩=some (.int .i64 ((p.length:Int)+1)):=aA N1.out (i:=6) rfl
   have y7:W1.cell? ⟨w.heap.size,7,none⟩=some (.int .i64 (arP p)):=aA N1.out (i:=7) rfl
   have y8:W1.cell? ⟨w.heap.size,8,none⟩=some (.bool (fiP p)):=aA N1.out (i:=8) rfl
   have y9:W1.cell? ⟨w.heap.size,9,none⟩=some (.bool (laP p)):=aA N1.out (i:=9) rfl
   have y10:W1.cell? ⟨w.heap.size,10,none⟩=some (.bool (brP p)):=aA N1.out (i:=10) rfl
   have y11:W1.cell? ⟨w.heap.size,11,none⟩=some (.int .i64 0):=aA N1.out (i:=11) rfl
   have K2:Below W1.heap.size W1 (W1.alloc (.cells #[.int .i64 t.f.k,.int .i64 t.f.n,.int .i64 t.f.mn,.int .i64 t.f.mx,.slice t.f.rq t.f.rs.length t.f.rc,.slice t.f.kq t.f.kl t.f.kc,.int .i64 ((p.length:Int)+1),.int .i64 (arP p),.bool (fiP p),.bool (laP p),.bool (brP p),.int .i64 0] 56)):=bz9
   have Z1:ZR w0.heap.size W1 (.slice q E.length c) E:=aK HZ.out (Fr.of_below (S:=fun _=>False) B1.out) (fun _ _ z=>z)
   have O2:Hid ((W1.alloc (.cells #[.int .i64 t.f.k,.int .i64 t.f.n,.int .i64 t.f.mn,.int .i64 t.f.mx,.slice t.f.rq t.f.rs.length t.f.rc,.slice t.f.kq t.f.kl t.f.kc,.int .i64 ((p.length:Int)+1),.int .i64 (arP p),.bool (fiP p),.bool (laP p),.bool (brP p),.int .i64 0] 56)).ownsRow w0.heap.size 56 12 (.slice q E.length c) E.length (cV E)):=aK Z1 (Fr.of_below (S:=fun _=>False) K2) (fun _ _ z=>z)
   have NEW:Hid (∀ j u,(zc ((p,t),0))[j]?=some u->(W1.alloc (.cells #[.int .i64 t.f.k,.int .i64 t.f.n,.int .i64 t.f.mn,.int .i64 t.f.mx,.slice t.f.rq t.f.rs.length t.f.rc,.slice t.f.kq t.f.kl t.f.kc,.int .i64 ((p.length:Int)+1),.int .i64 (arP p),.bool (fiP p),.bool (laP p),.bool (brP p),.int .i64 0] 56)).cell? ((⟨W1.heap.size,0,none⟩:Addr).add j)=some u):=fun j u hj=>(by
    rw [qK,a7]
    exact aA (aD _ _) (i:=j) (by simpa [zc,Fl.cells] using hj))
   have HB2:Hid (w0.heap.size<=(W1.alloc (.cells #[.int .i64 t.f.k,.int .i64 t.f.n,.int .i64 t.f.mn,.int .i64 t.f.mx,.slice t.f.rq t.f.rs.length t.f.rc,.slice t.f.kq t.f.kl t.f.kc,.int .i64 ((p.length:Int)+1),.int .i64 (arP p),.bool (fiP p),.bool (laP p),.bool (brP p),.int .i64 0] 56)).heap.size):=j4 HBEL.out.size (j4 B1.out.size K2.size)
   have N2:Hid (aL6 (W1.alloc (.cells #[.int .i64 t.f.k,.int .i64 t.f.n,.int .i64 t.f.mn,.int .i64 t.f.mx,.slice t.f.rq t.f.rs.length t.f.rc,.slice t.f.kq t.f.kl t.f.kc,.int .i64 ((p.length:Int)+1),.int .i64 (arP p),.bool (fiP p),.bool (laP p),.bool (brP p),.int .i64 0] 56)) w.heap.size ((p,t),0)):=(K2.block _ (aC N1.out)).trans N1.out
   have F2:Hid (Fr (fun k=>(Value.slice q E.length c).ownBlock=some k) w (W1.alloc (.cells #[.int .i64 t.f.k,.int .i64 t.f.n,.int .i64 t.f.mn,.int .i64 t.f.mx,.slice t.f.rq t.f.rs.length t.f.rc,.slice t.f.kq t.f.kl t.f.kc,.int .i64 ((p.length:Int)+1),.int .i64 (arP p),.bool (fiP p),.bool (laP p),.bool (brP p),.int .i64 0] 56))):=(Fr.of_below B1.out).then K2
   obtain⟨t0,hi,hz0,hz1,hz2⟩:=aW sT
   have hs2:(W1.alloc (.cells #[.int .i64 t.f.k,.int .i64 t.f.n,.int .i64 t.f.mn,.int .i64 t.f.mx,.slice t.f.rq t.f.rs.length t.f.rc,.slice t.f.kq t.f.kl t.f.kc,.int .i64 ((p.length:Int)+1),.int .i64 (arP p),.bool (fiP p),.bool (laP p),.bool (brP p),.int .i64 0] 56)).heap.size=W1.heap.size+1:=m8 _ _
   have HS2:=aB hs2
   clear K2 Z1 hs2
   go_upto_region 5 with (at_builtin;refine wpList_append_own_at _ rfl _ _ 38 rfl w0.heap.size 56 t0 (.agg #[.int .i64 0,.int .i64 0,.int .i64 0,.int .i64 0,.slice none 0 0,.slice none 0 0,.int .i64 0,.int .i64 0,.bool false,.bool false,.bool false,.int .i64 0]) 12 112 sM hi hz0 hz1 hz2 rfl (by decide) (.slice q E.length c) E.length (cV E) rfl O2.out ⟨W1.heap.size,0,none⟩ 1 1 (zc ((p,t),0)) rfl (by rw [iH]) NEW.out (fun v hv=>by simp [zc,Fl.cells] at hv;rcases hv with rfl | rfl | rfl | rfl | rfl | rfl | rfl | rfl | rfl | rfl | rfl | rfl <;> rfl) (by unfold maxLen;omega) (by omega) HB2.out ?_;intro v' w6 hown' hgrow _ hat;obtain⟨q6,c6,rfl⟩:=aR hown';have O6:=aB hown';have G6:=aB hgrow;have A6:=aB hat;clear hown' hgrow hat)
   have hnb:(Value.slice q E.length c).ownBlock≠some w.heap.size:=fun e=>by have:=(aG HZ.out e).2.1;omega
   have N6:aL6 w6 w.heap.size ((p,t),0):=(G6.out.block _ (aC N2.out) (fun e=>hnb e.symm)).trans N2.out
   have C7:Hid (LS w0 w (.slice q E.length c) w.heap.size w6.heap.size p t (.slice q6 (E.length+1) c6) (cB most E p t 0) (w6.alloc (.cells #[.int .i64 t.f.k,.int .i64 t.f.n,.int .i64 t.f.mn,.int .i64 t.f.mx,.slice t.f.rq t.f.rs.length t.f.rc,.slice t.f.kq t.f.kl t.f.kc] 25))):=(by
    have K7:Below w6.heap.size w6 (w6.alloc (.cells #[.int .i64 t.f.k,.int .i64 t.f.n,.int .i64 t.f.mn,.int .i64 t.f.mx,.slice t.f.rq t.f.rs.length t.f.rc,.slice t.f.kq t.f.kl t.f.kc] 25)):=bz9
    have Z6:ZR w0.heap.size w6 (.slice q6 (E.length+1) c6) (cB most E p t 0):=by
     have:=O6.out
     rw [rG HLT.out]
     unfold ZR
     rw [j3,oC,show cV [((p,t),0)]=zc ((p,t),0) by simp [cV]]
     exact this
    have mv:moved (.slice q E.length c) (.slice q6 (E.length+1) c6) w.heap.size:=by
     rcases A6.out with h | h
     ·exact .inl h
     ·exact .inr (.inr ⟨_,by rw [HS2.out];omega,h⟩)
    refine⟨(K7.block _ (aC N6)).trans N6,aD _ _,aK Z6 (Fr.of_below (S:=fun _=>False) K7) (fun _ _ z=>z),fun e=>?_,mv,(F2.out.grown G6.out (fun k hk=>hk)).then K7⟩
    rcases A6.out with h | h
    ·exact hnb (h ▸ e)
    ·rw [h] at e
     injection e with e
     rw [HS2.out] at e
     omega)
   have d0:w6.cell? ⟨w.heap.size,0,none⟩=some (.int .i64 t.f.k):=aA N6 (i:=0) rfl
   have d1:w6.cell? ⟨w.heap.size,1,none⟩=some (.int .i64 t.f.n):=aA N6 (i:=1) rfl
   have d2:w6.cell? ⟨w.heap.size,2,none⟩=some (.int .i64 t.f.mn):=aA N6 (i:=2) rfl
   have d3:w6.cell? ⟨w.heap.size,3,none⟩=some (.int .i64 t.f.mx):=aA N6 (i:=3) rfl
   have d4:w6.cell? ⟨w.heap.size,4,none⟩=some (.slice t.f.rq t.f.rs.length t.f.rc):=aA N6 (i:=4) rfl
   have d5:w6.cell? ⟨w.heap.size,5,none⟩=some (.slice t.f.kq t.f.kl t.f.kc):=aA N6 (i:=5) rfl
   have d6:w6.cell? ⟨w.heap.size,6,none⟩=some (.int .i64 ((p.length:Int)+1)):=aA N6 (i:=6) rfl
   have d7:w6.cell? ⟨w.heap.size,7,none⟩=some (.int .i64 (arP p)):=aA N6 (i:=7) rfl
   have d8:w6.cell? ⟨w.heap.size,8,none⟩=some (.bool (fiP p)):=aA N6 (i:=8) rfl
   have d9:w6.cell? ⟨w.heap.size,9,none⟩=some (.bool (laP p)):=aA N6 (i:=9) rfl
   have d10:w6.cell? ⟨w.heap.size,10,none⟩=some (.bool (brP p)):=aA N6 (i:=10) rfl
   have d11:w6.cell? ⟨w.heap.size,11,none⟩=some (.int .i64 0):=aA N6 (i:=11) rfl
   clear N2 F2 O2 G6 A6 O6 NEW HB2 hnb N6 B1 N1 HS2 y0 y1 y2 y3 y4 y5 y6 y7 y8 y9 y10 y11
   go_upto_region 7 with fail
   generalize (w6.alloc (.cells #[.int .i64 t.f.k,.int .i64 t.f.n,.int .i64 t.f.mn,.int .i64 t.f.mx,.slice t.f.rq t.f.rs.length t.f.rc,.slice t.f.kq t.f.kl t.f.kc] 25))=W7 at C7 ⊢
   generalize w6.heap.size=bn at C7 ⊢
   clear d0 d1 d2 d3 d4 d5 d6 d7 d8 d9 d10 d11
   go_loopw [9,0] (fun i v' wr=>∃ (j:Nat) (q':Option Addr) (c':Nat),j<=t.ks.length/\i=.int .i64 (j:Int)/\v'=.slice q' (cB most E p t j).length c'/\LS w0 w (.slice q E.length c) w.heap.size bn p t (.slice q' (cB most E p t j).length c') (cB most E p t j) wr) (fun i _ _=>t.ks.length-(intOf i).toNat)
   case atStart=>
    have hl0:(cB most E p t 0).length=E.length+1:=by rw [rG HLT.out,j3];rfl
    exact⟨0,q6,c6,m7 _,rfl,by rw [hl0],by rw [hl0];exact C7.out⟩
   case round=>
    clear C7
    obtain⟨j,q',c',hj,rfl,rfl,hls⟩:=hrel
    have HS:=aB hls
    have hlen:=kV (p:=p) (t:=t) (j:=j) HLT.out
    have HJ:=aB (show (cB most E p t j).length=(cB most E p t j).length from rfl)
    obtain⟨L,hL⟩:∃ L,(cB most E p t j).length=L:=⟨_,rfl⟩
    have HL:=aB hL
    have hl1:E.length<L:=by omega
    have hl2:L<=most:=by omega
    rw [hL]
    have n0:wr.cell? ⟨bn,0,none⟩=some (.int .i64 t.f.k):=hls.nb.six.1
    have n5:wr.cell? ⟨bn,5,none⟩=some (.slice t.f.kq t.f.kl t.f.kc):=hls.nb.six.2.2.2.2.2
    rw [HKL.out] at n5
    have p6:wr.cell? ⟨w.heap.size,6,none⟩=some (.int .i64 ((p.length:Int)+1)):=aA hls.pb (i:=6) rfl
    have p10:wr.cell? ⟨w.heap.size,10,none⟩=some (.bool (brP p)):=aA hls.pb (i:=10) rfl
    have hpl:=HPL.out
    clear hls hlen hL
    by_cases hjl:j<t.ks.length
    ·have i0:(j:Int)<(t.ks.length:Int):=by omega
     by_cases hll:L<most
     ·have l0:(L:Int)<(most:Int):=by omega
      obtain⟨u,hu⟩:∃ u,t.ks[j]?=some u:=⟨_,b7 hjl⟩
      obtain⟨g2,off,hq2,hg2,hsix⟩:=HK3.out j u hu
      have BW:=HS.out.bel HBEL.out HZ.out
      obtain⟨k0,k1,k2,k3,k4,k5⟩:=hsix.ck (CK.of_below BW) hg2
      have lg2:g2<wr.heap.size:=j2 hg2 BW.size
      have lbn:=aC HS.out.nb
      have lbp:=aC HS.out.pb
      have HU:=aB hu
      have HBW:=aB BW
      rw [HKQ.out,hq2] at n5
      clear hsix hu hg2 BW
      go_upto_region 9 with fail
      go_region_held (fun V=>V.cell? ⟨bn,0,none⟩=some (.int .i64 t.f.k)/\V.cell? ⟨bn,5,none⟩=some (.slice (some ⟨g2,off,none⟩) t.ks.length t.f.kc)/\V.cell? ⟨w.heap.size,6,none⟩=some (.int .i64 ((p.length:Int)+1))/\V.cell? ⟨g2,off+j*6,none⟩=some (.int .i64 u.f.k)/\V.cell? ⟨g2,off+j*6+1,none⟩=some (.int .i64 u.f.n)/\V.cell? ⟨g2,off+j*6+2,none⟩=some (.int .i64 u.f.mn)/\V.cell? ⟨g2,off+j*6+3,none⟩=some (.int .i64 u.f.mx)/\V.cell? ⟨g2,off+j*6+4,none⟩=some (.slice u.f.rq u.f.rs.length u.f.rc)/\V.cell? ⟨g2,off+j*6+5,none⟩=some (.slice u.f.kq u.f.kl u.f.kc)) (go_keep) (fail)
      have hw1:IntKind.i64.wrap ((p.length:Int)+1+1)=(p.length:Int)+1+1:=by rw [IntKind.wrap_i64];have:=hmost;omega
      have hw2:IntKind.i64.wrap ((t.ks.length:Int)-1)=(t.ks.length:Int)-1:=by rw [IntKind.wrap_i64];have:=hmost;omega
      rw [hw1,hw2]
      have N8:(wr.alloc (.cells #[.int .i64 u.f.k,.int .i64 u.f.n,.int .i64 u.f.mn,.int .i64 u.f.mx,.slice u.f.rq u.f.rs.length u.f.rc,.slice u.f.kq u.f.kl u.f.kc,.int .i64 ((p.length:Int)+1+1),.int .i64 t.f.k,.bool ((j:Int)==0),.bool ((j:Int)==(t.ks.length:Int)-1),.bool false,.int .i64 0] 56)).drew.heap[wr.heap.size]?=some (.cells #[.int .i64 u.f.k,.int .i64 u.f.n,.int .i64 u.f.mn,.int .i64 u.f.mx,.slice u.f.rq u.f.rs.length u.f.rc,.slice u.f.kq u.f.kl u.f.kc,.int .i64 ((p.length:Int)+1+1),.int .i64 t.f.k,.bool ((j:Int)==0),.bool ((j:Int)==(t.ks.length:Int)-1),.bool false,.int .i64 0] 56 (0,0)):=aD wr _
      have B8:Below wr.heap.size wr (wr.alloc (.cells #[.int .i64 u.f.k,.int .i64 u.f.n,.int .i64 u.f.mn,.int .i64 u.f.mx,.slice u.f.rq u.f.rs.length u.f.rc,.slice u.f.kq u.f.kl u.f.kc,.int .i64 ((p.length:Int)+1+1),.int .i64 t.f.k,.bool ((j:Int)==0),.bool ((j:Int)==(t.ks.length:Int)-1),.bool false,.int .i64 0] 56)).drew:=(bz9).drew
      have y0:(wr.alloc (.cells #[.int .i64 u.f.k,.int .i64 u.f.n,.int .i64 u.f.mn,.int .i64 u.f.mx,.slice u.f.rq u.f.rs.length u.f.rc,.slice u.f.kq u.f.kl u.f.kc,.int .i64 ((p.length:Int)+1+1),.int .i64 t.f.k,.bool ((j:Int)==0),.bool ((j:Int)==(t.ks.length:Int)-1),.bool false,.int .i64 0] 56)).drew.cell? ⟨bn,0,none⟩=some (.int .i64 t.f.k):=(B8.cell (p:=⟨bn,0,none⟩) lbn).trans n0
      have y10:(wr.alloc (.cells #[.int .i64 u.f.k,.int .i64 u.f.n,.int .i64 u.f.mn,.int .i64 u.f.mx,.slice u.f.rq u.f.rs.length u.f.rc,.slice u.f.kq u.f.kl u.f.kc,.int .i64 ((p.length:Int)+1+1),.int .i64 t.f.k,.bool ((j:Int)==0),.bool ((j:Int)==(t.ks.length:Int)-1),.bool false,.int .i64 0] 56)).drew.cell? ⟨w.heap.size,10,none⟩=some (.bool (brP p)):=(B8.cell (p:=⟨w.heap.size,10,none⟩) lbp).trans p10
      generalize (wr.alloc (.cells #[.int .i64 u.f.k,.int .i64 u.f.n,.int .i64 u.f.mn,.int .i64 u.f.mx,.slice u.f.rq u.f.rs.length u.f.rc,.slice u.f.kq u.f.kl u.f.kc,.int .i64 ((p.length:Int)+1+1),.int .i64 t.f.k,.bool ((j:Int)==0),.bool ((j:Int)==(t.ks.length:Int)-1),.bool false,.int .i64 0] 56)).drew=V1 at N8 B8 y0 y10 ⊢
      obtain⟨bk,hbk⟩:∃ bk,wr.heap.size=bk:=⟨_,rfl⟩
      rw [hbk] at N8 ⊢
      have hkb:wr.heap.size<=bk:=by omega
      have f10:=aJ N8 10
      have y11:=aA N8 (i:=10) rfl
      have HN8:=aB N8
      have HB8:=aB B8
      clear N8 B8 hbk hw1 hw2 n0 n5 p6 p10 k0 k1 k2 k3 k4 k5 lg2
      have e7:(t.f.k==7)=decide (t.f.k=7):=rfl
      by_cases h7:t.f.k=7
      ·have HBR:=aB (show brP ((t,j) :: p)=true by simp [brP,h7])
       have e1:(t.f.k==7)=true:=by simpa using h7
       clear h7 e7
       have N2:(V1.setCell ⟨bk,10,none⟩ (.bool true)).heap[bk]?=some (.cells #[.int .i64 u.f.k,.int .i64 u.f.n,.int .i64 u.f.mn,.int .i64 u.f.mx,.slice u.f.rq u.f.rs.length u.f.rc,.slice u.f.kq u.f.kl u.f.kc,.int .i64 ((p.length:Int)+1+1),.int .i64 t.f.k,.bool ((j:Int)==0),.bool ((j:Int)==(t.ks.length:Int)-1),.bool true,.int .i64 0] 56 (0,0)):=aM HN8.out 10 (.bool true)
       have B2:Below wr.heap.size wr (V1.setCell ⟨bk,10,none⟩ (.bool true)):=Below.setCell HB8.out hkb _
       have z0:(V1.setCell ⟨bk,10,none⟩ (.bool true)).cell? ⟨bk,0,none⟩=some (.int .i64 u.f.k):=aA N2 (i:=0) rfl
       have z1:(V1.setCell ⟨bk,10,none⟩ (.bool true)).cell? ⟨bk,1,none⟩=some (.int .i64 u.f.n):=aA N2 (i:=1) rfl
       have z2:(V1.setCell ⟨bk,10,none⟩ (.bool true)).cell? ⟨bk,2,none⟩=some (.int .i64 u.f.mn):=aA N2 (i:=2) rfl
       have z3:(V1.setCell ⟨bk,10,none⟩ (.bool true)).cell? ⟨bk,3,none⟩=some (.int .i64 u.f.mx):=aA N2 (i:=3) rfl
       have z4:(V1.setCell ⟨bk,10,none⟩ (.bool true)).cell? ⟨bk,4,none⟩=some (.slice u.f.rq u.f.rs.length u.f.rc):=aA N2 (i:=4) rfl
       have z5:(V1.setCell ⟨bk,10,none⟩ (.bool true)).cell? ⟨bk,5,none⟩=some (.slice u.f.kq u.f.kl u.f.kc):=aA N2 (i:=5) rfl
       have z6:(V1.setCell ⟨bk,10,none⟩ (.bool true)).cell? ⟨bk,6,none⟩=some (.int .i64 ((p.length:Int)+1+1)):=aA N2 (i:=6) rfl
       have z7:(V1.setCell ⟨bk,10,none⟩ (.bool true)).cell? ⟨bk,7,none⟩=some (.int .i64 t.f.k):=aA N2 (i:=7) rfl
       have z8:(V1.setCell ⟨bk,10,none⟩ (.bool true)).cell? ⟨bk,8,none⟩=some (.bool ((j:Int)==0)):=aA N2 (i:=8) rfl
       have z9:(V1.setCell ⟨bk,10,none⟩ (.bool true)).cell? ⟨bk,9,none⟩=some (.bool ((j:Int)==(t.ks.length:Int)-1)):=aA N2 (i:=9) rfl
       have z10:(V1.setCell ⟨bk,10,none⟩ (.bool true)).cell? ⟨bk,10,none⟩=some (.bool true):=aA N2 (i:=10) rfl
       have z11:(V1.setCell ⟨bk,10,none⟩ (.bool true)).cell? ⟨bk,11,none⟩=some (.int .i64 0):=aA N2 (i:=11) rfl
       have IHU:Hid (Calls Tryz.prog 32 #[.slice q' L c',.agg #[.int .i64 u.f.k,.int .i64 u.f.n,.int .i64 u.f.mn,.int .i64 u.f.mx,.slice u.f.rq u.f.rs.length u.f.rc,.slice u.f.kq u.f.kl u.f.kc,.int .i64 ((p.length:Int)+1+1),.int .i64 t.f.k,.bool ((j:Int)==0),.bool ((j:Int)==(t.ks.length:Int)-1),.bool true,.int .i64 0],.int .i64 (most:Int)] (V1.setCell ⟨bk,10,none⟩ (.bool true)) (sE w0 (V1.setCell ⟨bk,10,none⟩ (.bool true)) (.slice q' L c') (cB most E p t (j+1)))):=(by
        have h:=IH.out u ((t,j) :: p) (V1.setCell ⟨bk,10,none⟩ (.bool true)) (cB most E p t j) q' c' (by have:=bW (i5 HU.out);have:=HM.out;omega) (HTA.out.kid (i5 HU.out)) (aF HBW.out B2 lz9) (HS.out.kept B2).row (by rw [HL.out,i9];omega)
        rw [jE HLT.out HU.out (by rw [HL.out];exact hll),HL.out] at h
        have e:(zc (((t,j) :: p,u),0)).toArray=#[.int .i64 u.f.k,.int .i64 u.f.n,.int .i64 u.f.mn,.int .i64 u.f.mx,.slice u.f.rq u.f.rs.length u.f.rc,.slice u.f.kq u.f.kl u.f.kc,.int .i64 ((p.length:Int)+1+1),.int .i64 t.f.k,.bool ((j:Int)==0),.bool ((j:Int)==(t.ks.length:Int)-1),.bool true,.int .i64 0]:=(by simp [zc,Fl.cells,arP,fiP,laP,HBR.out])
        rw [e] at h
        exact h)
       have S2:=aB (HS.out.kept B2)
       clear N2 B2
       go_wp2_with (go_at_call 32;(with_reducible refine(IHU.out).mono ?_);rintro e w9 ⟨q9,c9,rfl,h91,h92,h93⟩;have S9:=aB (S2.out.next h91 (by rw [HL.out];exact h92) (by rw [HL.out];exact h93));clear h91 h92 h93)
       go_roundw
       case rel=>exact⟨j+1,q9,c9,by omega,by go_num,rfl,S9.out⟩
       case measure=>simp only [intOf];omega
      ·have e1:(t.f.k==7)=false:=by simpa using h7
       by_cases h6:t.f.k=6
       ·have HBR:=aB (show brP ((t,j) :: p)=true by simp [brP,h6])
        have e2:(t.f.k==6)=true:=by simpa using h6
        clear h7 h6 e7
        have N2:(V1.setCell ⟨bk,10,none⟩ (.bool true)).heap[bk]?=some (.cells #[.int .i64 u.f.k,.int .i64 u.f.n,.int .i64 u.f.mn,.int .i64 u.f.mx,.slice u.f.rq u.f.rs.length u.f.rc,.slice u.f.kq u.f.kl u.f.kc,.int .i64 ((p.length:Int)+1+1),.int .i64 t.f.k,.bool ((j:Int)==0),.bool ((j:Int)==(t.ks.length:Int)-1),.bool true,.int .i64 0] 56 (0,0)):=aM HN8.out 10 (.bool true)
        have B2:Below wr.heap.size wr (V1.setCell ⟨bk,10,none⟩ (.bool true)):=Below.setCell HB8.out hkb _
        have z0:(V1.setCell ⟨bk,10,none⟩ (.bool true)).cell? ⟨bk,0,none⟩=some (.int .i64 u.f.k):=aA N2 (i:=0) rfl
        have z1:(V1.setCell ⟨bk,10,none⟩ (.bool true)).cell? ⟨bk,1,none⟩=some (.int .i64 u.f.n):=aA N2 (i:=1) rfl
        have z2:(V1.setCell ⟨bk,10,none⟩ (.bool true)).cell? ⟨bk,2,none⟩=some (.int .i64 u.f.mn):=aA N2 (i:=2) rfl
        have z3:(V1.setCell ⟨bk,10,none⟩ (.bool true)).cell? ⟨bk,3,none⟩=some (.int .i64 u.f.mx):=aA N2 (i:=3) rfl
        have z4:(V1.setCell ⟨bk,10,none⟩ (.bool true)).cell? ⟨bk,4,none⟩=some (.slice u.f.rq u.f.rs.length u.f.rc):=aA N2 (i:=4) rfl
        have z5:(V1.setCell ⟨bk,10,none⟩ (.bool true)).cell? ⟨bk,5,none⟩=some (.slice u.f.kq u.f.kl u.f.kc):=aA N2 (i:=5) rfl
        have z6:(V1.setCell ⟨bk,10,none⟩ (.bool true)).cell? ⟨bk,6,none⟩=some (.int .i64 ((p.length:Int)+1+1)):=aA N2 (i:=6) rfl
        have z7:(V1.setCell ⟨bk,10,none⟩ (.bool true)).cell? ⟨bk,7,none⟩=some (.int .i64 t.f.k):=aA N2 (i:=7) rfl
        have z8:(V1.setCell ⟨bk,10,none⟩ (.bool true)).cell? ⟨bk,8,none⟩=some (.bool ((j:Int)==0)):=aA N2 (i:=8) rfl
        have z9:(V1.setCell ⟨bk,10,none⟩ (.bool true)).cell? ⟨bk,9,none⟩=some (.bool ((j:Int)==(t.ks.length:Int)-1)):=aA N2 (i:=9) rfl
        have z10:(V1.setCell ⟨bk,10,none⟩ (.bool true)).cell? ⟨bk,10,none⟩=some (.bool true):=aA N2 (i:=10) rfl
        have z11:(V1.setCell ⟨bk,10,none⟩ (.bool true)).cell? ⟨bk,11,none⟩=some (.int .i64 0):=aA N2 (i:=11) rfl
        have IHU:Hid (Calls Tryz.prog 32 #[.slice q' L c',.agg #[.int .i64 u.f.k,.int .i64 u.f.n,.int .i64 u.f.mn,.int .i64 u.f.mx,.slice u.f.rq u.f.rs.length u.f.rc,.slice u.f.kq u.f.kl u.f.kc,.int .i64 ((p.length:Int)+1+1),.int .i64 t.f.k,.bool ((j:Int)==0),.bool ((j:Int)==(t.ks.length:Int)-1),.bool true,.int .i64 0],.int .i64 (most:Int)] (V1.setCell ⟨bk,10,none⟩ (.bool true)) (sE w0 (V1.setCell ⟨bk,10,none⟩ (.bool true)) (.slice q' L c') (cB most E p t (j+1)))):=(by
         have h:=IH.out u ((t,j) :: p) (V1.setCell ⟨bk,10,none⟩ (.bool true)) (cB most E p t j) q' c' (by have:=bW (i5 HU.out);have:=HM.out;omega) (HTA.out.kid (i5 HU.out)) (aF HBW.out B2 lz9) (HS.out.kept B2).row (by rw [HL.out,i9];omega)
         rw [jE HLT.out HU.out (by rw [HL.out];exact hll),HL.out] at h
         have e:(zc (((t,j) :: p,u),0)).toArray=#[.int .i64 u.f.k,.int .i64 u.f.n,.int .i64 u.f.mn,.int .i64 u.f.mx,.slice u.f.rq u.f.rs.length u.f.rc,.slice u.f.kq u.f.kl u.f.kc,.int .i64 ((p.length:Int)+1+1),.int .i64 t.f.k,.bool ((j:Int)==0),.bool ((j:Int)==(t.ks.length:Int)-1),.bool true,.int .i64 0]:=(by simp [zc,Fl.cells,arP,fiP,laP,HBR.out])
         rw [e] at h
         exact h)
        have S2:=aB (HS.out.kept B2)
        clear N2 B2
        go_wp2_with (go_at_call 32;(with_reducible refine(IHU.out).mono ?_);rintro e w9 ⟨q9,c9,rfl,h91,h92,h93⟩;have S9:=aB (S2.out.next h91 (by rw [HL.out];exact h92) (by rw [HL.out];exact h93));clear h91 h92 h93)
        go_roundw
        case rel=>exact⟨j+1,q9,c9,by omega,by go_num,rfl,S9.out⟩
        case measure=>simp only [intOf];omega
       ·have e2:(t.f.k==6)=false:=by simpa using h6
        by_cases h5:t.f.k=5
        ·have HBR:=aB (show brP ((t,j) :: p)=brP p by simp [brP,h5])
         have e3:(t.f.k==5)=true:=by simpa using h5
         clear h7 h6 h5 e7
         have N2:(V1.setCell ⟨bk,10,none⟩ (.bool (brP p))).heap[bk]?=some (.cells #[.int .i64 u.f.k,.int .i64 u.f.n,.int .i64 u.f.mn,.int .i64 u.f.mx,.slice u.f.rq u.f.rs.length u.f.rc,.slice u.f.kq u.f.kl u.f.kc,.int .i64 ((p.length:Int)+1+1),.int .i64 t.f.k,.bool ((j:Int)==0),.bool ((j:Int)==(t.ks.length:Int)-1),.bool (brP p),.int .i64 0] 56 (0,0)):=aM HN8.out 10 (.bool (brP p))
         have B2:Below wr.heap.size wr (V1.setCell ⟨bk,10,none⟩ (.bool (brP p))):=Below.setCell HB8.out hkb _
         have z0:(V1.setCell ⟨bk,10,none⟩ (.bool (brP p))).cell? ⟨bk,0,none⟩=some (.int .i64 u.f.k):=aA N2 (i:=0) rfl
         have z1:(V1.setCell ⟨bk,10,none⟩ (.bool (brP p))).cell? ⟨bk,1,none⟩=some (.int .i64 u.f.n):=aA N2 (i:=1) rfl
         have z2:(V1.setCell ⟨bk,10,none⟩ (.bool (brP p))).cell? ⟨bk,2,none⟩=some (.int .i64 u.f.mn):=aA N2 (i:=2) rfl
         have z3:(V1.setCell ⟨bk,10,none⟩ (.bool (brP p))).cell? ⟨bk,3,none⟩=some (.int .i64 u.f.mx):=aA N2 (i:=3) rfl
         have z4:(V1.setCell ⟨bk,10,none⟩ (.bool (brP p))).cell? ⟨bk,4,none⟩=some (.slice u.f.rq u.f.rs.length u.f.rc):=aA N2 (i:=4) rfl
         have z5:(V1.setCell ⟨bk,10,none⟩ (.bool (brP p))).cell? ⟨bk,5,none⟩=some (.slice u.f.kq u.f.kl u.f.kc):=aA N2 (i:=5) rfl
         have z6:(V1.setCell ⟨bk,10,none⟩ (.bool (brP p))).cell? ⟨bk,6,none⟩=some (.int .i64 ((p.length:Int)+1+1)):=aA N2 (i:=6) rfl
         have z7:(V1.setCell ⟨bk,10,none⟩ (.bool (brP p))).cell? ⟨bk,7,none⟩=some (.int .i64 t.f.k):=aA N2 (i:=7) rfl
         have z8:(V1.setCell ⟨bk,10,none⟩ (.bool (brP p))).cell? ⟨bk,8,none⟩=some (.bool ((j:Int)==0)):=aA N2 (i:=8) rfl
         have z9:(V1.setCell ⟨bk,10,none⟩ (.bool (brP p))).cell? ⟨bk,9,none⟩=some (.bool ((j:Int)==(t.ks.length:Int)-1)):=aA N2 (i:=9) rfl
         have z10:(V1.setCell ⟨bk,10,none⟩ (.bool (brP p))).cell? ⟨bk,10,none⟩=some (.bool (brP p)):=aA N2 (i:=10) rfl
         have z11:(V1.setCell ⟨bk,10,none⟩ (.bool (brP p))).cell? ⟨bk,11,none⟩=some (.int .i64 0):=aA N2 (i:=11) rfl
         have IHU:Hid (Calls Tryz.prog 32 #[.slice q' L c',.agg #[.int .i64 u.f.k,.int .i64 u.f.n,.int .i64 u.f.mn,.int .i64 u.f.mx,.slice u.f.rq u.f.rs.length u.f.rc,.slice u.f.kq u.f.kl u.f.kc,.int .i64 ((p.length:Int)+1+1),.int .i64 t.f.k,.bool ((j:Int)==0),.bool ((j:Int)==(t.ks.length:Int)-1),.bool (brP p),.int .i64 0],.int .i64 (most:Int)] (V1.setCell ⟨bk,10,none⟩ (.bool (brP p))) (sE w0 (V1.setCell ⟨bk,10,none⟩ (.bool (brP p))) (.slice q' L c') (cB most E p t (j+1)))):=(by
          have h:=IH.out u ((t,j) :: p) (V1.setCell ⟨bk,10,none⟩ (.bool (brP p))) (cB most E p t j) q' c' (by have:=bW (i5 HU.out);have:=HM.out;omega) (HTA.out.kid (i5 HU.out)) (aF HBW.out B2 lz9) (HS.out.kept B2).row (by rw [HL.out,i9];omega)
          rw [jE HLT.out HU.out (by rw [HL.out];exact hll),HL.out] at h
          have e:(zc (((t,j) :: p,u),0)).toArray=#[.int .i64 u.f.k,.int .i64 u.f.n,.int .i64 u.f.mn,.int .i64 u.f.mx,.slice u.f.rq u.f.rs.length u.f.rc,.slice u.f.kq u.f.kl u.f.kc,.int .i64 ((p.length:Int)+1+1),.int .i64 t.f.k,.bool ((j:Int)==0),.bool ((j:Int)==(t.ks.length:Int)-1),.bool (brP p),.int .i64 0]:=(by simp [zc,Fl.cells,arP,fiP,laP,HBR.out])
          rw [e] at h
          exact h)
         have S2:=aB (HS.out.kept B2)
         clear N2 B2
         go_wp2_with (go_at_call 32;(with_reducible refine(IHU.out).mono ?_);rintro e w9 ⟨q9,c9,rfl,h91,h92,h93⟩;have S9:=aB (S2.out.next h91 (by rw [HL.out];exact h92) (by rw [HL.out];exact h93));clear h91 h92 h93)
         go_roundw
         case rel=>exact⟨j+1,q9,c9,by omega,by go_num,rfl,S9.out⟩
         case measure=>simp only [intOf];omega
        ·have HBR:=aB (show brP ((t,j) :: p)=false by simp [brP,h7,h6,h5])
         have e3:(t.f.k==5)=false:=by simpa using h5
         clear h7 h6 h5 e7
         have N2:V1.heap[bk]?=some (.cells #[.int .i64 u.f.k,.int .i64 u.f.n,.int .i64 u.f.mn,.int .i64 u.f.mx,.slice u.f.rq u.f.rs.length u.f.rc,.slice u.f.kq u.f.kl u.f.kc,.int .i64 ((p.length:Int)+1+1),.int .i64 t.f.k,.bool ((j:Int)==0),.bool ((j:Int)==(t.ks.length:Int)-1),.bool false,.int .i64 0] 56 (0,0)):=HN8.out
         have B2:Below wr.heap.size wr V1:=HB8.out
         have z0:V1.cell? ⟨bk,0,none⟩=some (.int .i64 u.f.k):=aA N2 (i:=0) rfl
         have z1:V1.cell? ⟨bk,1,none⟩=some (.int .i64 u.f.n):=aA N2 (i:=1) rfl
         have z2:V1.cell? ⟨bk,2,none⟩=some (.int .i64 u.f.mn):=aA N2 (i:=2) rfl
         have z3:V1.cell? ⟨bk,3,none⟩=some (.int .i64 u.f.mx):=aA N2 (i:=3) rfl
         have z4:V1.cell? ⟨bk,4,none⟩=some (.slice u.f.rq u.f.rs.length u.f.rc):=aA N2 (i:=4) rfl
         have z5:V1.cell? ⟨bk,5,none⟩=some (.slice u.f.kq u.f.kl u.f.kc):=aA N2 (i:=5) rfl
         have z6:V1.cell? ⟨bk,6,none⟩=some (.int .i64 ((p.length:Int)+1+1)):=aA N2 (i:=6) rfl
         have z7:V1.cell? ⟨bk,7,none⟩=some (.int .i64 t.f.k):=aA N2 (i:=7) rfl
         have z8:V1.cell? ⟨bk,8,none⟩=some (.bool ((j:Int)==0)):=aA N2 (i:=8) rfl
         have z9:V1.cell? ⟨bk,9,none⟩=some (.bool ((j:Int)==(t.ks.length:Int)-1)):=aA N2 (i:=9) rfl
         have z10:V1.cell? ⟨bk,10,none⟩=some (.bool false):=aA N2 (i:=10) rfl
         have z11:V1.cell? ⟨bk,11,none⟩=some (.int .i64 0):=aA N2 (i:=11) rfl
         have IHU:Hid (Calls Tryz.prog 32 #[.slice q' L c',.agg #[.int .i64 u.f.k,.int .i64 u.f.n,.int .i64 u.f.mn,.int .i64 u.f.mx,.slice u.f.rq u.f.rs.length u.f.rc,.slice u.f.kq u.f.kl u.f.kc,.int .i64 ((p.length:Int)+1+1),.int .i64 t.f.k,.bool ((j:Int)==0),.bool ((j:Int)==(t.ks.length:Int)-1),.bool false,.int .i64 0],.int .i64 (most:Int)] V1 (sE w0 V1 (.slice q' L c') (cB most E p t (j+1)))):=(by
          have h:=IH.out u ((t,j) :: p) V1 (cB most E p t j) q' c' (by have:=bW (i5 HU.out);have:=HM.out;omega) (HTA.out.kid (i5 HU.out)) (aF HBW.out B2 lz9) (HS.out.kept B2).row (by rw [HL.out,i9];omega)
          rw [jE HLT.out HU.out (by rw [HL.out];exact hll),HL.out] at h
          have e:(zc (((t,j) :: p,u),0)).toArray=#[.int .i64 u.f.k,.int .i64 u.f.n,.int .i64 u.f.mn,.int .i64 u.f.mx,.slice u.f.rq u.f.rs.length u.f.rc,.slice u.f.kq u.f.kl u.f.kc,.int .i64 ((p.length:Int)+1+1),.int .i64 t.f.k,.bool ((j:Int)==0),.bool ((j:Int)==(t.ks.length:Int)-1),.bool false,.int .i64 0]:=(by simp [zc,Fl.cells,arP,fiP,laP,HBR.out])
          rw [e] at h
          exact h)
         have S2:=aB (HS.out.kept B2)
         clear N2 B2
         go_wp2_with (go_at_call 32;(with_reducible refine(IHU.out).mono ?_);rintro e w9 ⟨q9,c9,rfl,h91,h92,h93⟩;have S9:=aB (S2.out.next h91 (by rw [HL.out];exact h92) (by rw [HL.out];exact h93));clear h91 h92 h93)
         go_roundw
         case rel=>exact⟨j+1,q9,c9,by omega,by go_num,rfl,S9.out⟩
         case measure=>simp only [intOf];omega
     ·have l0:¬ (L:Int)<(most:Int):=by omega
      have hfl:=wZ (j:=j) (p:=p) (t:=t) HLT.out (by rw [HL.out];exact hll)
      have S9:=HS.out
      rw [HL.out] at S9
      obtain⟨gg,cc,hq9⟩:=aN (n:=L) (by have:=S9.row;unfold ZR at this;rw [HL.out] at this;exact this) (by omega)
      injection hq9 with hq91 _ hq92
      subst hq91 hq92
      have R9:wr.ownsRow w0.heap.size 56 12 (.slice (some ⟨gg,0,none⟩) L c') L (cV (cB most E p t j)):=(by have:=S9.row;unfold ZR at this;rw [HL.out] at this;exact this)
      obtain⟨-,-,cur9,hcur9⟩:=aG R9 (g:=gg) rfl
      have hz9:(cV (cB most E p t j))[E.length*12+11]?=some (.int .i64 0):=by rw [iB _ E.length 11 ((p,t),0) (jF HLT.out) (by omega)];simp [zc,Fl.cells]
      have z9:wr.cell? ⟨gg,E.length*12+11,none⟩=some (.int .i64 0):=bM R9 hz9
      have f9:=aJ hcur9 (E.length*12+11)
      have RF:=aB (show sE w0 w (.slice q E.length c) (jK most E (p,t)) (.returned (.slice (some ⟨gg,0,none⟩) L c')) (wr.setCell ⟨gg,E.length*12+11,none⟩ (.int .i64 (L:Int))) by
       have hlen2:(jK most E (p,t)).length=L:=by rw [<- kW HLT.out,List.length_set,<- hfl,HL.out]
       have h1:=oH R9 (E.length*12+11) (.int .i64 (L:Int))
       rw [jZ _ E.length (p,t) 0 L (jF HLT.out)] at h1
       have h2:(cB most E p t j).set E.length ((p,t),L)=jK most E (p,t):=by rw [<- kW HLT.out,<- hfl,HL.out]
       rw [h2] at h1
       refine⟨some ⟨gg,0,none⟩,c',by rw [hlen2],by unfold ZR;rw [hlen2];exact h1,by rw [hlen2];exact S9.mv,S9.fr.step8 ((Fr.refl (fun z=>z=gg) wr).setCell (p:=⟨gg,E.length*12+11,none⟩) rfl _) (fun i hi e=>kS S9.mv hi (by rw [e];rfl))⟩)
      have hb1:(E.length:Int)<(L:Int):=by omega
      have hb2:(0:Int)<=(E.length:Int):=by omega
      clear hz9 hcur9 R9 S9 hfl
      go_wp2
      go_ret
      exact RF.out
    ·have i0:¬ (j:Int)<(t.ks.length:Int):=by omega
     have hfl:cB most E p t j=cB most E p t t.ks.length:=by rw [show j=t.ks.length by omega]
     have S9:=HS.out
     rw [HL.out] at S9
     obtain⟨gg,cc,hq9⟩:=aN (n:=L) (by have:=S9.row;unfold ZR at this;rw [HL.out] at this;exact this) (by omega)
     injection hq9 with hq91 _ hq92
     subst hq91 hq92
     have R9:wr.ownsRow w0.heap.size 56 12 (.slice (some ⟨gg,0,none⟩) L c') L (cV (cB most E p t j)):=(by have:=S9.row;unfold ZR at this;rw [HL.out] at this;exact this)
     obtain⟨-,-,cur9,hcur9⟩:=aG R9 (g:=gg) rfl
     have hz9:(cV (cB most E p t j))[E.length*12+11]?=some (.int .i64 0):=by rw [iB _ E.length 11 ((p,t),0) (jF HLT.out) (by omega)];simp [zc,Fl.cells]
     have z9:wr.cell? ⟨gg,E.length*12+11,none⟩=some (.int .i64 0):=bM R9 hz9
     have f9:=aJ hcur9 (E.length*12+11)
     have RF:=aB (show sE w0 w (.slice q E.length c) (jK most E (p,t)) (.returned (.slice (some ⟨gg,0,none⟩) L c')) (wr.setCell ⟨gg,E.length*12+11,none⟩ (.int .i64 (L:Int))) by
      have hlen2:(jK most E (p,t)).length=L:=by rw [<- kW HLT.out,List.length_set,<- hfl,HL.out]
      have h1:=oH R9 (E.length*12+11) (.int .i64 (L:Int))
      rw [jZ _ E.length (p,t) 0 L (jF HLT.out)] at h1
      have h2:(cB most E p t j).set E.length ((p,t),L)=jK most E (p,t):=by rw [<- kW HLT.out,<- hfl,HL.out]
      rw [h2] at h1
      refine⟨some ⟨gg,0,none⟩,c',by rw [hlen2],by unfold ZR;rw [hlen2];exact h1,by rw [hlen2];exact S9.mv,S9.fr.step8 ((Fr.refl (fun z=>z=gg) wr).setCell (p:=⟨gg,E.length*12+11,none⟩) rfl _) (fun i hi e=>kS S9.mv hi (by rw [e];rfl))⟩)
     have hb1:(E.length:Int)<(L:Int):=by omega
     have hb2:(0:Int)<=(E.length:Int):=by omega
     clear hz9 hcur9 R9 S9 hfl
     go_wp2
     go_ret
     exact RF.out
end Go.Proofs.YtlamifbjklpdbaaGreat
