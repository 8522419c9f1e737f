/-
  Parts of the proof.
-/
import Derived.Test.YtlamifbjklpdbaaGreatSameProofA0
import Derived.Test.YtlamifbjklpdbaaGreatSameProofB9
import Derived.Test.YtlamifbjklpdbaaGreatSameProofB0
import Derived.Deep.RegionHeld
set_option linter.unusedSimpArgs false
set_option maxRecDepth 100000
set_option maxHeartbeats 8000000
namespace Go.Proofs.YtlamifbjklpdbaaGreat
open Go Go.RowKit
theorem wI:Tryz.prog.underlying 38=some (.slice 56):=by kernel_rfl
theorem wQ:(Tryz.prog.info? 56).map (fun i=>(i.zero,i.size,i.bytes))=some (some (.agg #[.int .i64 0,.int .i64 0,.int .i64 0,.int .i64 0,.slice none 0 0,.slice none 0 0,.int .i64 0,.int .i64 0,.bool false,.bool false,.bool false,.int .i64 0]),12,112):=by kernel_rfl
theorem rB{W:World}{base g n cap size:Nat}{t:TypeId}{xs:List Value}(h:W.ownsRow base t size (.slice (some ⟨g,0,none⟩) n cap) n xs)(i:Nat)(x:Value):(W.setCell ⟨g,i,none⟩ x).ownsRow base t size (.slice (some ⟨g,0,none⟩) n cap) n (xs.set i x):=by
 rcases h with⟨h1,⟨q,_⟩ | ⟨g',c,cur,q1,q2,q3,q4,q5,q6,q7⟩⟩
 ·cases q
 ·cases q1
  refine⟨by rw [aAQ];exact h1,.inr ⟨g,cap,cur.setIfInBounds i x,rfl,q2,aJ q3 i _,q4,q5,by simpa using q6,?_⟩⟩
  rw [<- q7,Array.toList_setIfInBounds,List.take_set]
def bD6(W:World)(b:Nat)(z:Zl):Prop:=W.heap[b]?=some (.cells (zc z).toArray 56 (0,0))
def ZR(base:Nat)(W:World)(v:Value)(E:List Zl):Prop:=W.ownsRow base 56 12 v E.length (dE E)
def wF(w0 w:World)(v:Value)(E':List Zl)(e:Ending)(w':World):Prop:=∃ q' c',e=.returned (.slice q' E'.length c')/\ZR w0.heap.size w' (.slice q' E'.length c') E'/\moved v (.slice q' E'.length c') w.heap.size/\Fr (fun k=>v.ownBlock=some k) w w'
structure LS(w0 w:World)(v:Value)(bp bn:Nat)(p:Way)(t:Tr)(v':Value)(E':List Zl)(W:World):Prop where
 pb:bD6 W bp ((p,t),0)
 nb:BoxN W bn t.f
 row:ZR w0.heap.size W v' E'
 apart:v'.ownBlock≠some bp
 mv:moved v v' w.heap.size
 fr:Fr (fun k=>v.ownBlock=some k) w W
theorem Fr.step8{S T:Nat->Prop}{w V W:World}(h:Fr S w V)(k:Fr T V W)(hst:∀ i,i<w.heap.size->T i->S i):Fr S w W:=
 ⟨k.os.trans h.os,k.tape.trans h.tape,k.output.trans h.output,o0 h.size k.size,fun i hi hs=>(k.block i (o8 hi h.size) (fun ht=>hs (hst i hi ht))).trans (h.block i hi hs)⟩
theorem LS.kept{w0 w W W':World}{v v':Value}{bp bn:Nat}{p:Way}{t:Tr}{E':List Zl}(h:LS w0 w v bp bn p t v' E' W)(hb:Below W.heap.size W W'):LS w0 w v bp bn p t v' E' W':=
 ⟨(hb.block _ (aC h.pb)).trans h.pb,(hb.block _ (aC h.nb)).trans h.nb,aH h.row (Fr.of_below (S:=fun _=>False) hb) (fun _ _ z=>z),h.apart,h.mv,h.fr.then hb⟩
theorem LS.next{w0 w W W':World}{v v' v'':Value}{bp bn:Nat}{p:Way}{t:Tr}{E' E'':List Zl}(h:LS w0 w v bp bn p t v' E' W)(hz:ZR w0.heap.size W' v'' E'')(hm:moved v' v'' W.heap.size)(hf:Fr (fun k=>v'.ownBlock=some k) W W'):LS w0 w v bp bn p t v'' E'' W':=by
 refine⟨(hf.block _ (aC h.pb) h.apart).trans h.pb,(hf.block _ (aC h.nb) (dU h.row h.nb (by decide))).trans h.nb,hz,fun e=>?_,h.mv.trans hm h.fr.size,h.fr.step8 hf (fun i hi ht=>mK h.mv hi ht)⟩
 exact h.apart (mK hm (aC h.pb) e)
theorem LS.bel{w0 w W:World}{v v':Value}{bp bn n:Nat}{p:Way}{t:Tr}{E':List Zl}{xs:List Value}(h:LS w0 w v bp bn p t v' E' W)(hb:Below w0.heap.size w0 w)(hz:w.ownsRow w0.heap.size 56 12 v n xs):Below w0.heap.size w0 W:=
 bB hb h.fr lz9 (fun _ hk=>(aF hz hk).1)
theorem bO9{w0:World}{most:Nat}(hmost:most<=100000):∀ (m:Nat) (t:Tr) (p:Way) (w:World) (E:List Zl) (q:Option Addr) (c:Nat),t.sz<=m->TB w0 t->Below w0.heap.size w0 w->ZR w0.heap.size w (.slice q E.length c) E->p.length<=E.length ->
  Calls Tryz.prog 32 #[.slice q E.length c,.agg (zc ((p,t),0)).toArray,.int .i64 (most:Int)] w (wF w0 w (.slice q E.length c) (jM most E (p,t))):=by
 intro m
 induction m with
 | zero=>intro t p w E q c hm;exact absurd (dO t) (by omega)
 | succ m ih=>
  intro t p w E q c hm hta hbel hzr hpl
  have IH:=aA ih
  have HM:=aA hm
  have HTA:=aA hta
  have HBEL:=aA hbel
  have HZ:=aA hzr
  have HPL:=aA hpl
  have hel:E.length<=maxLen:=uK hzr
  have N1:Hid (bD6 (w.alloc (.cells (zc ((p,t),0)).toArray 56)) w.heap.size ((p,t),0)):=aD w _
  have B1:Hid (Below w.heap.size w (w.alloc (.cells (zc ((p,t),0)).toArray 56))):=bz9
  clear ih hm hta hbel hzr hpl
  simp only [zc,Fl.cells,t4,aAI] at N1 B1 ⊢
  go_enter Tryz.func32,Tryz.ntmps32
  by_cases hfull:most<=E.length
  ·have e0:(most:Int)<=(E.length:Int):=by omega
   have hS:jM most E (p,t)=E:=by unfold jM;rw [show most-E.length=0 by omega,aAL,t9]
   go_wp2
   go_ret
   rw [hS]
   exact⟨q,c,rfl,aH HZ.out (Fr.of_below (S:=fun _=>False) B1.out) (fun _ _ z=>z),moved.refl _ _,Fr.of_below B1.out⟩
  ·have e0:¬ (most:Int)<=(E.length:Int):=by omega
   have hlt:E.length<most:=by omega
   have KN:=aA HTA.out.node
   obtain⟨kq,kcap,hkv,hk1,hk2,hk3⟩:=HTA.out.node.k.slice
   injection hkv with hkq hkl hkc
   have HKL:=aA hkl
   have HKQ:=aA hkq
   have HK3:=aA hk3
   have hkm:t.ks.length<=9223372036854775807:=hk1
   have HLT:=aA hlt
   clear hkq hkl hkc hk3 hk1 hk2 hfull
   go_upto_region 4 with fail
   generalize (w.alloc (.cells #[.int .i64 t.f.k,.int .i64 t.f.n,.int .i64 t.f.mn,.int .i64 t.f.mx,.slice t.f.rq t.f.rs.length t.f.rc,.slice t.f.kq t.f.kl t.f.kc,.int .i64 ((p.length:Int)+1),.int .i64 (arP p),.bool (fiP p),.bool (laP p),.bool (brP p),.int .i64 0] 56))=W1 at N1 B1 ⊢
   have LB:w.heap.size<W1.heap.size:=aC N1.out
   have y0:W1.cell? ⟨w.heap.size,0,none⟩=some (.int .i64 t.f.k):=aB N1.out (i:=0) rfl
   have y1:W1.cell? ⟨w.heap.size,1,none⟩=some (.int .i64 t.f.n):=aB N1.out (i:=1) rfl
   have y2:W1.cell? ⟨w.heap.size,2,none⟩=some (.int .i64 t.f.mn):=aB N1.out (i:=2) rfl
   have y3:W1.cell? ⟨w.heap.size,3,none⟩=some (.int .i64 t.f.mx):=aB N1.out (i:=3) rfl
   have y4:W1.cell? ⟨w.heap.size,4,none⟩=some (.slice t.f.rq t.f.rs.length t.f.rc):=aB N1.out (i:=4) rfl
   have y5:W1.cell? ⟨w.heap.size,5,none⟩=some (.slice t.f.kq t.f.kl t.f.kc):=aB N1.out (i:=5) rfl
   have y6:W1.cell? ⟨w.heap.size,6,none⟩=some (.int .i64 ((p.length:Int)+1)):=aB N1.out (i:=6) rfl
   have y7:W1.cell? ⟨w.heap.size,7,none⟩=some (.int .i64 (arP p)):=aB N1.out (i:=7) rfl
   have y8:W1.cell? ⟨w.heap.size,8,none⟩=some (.bool (fiP p)):=aB N1.out (i:=8) rfl
   have y9:W1.cell? ⟨w.heap.size,9,none⟩=some (.bool (laP p)):=aB N1.out (i:=9) rfl
   have y10:W1.cell? ⟨w.heap.size,10,none⟩=some (.bool (brP p)):=aB N1.out (i:=10) rfl
   have y11:W1.cell? ⟨w.heap.size,11,none⟩=some (.int .i64 0):=aB N1.out (i:=11) rfl
   have K2:Below W1.heap.size W1 (W1.alloc (.cells #[.int .i64 t.f.k,.int .i64 t.f.n,.int .i64 t.f.mn,.int .i64 t.f.mx,.slice t.f.rq t.f.rs.length t.f.rc,.slice t.f.kq t.f.kl t.f.kc,.int .i64 ((p.length:Int)+1),.int .i64 (arP p),.bool (fiP p),.bool (laP p),.bool (brP p),.int .i64 0] 56)):=bz9
   have Z1:ZR w0.heap.size W1 (.slice q E.length c) E:=aH HZ.out (Fr.of_below (S:=fun _=>False) B1.out) (fun _ _ z=>z)
   have O2:Hid ((W1.alloc (.cells #[.int .i64 t.f.k,.int .i64 t.f.n,.int .i64 t.f.mn,.int .i64 t.f.mx,.slice t.f.rq t.f.rs.length t.f.rc,.slice t.f.kq t.f.kl t.f.kc,.int .i64 ((p.length:Int)+1),.int .i64 (arP p),.bool (fiP p),.bool (laP p),.bool (brP p),.int .i64 0] 56)).ownsRow w0.heap.size 56 12 (.slice q E.length c) E.length (dE E)):=aH Z1 (Fr.of_below (S:=fun _=>False) K2) (fun _ _ z=>z)
   have NEW:Hid (∀ j u,(zc ((p,t),0))[j]?=some u->(W1.alloc (.cells #[.int .i64 t.f.k,.int .i64 t.f.n,.int .i64 t.f.mn,.int .i64 t.f.mx,.slice t.f.rq t.f.rs.length t.f.rc,.slice t.f.kq t.f.kl t.f.kc,.int .i64 ((p.length:Int)+1),.int .i64 (arP p),.bool (fiP p),.bool (laP p),.bool (brP p),.int .i64 0] 56)).cell? ((⟨W1.heap.size,0,none⟩:Addr).add j)=some u):=fun j u hj=>(by
    rw [tM,m7]
    exact aB (aD _ _) (i:=j) (by simpa [zc,Fl.cells] using hj))
   have HB2:Hid (w0.heap.size<=(W1.alloc (.cells #[.int .i64 t.f.k,.int .i64 t.f.n,.int .i64 t.f.mn,.int .i64 t.f.mx,.slice t.f.rq t.f.rs.length t.f.rc,.slice t.f.kq t.f.kl t.f.kc,.int .i64 ((p.length:Int)+1),.int .i64 (arP p),.bool (fiP p),.bool (laP p),.bool (brP p),.int .i64 0] 56)).heap.size):=o0 HBEL.out.size (o0 B1.out.size K2.size)
   have N2:Hid (bD6 (W1.alloc (.cells #[.int .i64 t.f.k,.int .i64 t.f.n,.int .i64 t.f.mn,.int .i64 t.f.mx,.slice t.f.rq t.f.rs.length t.f.rc,.slice t.f.kq t.f.kl t.f.kc,.int .i64 ((p.length:Int)+1),.int .i64 (arP p),.bool (fiP p),.bool (laP p),.bool (brP p),.int .i64 0] 56)) w.heap.size ((p,t),0)):=(K2.block _ (aC N1.out)).trans N1.out
   have F2:Hid (Fr (fun k=>(Value.slice q E.length c).ownBlock=some k) w (W1.alloc (.cells #[.int .i64 t.f.k,.int .i64 t.f.n,.int .i64 t.f.mn,.int .i64 t.f.mx,.slice t.f.rq t.f.rs.length t.f.rc,.slice t.f.kq t.f.kl t.f.kc,.int .i64 ((p.length:Int)+1),.int .i64 (arP p),.bool (fiP p),.bool (laP p),.bool (brP p),.int .i64 0] 56))):=(Fr.of_below B1.out).then K2
   obtain⟨t0,hi,hz0,hz1,hz2⟩:=aR wQ
   have hs2:(W1.alloc (.cells #[.int .i64 t.f.k,.int .i64 t.f.n,.int .i64 t.f.mn,.int .i64 t.f.mx,.slice t.f.rq t.f.rs.length t.f.rc,.slice t.f.kq t.f.kl t.f.kc,.int .i64 ((p.length:Int)+1),.int .i64 (arP p),.bool (fiP p),.bool (laP p),.bool (brP p),.int .i64 0] 56)).heap.size=W1.heap.size+1:=v9 _ _
   have HS2:=aA hs2
   clear K2 Z1 hs2
   go_upto_region 5 with (at_builtin;refine wpList_append_own_at _ rfl _ _ 38 rfl w0.heap.size 56 t0 (.agg #[.int .i64 0,.int .i64 0,.int .i64 0,.int .i64 0,.slice none 0 0,.slice none 0 0,.int .i64 0,.int .i64 0,.bool false,.bool false,.bool false,.int .i64 0]) 12 112 wI hi hz0 hz1 hz2 rfl (by decide) (.slice q E.length c) E.length (dE E) rfl O2.out ⟨W1.heap.size,0,none⟩ 1 1 (zc ((p,t),0)) rfl (by rw [jD]) NEW.out (fun v hv=>by simp [zc,Fl.cells] at hv;rcases hv with rfl | rfl | rfl | rfl | rfl | rfl | rfl | rfl | rfl | rfl | rfl | rfl <;> rfl) (by unfold maxLen;omega) (by omega) HB2.out ?_;intro v' w6 hown' hgrow _ hat;obtain⟨q6,c6,rfl⟩:=aQ hown';have O6:=aA hown';have G6:=aA hgrow;have A6:=aA hat;clear hown' hgrow hat)
   have hnb:(Value.slice q E.length c).ownBlock≠some w.heap.size:=fun e=>by have:=(aF HZ.out e).2.1;omega
   have N6:bD6 w6 w.heap.size ((p,t),0):=(G6.out.block _ (aC N2.out) (fun e=>hnb e.symm)).trans N2.out
   have C7:Hid (LS w0 w (.slice q E.length c) w.heap.size w6.heap.size p t (.slice q6 (E.length+1) c6) (cG most E p t 0) (w6.alloc (.cells #[.int .i64 t.f.k,.int .i64 t.f.n,.int .i64 t.f.mn,.int .i64 t.f.mx,.slice t.f.rq t.f.rs.length t.f.rc,.slice t.f.kq t.f.kl t.f.kc] 25))):=(by
    have K7:Below w6.heap.size w6 (w6.alloc (.cells #[.int .i64 t.f.k,.int .i64 t.f.n,.int .i64 t.f.mn,.int .i64 t.f.mx,.slice t.f.rq t.f.rs.length t.f.rc,.slice t.f.kq t.f.kl t.f.kc] 25)):=bz9
    have Z6:ZR w0.heap.size w6 (.slice q6 (E.length+1) c6) (cG most E p t 0):=by
     have:=O6.out
     rw [uV HLT.out]
     unfold ZR
     rw [o5,qU,show dE [((p,t),0)]=zc ((p,t),0) by simp [dE]]
     exact this
    have mv:moved (.slice q E.length c) (.slice q6 (E.length+1) c6) w.heap.size:=by
     rcases A6.out with h | h
     ·exact .inl h
     ·exact .inr (.inr ⟨_,by rw [HS2.out];omega,h⟩)
    refine⟨(K7.block _ (aC N6)).trans N6,aD _ _,aH Z6 (Fr.of_below (S:=fun _=>False) K7) (fun _ _ z=>z),fun e=>?_,mv,(F2.out.grown G6.out (fun k hk=>hk)).then K7⟩
    rcases A6.out with h | h
    ·exact hnb (h ▸ e)
    ·rw [h] at e
     injection e with e
     rw [HS2.out] at e
     omega)
   have d0:w6.cell? ⟨w.heap.size,0,none⟩=some (.int .i64 t.f.k):=aB N6 (i:=0) rfl
   have d1:w6.cell? ⟨w.heap.size,1,none⟩=some (.int .i64 t.f.n):=aB N6 (i:=1) rfl
   have d2:w6.cell? ⟨w.heap.size,2,none⟩=some (.int .i64 t.f.mn):=aB N6 (i:=2) rfl
   have d3:w6.cell? ⟨w.heap.size,3,none⟩=some (.int .i64 t.f.mx):=aB N6 (i:=3) rfl
   have d4:w6.cell? ⟨w.heap.size,4,none⟩=some (.slice t.f.rq t.f.rs.length t.f.rc):=aB N6 (i:=4) rfl
   have d5:w6.cell? ⟨w.heap.size,5,none⟩=some (.slice t.f.kq t.f.kl t.f.kc):=aB N6 (i:=5) rfl
   have d6:w6.cell? ⟨w.heap.size,6,none⟩=some (.int .i64 ((p.length:Int)+1)):=aB N6 (i:=6) rfl
   have d7:w6.cell? ⟨w.heap.size,7,none⟩=some (.int .i64 (arP p)):=aB N6 (i:=7) rfl
   have d8:w6.cell? ⟨w.heap.size,8,none⟩=some (.bool (fiP p)):=aB N6 (i:=8) rfl
   have d9:w6.cell? ⟨w.heap.size,9,none⟩=some (.bool (laP p)):=aB N6 (i:=9) rfl
   have d10:w6.cell? ⟨w.heap.size,10,none⟩=some (.bool (brP p)):=aB N6 (i:=10) rfl
   have d11:w6.cell? ⟨w.heap.size,11,none⟩=some (.int .i64 0):=aB N6 (i:=11) rfl
   clear N2 F2 O2 G6 A6 O6 NEW HB2 hnb N6 B1 N1 HS2 y0 y1 y2 y3 y4 y5 y6 y7 y8 y9 y10 y11
   go_upto_region 7 with fail
   generalize (w6.alloc (.cells #[.int .i64 t.f.k,.int .i64 t.f.n,.int .i64 t.f.mn,.int .i64 t.f.mx,.slice t.f.rq t.f.rs.length t.f.rc,.slice t.f.kq t.f.kl t.f.kc] 25))=W7 at C7 ⊢
   generalize w6.heap.size=bn at C7 ⊢
   clear d0 d1 d2 d3 d4 d5 d6 d7 d8 d9 d10 d11
   go_loopw [9,0] (fun i v' wr=>∃ (j:Nat) (q':Option Addr) (c':Nat),j<=t.ks.length/\i=.int .i64 (j:Int)/\v'=.slice q' (cG most E p t j).length c'/\LS w0 w (.slice q E.length c) w.heap.size bn p t (.slice q' (cG most E p t j).length c') (cG most E p t j) wr) (fun i _ _=>t.ks.length-(intOf i).toNat)
   case atStart=>
    have hl0:(cG most E p t 0).length=E.length+1:=by rw [uV HLT.out,o5];rfl
    exact⟨0,q6,c6,o9 _,rfl,by rw [hl0],by rw [hl0];exact C7.out⟩
   case round=>
    clear C7
    obtain⟨j,q',c',hj,rfl,rfl,hls⟩:=hrel
    have HS:=aA hls
    have hlen:=mO (p:=p) (t:=t) (j:=j) HLT.out
    have HJ:=aA (show (cG most E p t j).length=(cG most E p t j).length from rfl)
    obtain⟨L,hL⟩:∃ L,(cG most E p t j).length=L:=⟨_,rfl⟩
    have HL:=aA hL
    have hl1:E.length<L:=by omega
    have hl2:L<=most:=by omega
    rw [hL]
    have n0:wr.cell? ⟨bn,0,none⟩=some (.int .i64 t.f.k):=hls.nb.six.1
    have n5:wr.cell? ⟨bn,5,none⟩=some (.slice t.f.kq t.f.kl t.f.kc):=hls.nb.six.2.2.2.2.2
    rw [HKL.out] at n5
    have p6:wr.cell? ⟨w.heap.size,6,none⟩=some (.int .i64 ((p.length:Int)+1)):=aB hls.pb (i:=6) rfl
    have p10:wr.cell? ⟨w.heap.size,10,none⟩=some (.bool (brP p)):=aB hls.pb (i:=10) rfl
    have hpl:=HPL.out
    clear hls hlen hL
    by_cases hjl:j<t.ks.length
    ·have i0:(j:Int)<(t.ks.length:Int):=by omega
     by_cases hll:L<most
     ·have l0:(L:Int)<(most:Int):=by omega
      obtain⟨u,hu⟩:∃ u,t.ks[j]?=some u:=⟨_,g9 hjl⟩
      obtain⟨g2,off,hq2,hg2,hsix⟩:=HK3.out j u hu
      have BW:=HS.out.bel HBEL.out HZ.out
      obtain⟨k0,k1,k2,k3,k4,k5⟩:=hsix.ck (CK.of_below BW) hg2
      have lg2:g2<wr.heap.size:=o8 hg2 BW.size
      have lbn:=aC HS.out.nb
      have lbp:=aC HS.out.pb
      have HU:=aA hu
      have HBW:=aA BW
      rw [HKQ.out,hq2] at n5
      clear hsix hu hg2 BW
      go_upto_region 9 with fail
      go_region_held (fun V=>V.cell? ⟨bn,0,none⟩=some (.int .i64 t.f.k)/\V.cell? ⟨bn,5,none⟩=some (.slice (some ⟨g2,off,none⟩) t.ks.length t.f.kc)/\V.cell? ⟨w.heap.size,6,none⟩=some (.int .i64 ((p.length:Int)+1))/\V.cell? ⟨g2,off+j*6,none⟩=some (.int .i64 u.f.k)/\V.cell? ⟨g2,off+j*6+1,none⟩=some (.int .i64 u.f.n)/\V.cell? ⟨g2,off+j*6+2,none⟩=some (.int .i64 u.f.mn)/\V.cell? ⟨g2,off+j*6+3,none⟩=some (.int .i64 u.f.mx)/\V.cell? ⟨g2,off+j*6+4,none⟩=some (.slice u.f.rq u.f.rs.length u.f.rc)/\V.cell? ⟨g2,off+j*6+5,none⟩=some (.slice u.f.kq u.f.kl u.f.kc)) (go_keep) (fail)
      have hw1:IntKind.i64.wrap ((p.length:Int)+1+1)=(p.length:Int)+1+1:=by rw [IntKind.wrap_i64];have:=hmost;omega
      have hw2:IntKind.i64.wrap ((t.ks.length:Int)-1)=(t.ks.length:Int)-1:=by rw [IntKind.wrap_i64];have:=hmost;omega
      rw [hw1,hw2]
      have N8:(wr.alloc (.cells #[.int .i64 u.f.k,.int .i64 u.f.n,.int .i64 u.f.mn,.int .i64 u.f.mx,.slice u.f.rq u.f.rs.length u.f.rc,.slice u.f.kq u.f.kl u.f.kc,.int .i64 ((p.length:Int)+1+1),.int .i64 t.f.k,.bool ((j:Int)==0),.bool ((j:Int)==(t.ks.length:Int)-1),.bool false,.int .i64 0] 56)).drew.heap[wr.heap.size]?=some (.cells #[.int .i64 u.f.k,.int .i64 u.f.n,.int .i64 u.f.mn,.int .i64 u.f.mx,.slice u.f.rq u.f.rs.length u.f.rc,.slice u.f.kq u.f.kl u.f.kc,.int .i64 ((p.length:Int)+1+1),.int .i64 t.f.k,.bool ((j:Int)==0),.bool ((j:Int)==(t.ks.length:Int)-1),.bool false,.int .i64 0] 56 (0,0)):=aD wr _
      have B8:Below wr.heap.size wr (wr.alloc (.cells #[.int .i64 u.f.k,.int .i64 u.f.n,.int .i64 u.f.mn,.int .i64 u.f.mx,.slice u.f.rq u.f.rs.length u.f.rc,.slice u.f.kq u.f.kl u.f.kc,.int .i64 ((p.length:Int)+1+1),.int .i64 t.f.k,.bool ((j:Int)==0),.bool ((j:Int)==(t.ks.length:Int)-1),.bool false,.int .i64 0] 56)).drew:=(bz9).drew
      have y0:(wr.alloc (.cells #[.int .i64 u.f.k,.int .i64 u.f.n,.int .i64 u.f.mn,.int .i64 u.f.mx,.slice u.f.rq u.f.rs.length u.f.rc,.slice u.f.kq u.f.kl u.f.kc,.int .i64 ((p.length:Int)+1+1),.int .i64 t.f.k,.bool ((j:Int)==0),.bool ((j:Int)==(t.ks.length:Int)-1),.bool false,.int .i64 0] 56)).drew.cell? ⟨bn,0,none⟩=some (.int .i64 t.f.k):=(B8.cell (p:=⟨bn,0,none⟩) lbn).trans n0
      have y10:(wr.alloc (.cells #[.int .i64 u.f.k,.int .i64 u.f.n,.int .i64 u.f.mn,.int .i64 u.f.mx,.slice u.f.rq u.f.rs.length u.f.rc,.slice u.f.kq u.f.kl u.f.kc,.int .i64 ((p.length:Int)+1+1),.int .i64 t.f.k,.bool ((j:Int)==0),.bool ((j:Int)==(t.ks.length:Int)-1),.bool false,.int .i64 0] 56)).drew.cell? ⟨w.heap.size,10,none⟩=some (.bool (brP p)):=(B8.cell (p:=⟨w.heap.size,10,none⟩) lbp).trans p10
      generalize (wr.alloc (.cells #[.int .i64 u.f.k,.int .i64 u.f.n,.int .i64 u.f.mn,.int .i64 u.f.mx,.slice u.f.rq u.f.rs.length u.f.rc,.slice u.f.kq u.f.kl u.f.kc,.int .i64 ((p.length:Int)+1+1),.int .i64 t.f.k,.bool ((j:Int)==0),.bool ((j:Int)==(t.ks.length:Int)-1),.bool false,.int .i64 0] 56)).drew=V1 at N8 B8 y0 y10 ⊢
      obtain⟨bk,hbk⟩:∃ bk,wr.heap.size=bk:=⟨_,rfl⟩
      rw [hbk] at N8 ⊢
      have hkb:wr.heap.size<=bk:=by omega
      have f10:=aK N8 10
      have y11:=aB N8 (i:=10) rfl
      have HN8:=aA N8
      have HB8:=aA B8
      clear N8 B8 hbk hw1 hw2 n0 n5 p6 p10 k0 k1 k2 k3 k4 k5 lg2
      have e7:(t.f.k==7)=decide (t.f.k=7):=rfl
      by_cases h7:t.f.k=7
      ·have HBR:=aA (show brP ((t,j) :: p)=true by simp [brP,h7])
       have e1:(t.f.k==7)=true:=by simpa using h7
       clear h7 e7
       have N2:(V1.setCell ⟨bk,10,none⟩ (.bool true)).heap[bk]?=some (.cells #[.int .i64 u.f.k,.int .i64 u.f.n,.int .i64 u.f.mn,.int .i64 u.f.mx,.slice u.f.rq u.f.rs.length u.f.rc,.slice u.f.kq u.f.kl u.f.kc,.int .i64 ((p.length:Int)+1+1),.int .i64 t.f.k,.bool ((j:Int)==0),.bool ((j:Int)==(t.ks.length:Int)-1),.bool true,.int .i64 0] 56 (0,0)):=aJ HN8.out 10 (.bool true)
       have B2:Below wr.heap.size wr (V1.setCell ⟨bk,10,none⟩ (.bool true)):=Below.setCell HB8.out hkb _
       have z0:(V1.setCell ⟨bk,10,none⟩ (.bool true)).cell? ⟨bk,0,none⟩=some (.int .i64 u.f.k):=aB N2 (i:=0) rfl
       have z1:(V1.setCell ⟨bk,10,none⟩ (.bool true)).cell? ⟨bk,1,none⟩=some (.int .i64 u.f.n):=aB N2 (i:=1) rfl
       have z2:(V1.setCell ⟨bk,10,none⟩ (.bool true)).cell? ⟨bk,2,none⟩=some (.int .i64 u.f.mn):=aB N2 (i:=2) rfl
       have z3:(V1.setCell ⟨bk,10,none⟩ (.bool true)).cell? ⟨bk,3,none⟩=some (.int .i64 u.f.mx):=aB N2 (i:=3) rfl
       have z4:(V1.setCell ⟨bk,10,none⟩ (.bool true)).cell? ⟨bk,4,none⟩=some (.slice u.f.rq u.f.rs.length u.f.rc):=aB N2 (i:=4) rfl
       have z5:(V1.setCell ⟨bk,10,none⟩ (.bool true)).cell? ⟨bk,5,none⟩=some (.slice u.f.kq u.f.kl u.f.kc):=aB N2 (i:=5) rfl
       have z6:(V1.setCell ⟨bk,10,none⟩ (.bool true)).cell? ⟨bk,6,none⟩=some (.int .i64 ((p.length:Int)+1+1)):=aB N2 (i:=6) rfl
       have z7:(V1.setCell ⟨bk,10,none⟩ (.bool true)).cell? ⟨bk,7,none⟩=some (.int .i64 t.f.k):=aB N2 (i:=7) rfl
       have z8:(V1.setCell ⟨bk,10,none⟩ (.bool true)).cell? ⟨bk,8,none⟩=some (.bool ((j:Int)==0)):=aB N2 (i:=8) rfl
       have z9:(V1.setCell ⟨bk,10,none⟩ (.bool true)).cell? ⟨bk,9,none⟩=some (.bool ((j:Int)==(t.ks.length:Int)-1)):=aB N2 (i:=9) rfl
       have z10:(V1.setCell ⟨bk,10,none⟩ (.bool true)).cell? ⟨bk,10,none⟩=some (.bool true):=aB N2 (i:=10) rfl
       have z11:(V1.setCell ⟨bk,10,none⟩ (.bool true)).cell? ⟨bk,11,none⟩=some (.int .i64 0):=aB N2 (i:=11) rfl
       have IHU:Hid (Calls Tryz.prog 32 #[.slice q' L c',.agg #[.int .i64 u.f.k,.int .i64 u.f.n,.int .i64 u.f.mn,.int .i64 u.f.mx,.slice u.f.rq u.f.rs.length u.f.rc,.slice u.f.kq u.f.kl u.f.kc,.int .i64 ((p.length:Int)+1+1),.int .i64 t.f.k,.bool ((j:Int)==0),.bool ((j:Int)==(t.ks.length:Int)-1),.bool true,.int .i64 0],.int .i64 (most:Int)] (V1.setCell ⟨bk,10,none⟩ (.bool true)) (wF w0 (V1.setCell ⟨bk,10,none⟩ (.bool true)) (.slice q' L c') (cG most E p t (j+1)))):=(by
        have h:=IH.out u ((t,j) :: p) (V1.setCell ⟨bk,10,none⟩ (.bool true)) (cG most E p t j) q' c' (by have:=bW (n8 HU.out);have:=HM.out;omega) (HTA.out.kid (n8 HU.out)) (aG HBW.out B2 lz9) (HS.out.kept B2).row (by rw [HL.out,o7];omega)
        rw [kF HLT.out HU.out (by rw [HL.out];exact hll),HL.out] at h
        have e:(zc (((t,j) :: p,u),0)).toArray=#[.int .i64 u.f.k,.int .i64 u.f.n,.int .i64 u.f.mn,.int .i64 u.f.mx,.slice u.f.rq u.f.rs.length u.f.rc,.slice u.f.kq u.f.kl u.f.kc,.int .i64 ((p.length:Int)+1+1),.int .i64 t.f.k,.bool ((j:Int)==0),.bool ((j:Int)==(t.ks.length:Int)-1),.bool true,.int .i64 0]:=(by simp [zc,Fl.cells,arP,fiP,laP,HBR.out])
        rw [e] at h
        exact h)
       have S2:=aA (HS.out.kept B2)
       clear N2 B2
       go_wp2_with (go_at_call 32;(with_reducible refine(IHU.out).mono ?_);rintro e w9 ⟨q9,c9,rfl,h91,h92,h93⟩;have S9:=aA (S2.out.next h91 (by rw [HL.out];exact h92) (by rw [HL.out];exact h93));clear h91 h92 h93)
       go_roundw
       case rel=>exact⟨j+1,q9,c9,by omega,by go_num,rfl,S9.out⟩
       case measure=>simp only [intOf];omega
      ·have e1:(t.f.k==7)=false:=by simpa using h7
       by_cases h6:t.f.k=6
       ·have HBR:=aA (show brP ((t,j) :: p)=true by simp [brP,h6])
        have e2:(t.f.k==6)=true:=by simpa using h6
        clear h7 h6 e7
        have N2:(V1.setCell ⟨bk,10,none⟩ (.bool true)).heap[bk]?=some (.cells #[.int .i64 u.f.k,.int .i64 u.f.n,.int .i64 u.f.mn,.int .i64 u.f.mx,.slice u.f.rq u.f.rs.length u.f.rc,.slice u.f.kq u.f.kl u.f.kc,.int .i64 ((p.length:Int)+1+1),.int .i64 t.f.k,.bool ((j:Int)==0),.bool ((j:Int)==(t.ks.length:Int)-1),.bool true,.int .i64 0] 56 (0,0)):=aJ HN8.out 10 (.bool true)
        have B2:Below wr.heap.size wr (V1.setCell ⟨bk,10,none⟩ (.bool true)):=Below.setCell HB8.out hkb _
        have z0:(V1.setCell ⟨bk,10,none⟩ (.bool true)).cell? ⟨bk,0,none⟩=some (.int .i64 u.f.k):=aB N2 (i:=0) rfl
        have z1:(V1.setCell ⟨bk,10,none⟩ (.bool true)).cell? ⟨bk,1,none⟩=some (.int .i64 u.f.n):=aB N2 (i:=1) rfl
        have z2:(V1.setCell ⟨bk,10,none⟩ (.bool true)).cell? ⟨bk,2,none⟩=some (.int .i64 u.f.mn):=aB N2 (i:=2) rfl
        have z3:(V1.setCell ⟨bk,10,none⟩ (.bool true)).cell? ⟨bk,3,none⟩=some (.int .i64 u.f.mx):=aB N2 (i:=3) rfl
        have z4:(V1.setCell ⟨bk,10,none⟩ (.bool true)).cell? ⟨bk,4,none⟩=some (.slice u.f.rq u.f.rs.length u.f.rc):=aB N2 (i:=4) rfl
        have z5:(V1.setCell ⟨bk,10,none⟩ (.bool true)).cell? ⟨bk,5,none⟩=some (.slice u.f.kq u.f.kl u.f.kc):=aB N2 (i:=5) rfl
        have z6:(V1.setCell ⟨bk,10,none⟩ (.bool true)).cell? ⟨bk,6,none⟩=some (.int .i64 ((p.length:Int)+1+1)):=aB N2 (i:=6) rfl
        have z7:(V1.setCell ⟨bk,10,none⟩ (.bool true)).cell? ⟨bk,7,none⟩=some (.int .i64 t.f.k):=aB N2 (i:=7) rfl
        have z8:(V1.setCell ⟨bk,10,none⟩ (.bool true)).cell? ⟨bk,8,none⟩=some (.bool ((j:Int)==0)):=aB N2 (i:=8) rfl
        have z9:(V1.setCell ⟨bk,10,none⟩ (.bool true)).cell? ⟨bk,9,none⟩=some (.bool ((j:Int)==(t.ks.length:Int)-1)):=aB N2 (i:=9) rfl
        have z10:(V1.setCell ⟨bk,10,none⟩ (.bool true)).cell? ⟨bk,10,none⟩=some (.bool true):=aB N2 (i:=10) rfl
        have z11:(V1.setCell ⟨bk,10,none⟩ (.bool true)).cell? ⟨bk,11,none⟩=some (.int .i64 0):=aB N2 (i:=11) rfl
        have IHU:Hid (Calls Tryz.prog 32 #[.slice q' L c',.agg #[.int .i64 u.f.k,.int .i64 u.f.n,.int .i64 u.f.mn,.int .i64 u.f.mx,.slice u.f.rq u.f.rs.length u.f.rc,.slice u.f.kq u.f.kl u.f.kc,.int .i64 ((p.length:Int)+1+1),.int .i64 t.f.k,.bool ((j:Int)==0),.bool ((j:Int)==(t.ks.length:Int)-1),.bool true,.int .i64 0],.int .i64 (most:Int)] (V1.setCell ⟨bk,10,none⟩ (.bool true)) (wF w0 (V1.setCell ⟨bk,10,none⟩ (.bool true)) (.slice q' L c') (cG most E p t (j+1)))):=(by
         have h:=IH.out u ((t,j) :: p) (V1.setCell ⟨bk,10,none⟩ (.bool true)) (cG most E p t j) q' c' (by have:=bW (n8 HU.out);have:=HM.out;omega) (HTA.out.kid (n8 HU.out)) (aG HBW.out B2 lz9) (HS.out.kept B2).row (by rw [HL.out,o7];omega)
         rw [kF HLT.out HU.out (by rw [HL.out];exact hll),HL.out] at h
         have e:(zc (((t,j) :: p,u),0)).toArray=#[.int .i64 u.f.k,.int .i64 u.f.n,.int .i64 u.f.mn,.int .i64 u.f.mx,.slice u.f.rq u.f.rs.length u.f.rc,.slice u.f.kq u.f.kl u.f.kc,.int .i64 ((p.length:Int)+1+1),.int .i64 t.f.k,.bool ((j:Int)==0),.bool ((j:Int)==(t.ks.length:Int)-1),.bool true,.int .i64 0]:=(by simp [zc,Fl.cells,arP,fiP,laP,HBR.out])
         rw [e] at h
         exact h)
        have S2:=aA (HS.out.kept B2)
        clear N2 B2
        go_wp2_with (go_at_call 32;(with_reducible refine(IHU.out).mono ?_);rintro e w9 ⟨q9,c9,rfl,h91,h92,h93⟩;have S9:=aA (S2.out.next h91 (by rw [HL.out];exact h92) (by rw [HL.out];exact h93));clear h91 h92 h93)
        go_roundw
        case rel=>exact⟨j+1,q9,c9,by omega,by go_num,rfl,S9.out⟩
        case measure=>simp only [intOf];omega
       ·have e2:(t.f.k==6)=false:=by simpa using h6
        by_cases h5:t.f.k=5
        ·have HBR:=aA (show brP ((t,j) :: p)=brP p by simp [brP,h5])
         have e3:(t.f.k==5)=true:=by simpa using h5
         clear h7 h6 h5 e7
         have N2:(V1.setCell ⟨bk,10,none⟩ (.bool (brP p))).heap[bk]?=some (.cells #[.int .i64 u.f.k,.int .i64 u.f.n,.int .i64 u.f.mn,.int .i64 u.f.mx,.slice u.f.rq u.f.rs.length u.f.rc,.slice u.f.kq u.f.kl u.f.kc,.int .i64 ((p.length:Int)+1+1),.int .i64 t.f.k,.bool ((j:Int)==0),.bool ((j:Int)==(t.ks.length:Int)-1),.bool (brP p),.int .i64 0] 56 (0,0)):=aJ HN8.out 10 (.bool (brP p))
         have B2:Below wr.heap.size wr (V1.setCell ⟨bk,10,none⟩ (.bool (brP p))):=Below.setCell HB8.out hkb _
         have z0:(V1.setCell ⟨bk,10,none⟩ (.bool (brP p))).cell? ⟨bk,0,none⟩=some (.int .i64 u.f.k):=aB N2 (i:=0) rfl
         have z1:(V1.setCell ⟨bk,10,none⟩ (.bool (brP p))).cell? ⟨bk,1,none⟩=some (.int .i64 u.f.n):=aB N2 (i:=1) rfl
         have z2:(V1.setCell ⟨bk,10,none⟩ (.bool (brP p))).cell? ⟨bk,2,none⟩=some (.int .i64 u.f.mn):=aB N2 (i:=2) rfl
         have z3:(V1.setCell ⟨bk,10,none⟩ (.bool (brP p))).cell? ⟨bk,3,none⟩=some (.int .i64 u.f.mx):=aB N2 (i:=3) rfl
         have z4:(V1.setCell ⟨bk,10,none⟩ (.bool (brP p))).cell? ⟨bk,4,none⟩=some (.slice u.f.rq u.f.rs.length u.f.rc):=aB N2 (i:=4) rfl
         have z5:(V1.setCell ⟨bk,10,none⟩ (.bool (brP p))).cell? ⟨bk,5,none⟩=some (.slice u.f.kq u.f.kl u.f.kc):=aB N2 (i:=5) rfl
         have z6:(V1.setCell ⟨bk,10,none⟩ (.bool (brP p))).cell? ⟨bk,6,none⟩=some (.int .i64 ((p.length:Int)+1+1)):=aB N2 (i:=6) rfl
         have z7:(V1.setCell ⟨bk,10,none⟩ (.bool (brP p))).cell? ⟨bk,7,none⟩=some (.int .i64 t.f.k):=aB N2 (i:=7) rfl
         have z8:(V1.setCell ⟨bk,10,none⟩ (.bool (brP p))).cell? ⟨bk,8,none⟩=some (.bool ((j:Int)==0)):=aB N2 (i:=8) rfl
         have z9:(V1.setCell ⟨bk,10,none⟩ (.bool (brP p))).cell? ⟨bk,9,none⟩=some (.bool ((j:Int)==(t.ks.length:Int)-1)):=aB N2 (i:=9) rfl
         have z10:(V1.setCell ⟨bk,10,none⟩ (.bool (brP p))).cell? ⟨bk,10,none⟩=some (.bool (brP p)):=aB N2 (i:=10) rfl
         have z11:(V1.setCell ⟨bk,10,none⟩ (.bool (brP p))).cell? ⟨bk,11,none⟩=some (.int .i64 0):=aB N2 (i:=11) rfl
         have IHU:Hid (Calls Tryz.prog 32 #[.slice q' L c',.agg #[.int .i64 u.f.k,.int .i64 u.f.n,.int .i64 u.f.mn,.int .i64 u.f.mx,.slice u.f.rq u.f.rs.length u.f.rc,.slice u.f.kq u.f.kl u.f.kc,.int .i64 ((p.length:Int)+1+1),.int .i64 t.f.k,.bool ((j:Int)==0),.bool ((j:Int)==(t.ks.length:Int)-1),.bool (brP p),.int .i64 0],.int .i64 (most:Int)] (V1.setCell ⟨bk,10,none⟩ (.bool (brP p))) (wF w0 (V1.setCell ⟨bk,10,none⟩ (.bool (brP p))) (.slice q' L c') (cG most E p t (j+1)))):=(by
          have h:=IH.out u ((t,j) :: p) (V1.setCell ⟨bk,10,none⟩ (.bool (brP p))) (cG most E p t j) q' c' (by have:=bW (n8 HU.out);have:=HM.out;omega) (HTA.out.kid (n8 HU.out)) (aG HBW.out B2 lz9) (HS.out.kept B2).row (by rw [HL.out,o7];omega)
          rw [kF HLT.out HU.out (by rw [HL.out];exact hll),HL.out] at h
          have e:(zc (((t,j) :: p,u),0)).toArray=#[.int .i64 u.f.k,.int .i64 u.f.n,.int .i64 u.f.mn,.int .i64 u.f.mx,.slice u.f.rq u.f.rs.length u.f.rc,.slice u.f.kq u.f.kl u.f.kc,.int .i64 ((p.length:Int)+1+1),.int .i64 t.f.k,.bool ((j:Int)==0),.bool ((j:Int)==(t.ks.length:Int)-1),.bool (brP p),.int .i64 0]:=(by simp [zc,Fl.cells,arP,fiP,laP,HBR.out])
          rw [e] at h
          exact h)
         have S2:=aA (HS.out.kept B2)
         clear N2 B2
         go_wp2_with (go_at_call 32;(with_reducible refine(IHU.out).mono ?_);rintro e w9 ⟨q9,c9,rfl,h91,h92,h93⟩;have S9:=aA (S2.out.next h91 (by rw [HL.out];exact h92) (by rw [HL.out];exact h93));clear h91 h92 h93)
         go_roundw
         case rel=>exact⟨j+1,q9,c9,by omega,by go_num,rfl,S9.out⟩
         case measure=>simp only [intOf];omega
        ·have HBR:=aA (show brP ((t,j) :: p)=false by simp [brP,h7,h6,h5])
         have e3:(t.f.k==5)=false:=by simpa using h5
         clear h7 h6 h5 e7
         have N2:V1.heap[bk]?=some (.cells #[.int .i64 u.f.k,.int .i64 u.f.n,.int .i64 u.f.mn,.int .i64 u.f.mx,.slice u.f.rq u.f.rs.length u.f.rc,.slice u.f.kq u.f.kl u.f.kc,.int .i64 ((p.length:Int)+1+1),.int .i64 t.f.k,.bool ((j:Int)==0),.bool ((j:Int)==(t.ks.length:Int)-1),.bool false,.int .i64 0] 56 (0,0)):=HN8.out
         have B2:Below wr.heap.size wr V1:=HB8.out
         have z0:V1.cell? ⟨bk,0,none⟩=some (.int .i64 u.f.k):=aB N2 (i:=0) rfl
         have z1:V1.cell? ⟨bk,1,none⟩=some (.int .i64 u.f.n):=aB N2 (i:=1) rfl
         have z2:V1.cell? ⟨bk,2,none⟩=some (.int .i64 u.f.mn):=aB N2 (i:=2) rfl
         have z3:V1.cell? ⟨bk,3,none⟩=some (.int .i64 u.f.mx):=aB N2 (i:=3) rfl
         have z4:V1.cell? ⟨bk,4,none⟩=some (.slice u.f.rq u.f.rs.length u.f.rc):=aB N2 (i:=4) rfl
         have z5:V1.cell? ⟨bk,5,none⟩=some (.slice u.f.kq u.f.kl u.f.kc):=aB N2 (i:=5) rfl
         have z6:V1.cell? ⟨bk,6,none⟩=some (.int .i64 ((p.length:Int)+1+1)):=aB N2 (i:=6) rfl
         have z7:V1.cell? ⟨bk,7,none⟩=some (.int .i64 t.f.k):=aB N2 (i:=7) rfl
         have z8:V1.cell? ⟨bk,8,none⟩=some (.bool ((j:Int)==0)):=aB N2 (i:=8) rfl
         have z9:V1.cell? ⟨bk,9,none⟩=some (.bool ((j:Int)==(t.ks.length:Int)-1)):=aB N2 (i:=9) rfl
         have z10:V1.cell? ⟨bk,10,none⟩=some (.bool false):=aB N2 (i:=10) rfl
         have z11:V1.cell? ⟨bk,11,none⟩=some (.int .i64 0):=aB N2 (i:=11) rfl
         have IHU:Hid (Calls Tryz.prog 32 #[.slice q' L c',.agg #[.int .i64 u.f.k,.int .i64 u.f.n,.int .i64 u.f.mn,.int .i64 u.f.mx,.slice u.f.rq u.f.rs.length u.f.rc,.slice u.f.kq u.f.kl u.f.kc,.int .i64 ((p.length:Int)+1+1),.int .i64 t.f.k,.bool ((j:Int)==0),.bool ((j:Int)==(t.ks.length:Int)-1),.bool false,.int .i64 0],.int .i64 (most:Int)] V1 (wF w0 V1 (.slice q' L c') (cG most E p t (j+1)))):=(by
          have h:=IH.out u ((t,j) :: p) V1 (cG most E p t j) q' c' (by have:=bW (n8 HU.out);have:=HM.out;omega) (HTA.out.kid (n8 HU.out)) (aG HBW.out B2 lz9) (HS.out.kept B2).row (by rw [HL.out,o7];omega)
          rw [kF HLT.out HU.out (by rw [HL.out];exact hll),HL.out] at h
          have e:(zc (((t,j) :: p,u),0)).toArray=#[.int .i64 u.f.k,.int .i64 u.f.n,.int .i64 u.f.mn,.int .i64 u.f.mx,.slice u.f.rq u.f.rs.length u.f.rc,.slice u.f.kq u.f.kl u.f.kc,.int .i64 ((p.length:Int)+1+1),.int .i64 t.f.k,.bool ((j:Int)==0),.bool ((j:Int)==(t.ks.length:Int)-1),.bool false,.int .i64 0]:=(by simp [zc,Fl.cells,arP,fiP,laP,HBR.out])
          rw [e] at h
          exact h)
         have S2:=aA (HS.out.kept B2)
         clear N2 B2
         go_wp2_with (go_at_call 32;(with_reducible refine(IHU.out).mono ?_);rintro e w9 ⟨q9,c9,rfl,h91,h92,h93⟩;have S9:=aA (S2.out.next h91 (by rw [HL.out];exact h92) (by rw [HL.out];exact h93));clear h91 h92 h93)
         go_roundw
         case rel=>exact⟨j+1,q9,c9,by omega,by go_num,rfl,S9.out⟩
         case measure=>simp only [intOf];omega
     ·have l0:¬ (L:Int)<(most:Int):=by omega
      have hfl:=aE8 (j:=j) (p:=p) (t:=t) HLT.out (by rw [HL.out];exact hll)
      have S9:=HS.out
      rw [HL.out] at S9
      obtain⟨gg,cc,hq9⟩:=aO (n:=L) (by have:=S9.row;unfold ZR at this;rw [HL.out] at this;exact this) (by omega)
      injection hq9 with hq91 _ hq92
      subst hq91 hq92
      have R9:wr.ownsRow w0.heap.size 56 12 (.slice (some ⟨gg,0,none⟩) L c') L (dE (cG most E p t j)):=(by have:=S9.row;unfold ZR at this;rw [HL.out] at this;exact this)
      obtain⟨-,-,cur9,hcur9⟩:=aF R9 (g:=gg) rfl
      have hz9:(dE (cG most E p t j))[E.length*12+11]?=some (.int .i64 0):=by rw [iT _ E.length 11 ((p,t),0) (kG HLT.out) (by omega)];simp [zc,Fl.cells]
      have z9:wr.cell? ⟨gg,E.length*12+11,none⟩=some (.int .i64 0):=aP R9 hz9
      have f9:=aK hcur9 (E.length*12+11)
      have RF:=aA (show wF w0 w (.slice q E.length c) (jM most E (p,t)) (.returned (.slice (some ⟨gg,0,none⟩) L c')) (wr.setCell ⟨gg,E.length*12+11,none⟩ (.int .i64 (L:Int))) by
       have hlen2:(jM most E (p,t)).length=L:=by rw [<- mP HLT.out,aAQ,<- hfl,HL.out]
       have h1:=rB R9 (E.length*12+11) (.int .i64 (L:Int))
       rw [lQ _ E.length (p,t) 0 L (kG HLT.out)] at h1
       have h2:(cG most E p t j).set E.length ((p,t),L)=jM most E (p,t):=by rw [<- mP HLT.out,<- hfl,HL.out]
       rw [h2] at h1
       refine⟨some ⟨gg,0,none⟩,c',by rw [hlen2],by unfold ZR;rw [hlen2];exact h1,by rw [hlen2];exact S9.mv,S9.fr.step8 ((Fr.refl (fun z=>z=gg) wr).setCell (p:=⟨gg,E.length*12+11,none⟩) rfl _) (fun i hi e=>mK S9.mv hi (by rw [e];rfl))⟩)
      have hb1:(E.length:Int)<(L:Int):=by omega
      have hb2:(0:Int)<=(E.length:Int):=by omega
      clear hz9 hcur9 R9 S9 hfl
      go_wp2
      go_ret
      exact RF.out
    ·have i0:¬ (j:Int)<(t.ks.length:Int):=by omega
     have hfl:cG most E p t j=cG most E p t t.ks.length:=by rw [show j=t.ks.length by omega]
     have S9:=HS.out
     rw [HL.out] at S9
     obtain⟨gg,cc,hq9⟩:=aO (n:=L) (by have:=S9.row;unfold ZR at this;rw [HL.out] at this;exact this) (by omega)
     injection hq9 with hq91 _ hq92
     subst hq91 hq92
     have R9:wr.ownsRow w0.heap.size 56 12 (.slice (some ⟨gg,0,none⟩) L c') L (dE (cG most E p t j)):=(by have:=S9.row;unfold ZR at this;rw [HL.out] at this;exact this)
     obtain⟨-,-,cur9,hcur9⟩:=aF R9 (g:=gg) rfl
     have hz9:(dE (cG most E p t j))[E.length*12+11]?=some (.int .i64 0):=by rw [iT _ E.length 11 ((p,t),0) (kG HLT.out) (by omega)];simp [zc,Fl.cells]
     have z9:wr.cell? ⟨gg,E.length*12+11,none⟩=some (.int .i64 0):=aP R9 hz9
     have f9:=aK hcur9 (E.length*12+11)
     have RF:=aA (show wF w0 w (.slice q E.length c) (jM most E (p,t)) (.returned (.slice (some ⟨gg,0,none⟩) L c')) (wr.setCell ⟨gg,E.length*12+11,none⟩ (.int .i64 (L:Int))) by
      have hlen2:(jM most E (p,t)).length=L:=by rw [<- mP HLT.out,aAQ,<- hfl,HL.out]
      have h1:=rB R9 (E.length*12+11) (.int .i64 (L:Int))
      rw [lQ _ E.length (p,t) 0 L (kG HLT.out)] at h1
      have h2:(cG most E p t j).set E.length ((p,t),L)=jM most E (p,t):=by rw [<- mP HLT.out,<- hfl,HL.out]
      rw [h2] at h1
      refine⟨some ⟨gg,0,none⟩,c',by rw [hlen2],by unfold ZR;rw [hlen2];exact h1,by rw [hlen2];exact S9.mv,S9.fr.step8 ((Fr.refl (fun z=>z=gg) wr).setCell (p:=⟨gg,E.length*12+11,none⟩) rfl _) (fun i hi e=>mK S9.mv hi (by rw [e];rfl))⟩)
     have hb1:(E.length:Int)<(L:Int):=by omega
     have hb2:(0:Int)<=(E.length:Int):=by omega
     clear hz9 hcur9 R9 S9 hfl
     go_wp2
     go_ret
     exact RF.out
end Go.Proofs.YtlamifbjklpdbaaGreat
