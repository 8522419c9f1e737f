/-
  Parts of the proof.
-/
import Derived.Test.YtlamifbjklpdbaaGreatLessProofA0
import Derived.Test.YtlamifbjklpdbaaGreatLessProofB17
import Derived.Test.YtlamifbjklpdbaaGreatLessProofB20
import Derived.Test.YtlamifbjklpdbaaGreatLessProofB19
import Derived.BigQuiet
import Derived.Test.YtlamifbjklpdbaaGreatLessProofB0
import Derived.Deep.Slices
import Derived.Deep.SlicePairs
import Derived.ChangeSame
import Derived.SizedLaws
import Derived.Test.YtlamifbjklpdbaaGreatRows
set_option linter.unusedSimpArgs false
set_option maxRecDepth 100000
set_option maxHeartbeats 8000000
namespace Go.Proofs.YtlamifbjklpdbaaGreat
open Go Go.RowKit
section
open Go Go.RowKit Go.Shelf
attribute [local go_sem] Oper.semAt_some bU
structure E14(w:World)(c o:Bool)(bm:Nat)(l:List (Nat×Tr))(V:World):Prop where
 bel:Below w.heap.size w V
 mode:V.heap[bm]?=some (.cells #[.bool c,.bool o] 27 (0,0))
 at':∀ p∈l,BoxN V p.1 p.2.f/\TB V p.2
theorem E14.kept{w V V':World}{c o:Bool}{bm:Nat}{l:List (Nat×Tr)}(h:E14 w c o bm l V)(hb:Below V.heap.size V V'):E14 w c o bm l V':=
 ⟨aF h.bel hb lz9,(hb.block _ (aC h.mode)).trans h.mode,fun p hp=>⟨(hb.block _ (aC (h.at' p hp).1)).trans (h.at' p hp).1,(h.at' p hp).2.kept hb⟩⟩
theorem E14.add{w V:World}{c o:Bool}{bm b:Nat}{l:List (Nat×Tr)}{t:Tr}(h:E14 w c o bm l V)(hb:BoxN V b t.f)(ht:TB V t):E14 w c o bm ((b,t) :: l) V:=
 ⟨h.bel,h.mode,fun p hp=>by
  rcases n7.1 hp with rfl | hp
  ·exact⟨hb,ht⟩
  ·exact h.at' p hp⟩
theorem E14.put{w V:World}{c o:Bool}{bm:Nat}{l:List (Nat×Tr)}{t:Tr}(h:E14 w c o bm l V)(ht:TB V t):E14 w c o bm ((V.heap.size,t) :: l) (V.alloc (.cells #[.int .i64 t.f.k,.int .i64 t.f.n,.int .i64 t.f.mn,.int .i64 t.f.mx,.slice t.f.rq t.f.rs.length t.f.rc,.slice t.f.kq t.f.kl t.f.kc] 25)):=
 (h.kept (bz9)).add (aD V _) (ht.kept (bz9))
theorem aM8{N:Nat->Prop}{V V':World}(h:Fr N V V'):CKeep (fun k=>¬ N k) V V':=⟨h.size,fun k _ _ _ hk hc=>(h.block k (aC hc) hk).trans hc⟩
theorem E14.fr{w V V':World}{c o:Bool}{bm:Nat}{l l':List (Nat×Tr)}{N:Nat->Prop}(h:E14 w c o bm l V)(hf:Fr N V V')(hw:∀ k,N k->w.heap.size<=k)(hm:¬ N bm)(hl:∀ p∈l',p∈l)(hp:∀ p∈l',¬ N p.1/\Foot (fun k=>¬ N k) p.2):E14 w c o bm l' V':=
 ⟨aX h.bel hf lz9 hw,(hf.block _ (aC h.mode) hm).trans h.mode,fun p q=>⟨(hf.block _ (aC (h.at' p (hl p q)).1) (hp p q).1).trans (h.at' p (hl p q)).1,(h.at' p (hl p q)).2.ckN (hp p q).2 (aM8 hf)⟩⟩
theorem E14.lt{w V:World}{c o:Bool}{bm:Nat}{l:List (Nat×Tr)}(h:E14 w c o bm l V):∀ p∈l,p.1<V.heap.size/\Foot (fun k=>k<V.heap.size) p.2:=fun p q=>⟨aC (h.at' p q).1,(h.at' p q).2.foot⟩
theorem yU{c o:Bool}{x:Ps}(h:∀ s∈pfl x,dD c o s){t:Tr}(e:er t=te x):∀ z∈pp [] t,z.2.f.rs.length<=1048580:=by
 have key:∀ t:Tr,er t=te x->bG (fun v=>v.f.rs.length<=1048580) t:=by
  refine Ps.ind (P:=fun x=>(∀ s∈pfl x,dD c o s)->∀ t:Tr,er t=te x->bG (fun v=>v.f.rs.length<=1048580) t) (fun x ih=>?_) x h
  intro h t e
  refine(aL _).2 ⟨?_,(aO _).2 fun u hu=>?_⟩
  ·rw [<- tV,e]
   cases x with
   | lf k n rs=>
    rw [te]
    show rs.length<=_
    by_cases hk:k=2
    ·subst hk;exact j4 (kI ((h (.lf 2 n rs) (by rw [pfl];simp)).1 rfl).1.1) (by omega)
    ·rw [(h (.lf k n rs) (by rw [pfl];simp)).2.1 hk];simp
   | grp n y=>rw [te];simp [Er.rgs]
   | rep a b y=>rw [te];simp [Er.rgs]
   | row l=>rw [te];split <;> simp [Er.rgs]
   | alt l=>rw [te];simp [Er.rgs]
  ·have hm:er u∈x.kids.map te:=by rw [<- pW e];exact m9.2 ⟨u,hu,rfl⟩
   obtain⟨y,hy,ey⟩:=m9.1 hm
   exact ih y hy (fun s hs=>h s (pM hy hs)) u ey.symm
 exact fun z hz=>((aL _).1 (gO t [] (key t e) z hz)).1
theorem aC1{c o:Bool}{x:Ps}{n m:Tr}(hx:PsOK c o x)(en:er n=te x)(em:er m=te (sim unC x)):(((if 2000<(pp [] m).length then 0 else aI (pp [] m):Nat):Int)==((if 2000<(pp [] n).length then 0 else aI (pp [] n):Nat):Int))=true:=by
 have h1:n.sz<=2000:=by rw [<- eF,en,eT];exact hx.sz
 have h2:m.sz<=2000:=by rw [<- eF,em,eT];exact hx.sim.sz
 rw [cL,cL,if_neg (by omega),if_neg (by omega),aB8 hx en em]
 simp
structure L14(c o:Bool)(x:Ps)(t tx m:Tr):Prop where
 ok:PsOK c o x
 et:er t=te x
 ex:er tx=te x
 em:er m=te (sim unC x)
theorem L14.sz{c o:Bool}{x:Ps}{t tx m:Tr}(h:L14 c o x t tx m):t.sz<=2000/\tx.sz<=2000/\m.sz<=2000:=by
 refine⟨?_,?_,?_⟩
 ·rw [<- eF,h.et,eT];exact h.ok.sz
 ·rw [<- eF,h.ex,eT];exact h.ok.sz
 ·rw [<- eF,h.em,eT];exact h.ok.sim.sz
theorem kK{w:World}{a b:Tr}(ha:TB w a)(hb:TB w b)(h:er a=er b)(hs:a.sz<=2000):Calls Tryz.prog 16 #[.agg #[.int .i64 a.f.k,.int .i64 a.f.n,.int .i64 a.f.mn,.int .i64 a.f.mx,.slice a.f.rq a.f.rs.length a.f.rc,.slice a.f.kq a.f.kl a.f.kc],.agg #[.int .i64 b.f.k,.int .i64 b.f.n,.int .i64 b.f.mn,.int .i64 b.f.mx,.slice b.f.rq b.f.rs.length b.f.rc,.slice b.f.kq b.f.kl b.f.kc]] w fun e w'=>e=.returned (.bool true)/\Below w.heap.size w w':=
 (lN ha hb).mono fun e w' ⟨h1,h2⟩=>⟨by rw [h1,pJ h hs],h2⟩
theorem tP{w:World}{t:Tr}(c o:Bool)(hT:TB w t)(hf:∀ x∈pp [] t,x.2.f.rs.length<=1048576) :
  Calls Tryz.prog 4 #[.agg #[.int .i64 t.f.k,.int .i64 t.f.n,.int .i64 t.f.mn,.int .i64 t.f.mx,.slice t.f.rq t.f.rs.length t.f.rc,.slice t.f.kq t.f.kl t.f.kc],.agg #[.bool c,.bool o]] w fun e w'=>e=.returned (.bool true)/\Below w.heap.size w w':=by
 have hsm:∀ x∈pp [] t,x.2.f.rs.length<=1048580:=fun x hx=>j4 (hf x hx) (by omega)
 have E1:Hid (E14 w c o (w.heap.size+1) [(w.heap.size,t)] ((w.alloc (.cells #[.int .i64 t.f.k,.int .i64 t.f.n,.int .i64 t.f.mn,.int .i64 t.f.mx,.slice t.f.rq t.f.rs.length t.f.rc,.slice t.f.kq t.f.kl t.f.kc] 25)).alloc (.cells #[.bool c,.bool o] 27))):=by
  have K:=((Below.refl w.heap.size w).alloc lz9 (.cells #[.int .i64 t.f.k,.int .i64 t.f.n,.int .i64 t.f.mn,.int .i64 t.f.mx,.slice t.f.rq t.f.rs.length t.f.rc,.slice t.f.kq t.f.kl t.f.kc] 25)).alloc (by simp) (.cells #[.bool c,.bool o] 27)
  exact aB ⟨K,lG _ (by simp only [m8]),fun p hp=>by
   simp at hp
   subst hp
   exact⟨(Below.heap_alloc _ _ _ (by simp)).trans (aD w _),hT.kept K⟩⟩
 have HSM:=aB hsm
 have EX:=aB (fun W=>qB W)
 obtain⟨R,hR⟩:∃ R,aV c o 0 0 (pp [] t)=R:=⟨_,rfl⟩
 have HR:=aB hR
 clear hT hf hsm hR
 go_enter Tryz.func4,Tryz.ntmps4
 go_upto_region 1 with fail
 generalize ((w.alloc (.cells #[.int .i64 t.f.k,.int .i64 t.f.n,.int .i64 t.f.mn,.int .i64 t.f.mx,.slice t.f.rq t.f.rs.length t.f.rc,.slice t.f.kq t.f.kl t.f.kc] 25)).alloc (.cells #[.bool c,.bool o] 27))=w1 at E1 ⊢
 obtain⟨bn,hbn⟩:∃ b,w.heap.size=b:=⟨_,rfl⟩
 obtain⟨bm,hbm⟩:∃ b,bn+1=b:=⟨_,rfl⟩
 rw [hbn,hbm] at E1 ⊢
 have hlo:w.heap.size<=bn/\w.heap.size<=bm:=by omega
 clear hbn hbm
 go_upto_region 2 with (go_at_call 5;(with_reducible refine(EX.out _).mono ?_);rintro e w2 ⟨rfl,h5⟩;have E2:=aB (E1.out.kept h5);clear h5)
 clear E1 EX
 have A2:=E2.out.at' (bn,t) (by simp)
 obtain⟨n0,n1,n2,n3,n4,n5⟩:=(show BoxN w2 bn t.f from A2.1).six
 simp only [a7] at n1 n2 n3 n4 n5
 have a0:=aA E2.out.mode (i:=0) rfl
 have a1:=aA E2.out.mode (i:=1) rfl
 have DR2:=aB (pK c o (show TB w2 t from A2.2) HSM.out)
 rw [HR.out] at DR2
 clear A2
 by_cases hr0:R=0
 ·subst hr0
  go_upto_region 4 with (go_at_call 6;(with_reducible refine(DR2.out).mono ?_);rintro e w3 ⟨rfl,h5⟩;have E3:=aB (E2.out.kept h5);clear h5)
  clear n0 n1 n2 n3 n4 n5 a0 a1 E2 DR2
  obtain⟨x,hex,hok⟩:=aU5 HR.out
  have HEX:=aB hex
  have HOK:=aB hok
  have htz:t.sz<=2000:=by rw [<- eF,hex,eT];exact hok.sz
  clear hex hok HR
  have A3:=E3.out.at' (bn,t) (by simp)
  obtain⟨n0,n1,n2,n3,n4,n5⟩:=(show BoxN w3 bn t.f from A3.1).six
  simp only [a7] at n1 n2 n3 n4 n5
  have CP:=aB (vK 2000 t w3 htz (by omega) A3.2)
  clear A3
  go_upto_region 5 with (go_at_call 12;(with_reducible refine(CP.out).mono ?_);rintro e w4 ⟨tx,rfl,h1,h2,h3,h4⟩;have E4:=aB ((E3.out.kept h4).put h1);have HX:=aB (h2.trans HEX.out);clear h1 h2 h3 h4)
  clear n0 n1 n2 n3 n4 n5 E3 CP
  obtain⟨bx,hbx⟩:∃ b,w4.heap.size=b:=⟨_,rfl⟩
  generalize (w4.alloc (.cells #[.int .i64 tx.f.k,.int .i64 tx.f.n,.int .i64 tx.f.mn,.int .i64 tx.f.mx,.slice tx.f.rq tx.f.rs.length tx.f.rc,.slice tx.f.kq tx.f.kl tx.f.kc] 25))=V4 at E4 ⊢
  rw [hbx] at E4 ⊢
  clear hbx
  have A4:=E4.out.at' (bx,tx) (by simp)
  obtain⟨n0,n1,n2,n3,n4,n5⟩:=(show BoxN V4 bx tx.f from A4.1).six
  simp only [a7] at n1 n2 n3 n4 n5
  have a0:=aA E4.out.mode (i:=0) rfl
  have a1:=aA E4.out.mode (i:=1) rfl
  have SM:=aB (dT (show TB V4 tx from A4.2) HX.out HOK.out)
  have LT4:=aB E4.out.lt
  have lm4:=aC E4.out.mode
  have ls4:=E4.out.bel.size
  clear A4
  go_upto_region 6 with (go_at_call 7;(with_reducible refine(SM.out).mono ?_);rintro e w5 ⟨m,rfl,h1,h2,h3,h4⟩;have E5:=aB ((E4.out.kept h4).put h1.tb);have TM5:=aB (h1.kept (qG w5 (.cells #[.int .i64 m.f.k,.int .i64 m.f.n,.int .i64 m.f.mn,.int .i64 m.f.mx,.slice m.f.rq m.f.rs.length m.f.rc,.slice m.f.kq m.f.kl m.f.kc] 25)));have FM:Hid (Foot (fun k=>V4.heap.size<=k/\k<w5.heap.size) m):=aB (fE (fun _ a b=>⟨fun q e z=>⟨a.1 q e z,b.1 q e z⟩,fun q e z=>⟨a.2 q e z,b.2 q e z⟩⟩) m h2 h1.foot);have HL:Hid (L14 c o x t tx m):=aB ⟨HOK.out,HEX.out,HX.out,h3⟩;have ls5:=h4.size;clear h1 h2 h3 h4)
  clear n0 n1 n2 n3 n4 n5 a0 a1 E4 SM HEX HX HOK
  obtain⟨b5,hb5⟩:∃ b,V4.heap.size=b:=⟨_,rfl⟩
  obtain⟨bb,hbb⟩:∃ b,w5.heap.size=b:=⟨_,rfl⟩
  have l55:(w5.alloc (.cells #[.int .i64 m.f.k,.int .i64 m.f.n,.int .i64 m.f.mn,.int .i64 m.f.mx,.slice m.f.rq m.f.rs.length m.f.rc,.slice m.f.kq m.f.kl m.f.kc] 25)).heap.size=w5.heap.size+1:=by simp
  generalize (w5.alloc (.cells #[.int .i64 m.f.k,.int .i64 m.f.n,.int .i64 m.f.mn,.int .i64 m.f.mx,.slice m.f.rq m.f.rs.length m.f.rc,.slice m.f.kq m.f.kl m.f.kc] 25))=V5 at E5 TM5 l55 ⊢
  rw [hb5] at LT4 lm4 ls4 ls5 FM
  rw [hbb] at E5 ls5 FM l55 ⊢
  clear hb5 hbb
  have A5:=E5.out.at' (bb,m) (by simp)
  obtain⟨n0,n1,n2,n3,n4,n5⟩:=(show BoxN V5 bb m.f from A5.1).six
  simp only [a7] at n1 n2 n3 n4 n5
  have a0:=aA E5.out.mode (i:=0) rfl
  have a1:=aA E5.out.mode (i:=1) rfl
  have DM:Hid (Calls Tryz.prog 6 #[.agg #[.int .i64 m.f.k,.int .i64 m.f.n,.int .i64 m.f.mn,.int .i64 m.f.mx,.slice m.f.rq m.f.rs.length m.f.rc,.slice m.f.kq m.f.kl m.f.kc],.agg #[.bool c,.bool o]] V5 fun e w'=>e=.returned (.int .i64 0)/\Below V5.heap.size V5 w'):=aB ((pK c o (show TB V5 m from A5.2) (yU HL.out.ok.sim.sg HL.out.em)).mono fun e w' ⟨h1,h2⟩=>⟨by rw [h1,HL.out.ok.sim.right HL.out.em],h2⟩)
  clear A5
  go_upto_region 8 with (go_at_call 6;(with_reducible refine(DM.out).mono ?_);rintro e w6 ⟨rfl,h5⟩;have E6:=aB (E5.out.kept h5);have TM6:=aB (TM5.out.kept h5);have ls6:=h5.size;clear h5)
  clear n0 n1 n2 n3 n4 n5 a0 a1 E5 DM TM5
  go_cut [9] (fun u wx=>u=.bool true/\Below w6.heap.size w6 wx)
  case first=>
   have A6:=E6.out.at' (bb,m) (by simp)
   have B6:=E6.out.at' (bn,t) (by simp)
   have lb:bb<w6.heap.size:=aC A6.1
   have ln:bn<w6.heap.size:=aC B6.1
   have lm:bm<w6.heap.size:=aC E6.out.mode
   obtain⟨n0,n1,n2,n3,n4,n5⟩:=(show BoxN w6 bn t.f from B6.1).six
   obtain⟨m0,m1,m2,m3,m4,m5⟩:=(show BoxN w6 bb m.f from A6.1).six
   simp only [a7] at n1 n2 n3 n4 n5 m1 m2 m3 m4 m5
   have a0:=aA E6.out.mode (i:=0) rfl
   have a1:=aA E6.out.mode (i:=1) rfl
   have TT:=aB (show TB w6 t from B6.2)
   have TMM:=aB (show TB w6 m from A6.2)
   obtain⟨c1,hc1⟩:∃ k:Int,(eK m:Int)=k:=⟨_,rfl⟩
   obtain⟨c2,hc2⟩:∃ k:Int,(eK t:Int)=k:=⟨_,rfl⟩
   obtain⟨s1,hs1⟩:∃ k:Int,tvI (gH c) c o m=k:=⟨_,rfl⟩
   obtain⟨s2,hs2⟩:∃ k:Int,tvI (gH c) c o t=k:=⟨_,rfl⟩
   obtain⟨g1,hg1⟩:∃ k:Int,((if 2000<(pp [] m).length then 0 else aI (pp [] m):Nat):Int)=k:=⟨_,rfl⟩
   obtain⟨g2,hg2⟩:∃ k:Int,((if 2000<(pp [] t).length then 0 else aI (pp [] t):Nat):Int)=k:=⟨_,rfl⟩
   have C1:Hid (∀ z:Ext w6,Calls Tryz.prog 13 #[.agg #[.int .i64 m.f.k,.int .i64 m.f.n,.int .i64 m.f.mn,.int .i64 m.f.mx,.slice m.f.rq m.f.rs.length m.f.rc,.slice m.f.kq m.f.kl m.f.kc]] z.val fun e w''=>e=.returned (.int .i64 c1)/\∃ y:Ext w6,w''=y.val):=aB fun z=>dH (by rw [<- hc1];exact uM (TMM.out.kept (cP z)))
   have C2:Hid (∀ z:Ext w6,Calls Tryz.prog 13 #[.agg #[.int .i64 t.f.k,.int .i64 t.f.n,.int .i64 t.f.mn,.int .i64 t.f.mx,.slice t.f.rq t.f.rs.length t.f.rc,.slice t.f.kq t.f.kl t.f.kc]] z.val fun e w''=>e=.returned (.int .i64 c2)/\∃ y:Ext w6,w''=y.val):=aB fun z=>dH (by rw [<- hc2];exact uM (TT.out.kept (cP z)))
   have S1:Hid (∀ z:Ext w6,Calls Tryz.prog 8 #[.agg #[.int .i64 m.f.k,.int .i64 m.f.n,.int .i64 m.f.mn,.int .i64 m.f.mx,.slice m.f.rq m.f.rs.length m.f.rc,.slice m.f.kq m.f.kl m.f.kc],.agg #[.bool c,.bool o]] z.val fun e w''=>e=.returned (.int .i64 s1)/\∃ y:Ext w6,w''=y.val):=aB fun z=>dH (by rw [<- hs1];exact vJ c o (TMM.out.kept (cP z)) (yU HL.out.ok.sim.sg HL.out.em))
   have S2:Hid (∀ z:Ext w6,Calls Tryz.prog 8 #[.agg #[.int .i64 t.f.k,.int .i64 t.f.n,.int .i64 t.f.mn,.int .i64 t.f.mx,.slice t.f.rq t.f.rs.length t.f.rc,.slice t.f.kq t.f.kl t.f.kc],.agg #[.bool c,.bool o]] z.val fun e w''=>e=.returned (.int .i64 s2)/\∃ y:Ext w6,w''=y.val):=aB fun z=>dH (by rw [<- hs2];exact vJ c o (TT.out.kept (cP z)) HSM.out)
   have G1:Hid (∀ z:Ext w6,Calls Tryz.prog 14 #[.agg #[.int .i64 m.f.k,.int .i64 m.f.n,.int .i64 m.f.mn,.int .i64 m.f.mx,.slice m.f.rq m.f.rs.length m.f.rc,.slice m.f.kq m.f.kl m.f.kc]] z.val fun e w''=>e=.returned (.int .i64 g1)/\∃ y:Ext w6,w''=y.val):=aB fun z=>dH (by rw [<- hg1];exact mY (TMM.out.kept (cP z)))
   have G2:Hid (∀ z:Ext w6,Calls Tryz.prog 14 #[.agg #[.int .i64 t.f.k,.int .i64 t.f.n,.int .i64 t.f.mn,.int .i64 t.f.mx,.slice t.f.rq t.f.rs.length t.f.rc,.slice t.f.kq t.f.kl t.f.kc]] z.val fun e w''=>e=.returned (.int .i64 g2)/\∃ y:Ext w6,w''=y.val):=aB fun z=>dH (by rw [<- hg2];exact mY (TT.out.kept (cP z)))
   have hc:c1<=c2:=by rw [<- hc1,<- hc2];exact_mod_cast aD1 HL.out.et HL.out.em
   have hs:s1<=s2:=by rw [<- hs1,<- hs2];exact vV HL.out.ok HL.out.et HL.out.em
   have hg:(g1==g2)=true:=by rw [<- hg1,<- hg2];exact aC1 HL.out.ok HL.out.et HL.out.em
   clear hc1 hc2 hs1 hs2 hg1 hg2 A6 B6 TT TMM
   refine wx9 ?_
   repeat (go_big_quiet_step (first | exact rfl |(go_at_call 13;(with_reducible first | exact C1.out _ | exact C2.out _)) |(go_at_call 8;(with_reducible first | exact S1.out _ | exact S2.out _)) |(go_at_call 14;(with_reducible first | exact G1.out _ | exact G2.out _))))
   refine wpQuiet_nil ?_
   intro w7 hw
   have B7:=aB (aS hw)
   clear hw
   go_wp2
   go_meet
   exact⟨rfl,B7.out⟩
  case rest=>
  obtain⟨rfl,hw7⟩:=hcut
  have E7:=aB (E6.out.kept hw7)
  have TM7:=aB (TM6.out.kept hw7)
  have ls7:=hw7.size
  clear hw7 E6 TM6
  have NA:=E7.out.at' (bb,m) (by simp)
  obtain⟨n0,n1,n2,n3,n4,n5⟩:=(show BoxN wc bb m.f from NA.1).six
  simp only [a7] at n1 n2 n3 n4 n5
  have LF:=aB (aR5 (show TB wc m from NA.2) HL.out.sz.2.2 (aR4 _ m HL.out.em HL.out.ok.sim.wf (jD unC x)))
  clear NA
  go_upto_region 10 with (go_at_call 15;(with_reducible refine(LF.out).mono ?_);rintro e w8 ⟨rfl,h5⟩;have E8:=aB (E7.out.kept h5);have TM8:=aB (TM7.out.kept h5);have ls8:=h5.size;clear h5)
  clear n0 n1 n2 n3 n4 n5 E7 LF TM7
  have NA:=E8.out.at' (bb,m) (by simp)
  obtain⟨n0,n1,n2,n3,n4,n5⟩:=(show BoxN w8 bb m.f from NA.1).six
  simp only [a7] at n1 n2 n3 n4 n5
  have CP:=aB (vK 2000 m w8 HL.out.sz.2.2 (by have:=HL.out.sz.2.2;omega) NA.2)
  clear NA
  go_upto_region 11 with (go_at_call 12;(with_reducible refine(CP.out).mono ?_);rintro e w9 ⟨tk,rfl,h1,h2,h3,h4⟩;have E9:=aB ((E8.out.kept h4).put h1);have TM9:=aB ((TM8.out.kept h4).kept (qG w9 (.cells #[.int .i64 tk.f.k,.int .i64 tk.f.n,.int .i64 tk.f.mn,.int .i64 tk.f.mx,.slice tk.f.rq tk.f.rs.length tk.f.rc,.slice tk.f.kq tk.f.kl tk.f.kc] 25)));have HK:=aB (h2.trans HL.out.em);have ls9:=h4.size;have FK:Hid (Foot (fun k=>bb<k) tk):=aB (h3.mono fun k (q:w8.heap.size<=k)=>show bb<k by omega);have l99:(w9.alloc (.cells #[.int .i64 tk.f.k,.int .i64 tk.f.n,.int .i64 tk.f.mn,.int .i64 tk.f.mx,.slice tk.f.rq tk.f.rs.length tk.f.rc,.slice tk.f.kq tk.f.kl tk.f.kc] 25)).heap.size=w9.heap.size+1:=(by simp);clear h1 h2 h3 h4)
  clear n0 n1 n2 n3 n4 n5 E8 CP TM8
  obtain⟨bk,hbk⟩:∃ b,w9.heap.size=b:=⟨_,rfl⟩
  generalize (w9.alloc (.cells #[.int .i64 tk.f.k,.int .i64 tk.f.n,.int .i64 tk.f.mn,.int .i64 tk.f.mx,.slice tk.f.rq tk.f.rs.length tk.f.rc,.slice tk.f.kq tk.f.kl tk.f.kc] 25))=V9 at E9 TM9 l99 ⊢
  rw [hbk] at E9 l99 ls9 ⊢
  clear hbk
  have hbk:bb<bk:=by omega
  have NA:=E9.out.at' (bb,m) (by simp)
  obtain⟨n0,n1,n2,n3,n4,n5⟩:=(show BoxN V9 bb m.f from NA.1).six
  simp only [a7] at n1 n2 n3 n4 n5
  have a0:=aA E9.out.mode (i:=0) rfl
  have a1:=aA E9.out.mode (i:=1) rfl
  have SM:=aB (dT (show TB V9 m from NA.2) HL.out.em HL.out.ok.sim)
  rw [vY unC HL.out.ok.wf] at SM
  have LT9:=aB E9.out.lt
  have lm9:=aC E9.out.mode
  clear NA
  go_upto_region 12 with (go_at_call 7;(with_reducible refine(SM.out).mono ?_);rintro e w10 ⟨ta,rfl,h1,h2,h3,h4⟩;have E10:=aB ((E9.out.kept h4).put h1.tb);have TM10:=aB ((TM9.out.kept h4).kept (qG w10 (.cells #[.int .i64 ta.f.k,.int .i64 ta.f.n,.int .i64 ta.f.mn,.int .i64 ta.f.mx,.slice ta.f.rq ta.f.rs.length ta.f.rc,.slice ta.f.kq ta.f.kl ta.f.kc] 25)));have TA10:=aB (h1.kept (qG w10 (.cells #[.int .i64 ta.f.k,.int .i64 ta.f.n,.int .i64 ta.f.mn,.int .i64 ta.f.mx,.slice ta.f.rq ta.f.rs.length ta.f.rc,.slice ta.f.kq ta.f.kl ta.f.kc] 25)));have HA:=aB h3;have FA:=aB h2;have ls10:=h4.size;clear h1 h2 h3 h4)
  clear n0 n1 n2 n3 n4 n5 a0 a1 E9 SM TM9
  obtain⟨b9,hb9⟩:∃ b,V9.heap.size=b:=⟨_,rfl⟩
  obtain⟨ba,hba⟩:∃ b,w10.heap.size=b:=⟨_,rfl⟩
  generalize (w10.alloc (.cells #[.int .i64 ta.f.k,.int .i64 ta.f.n,.int .i64 ta.f.mn,.int .i64 ta.f.mx,.slice ta.f.rq ta.f.rs.length ta.f.rc,.slice ta.f.kq ta.f.kl ta.f.kc] 25))=V10 at E10 TM10 TA10 ⊢
  rw [hb9] at LT9 lm9 ls10 FA l99
  rw [hba] at E10 ls10 ⊢
  clear hb9 hba
  have NA:=E10.out.at' (ba,ta) (by simp)
  have MA:=E10.out.at' (bb,m) (by simp)
  obtain⟨n0,n1,n2,n3,n4,n5⟩:=(show BoxN V10 ba ta.f from NA.1).six
  simp only [a7] at n1 n2 n3 n4 n5
  obtain⟨m0,m1,m2,m3,m4,m5⟩:=(show BoxN V10 bb m.f from MA.1).six
  simp only [a7] at m1 m2 m3 m4 m5
  have RS:Hid (Calls Tryz.prog 16 #[.agg #[.int .i64 ta.f.k,.int .i64 ta.f.n,.int .i64 ta.f.mn,.int .i64 ta.f.mx,.slice ta.f.rq ta.f.rs.length ta.f.rc,.slice ta.f.kq ta.f.kl ta.f.kc],.agg #[.int .i64 m.f.k,.int .i64 m.f.n,.int .i64 m.f.mn,.int .i64 m.f.mx,.slice m.f.rq m.f.rs.length m.f.rc,.slice m.f.kq m.f.kl m.f.kc]] V10 fun e w'=>e=.returned (.bool true)/\Below V10.heap.size V10 w'):=aB (kK NA.2 MA.2 (HA.out.trans HL.out.em.symm) (by rw [<- eF,HA.out,eT];exact HL.out.ok.sim.sz))
  clear NA MA
  go_upto_region 13 with (go_at_call 16;(with_reducible refine(RS.out).mono ?_);rintro e w11 ⟨rfl,h5⟩;have E11:=aB (E10.out.kept h5);have TM11:=aB (TM10.out.kept h5);have TA11:=aB (TA10.out.kept h5);have ls11:=h5.size;clear h5)
  clear n0 n1 n2 n3 n4 n5 m0 m1 m2 m3 m4 m5 E10 RS TM10 TA10
  have NA:=E11.out.at' (ba,ta) (by simp)
  obtain⟨n0,n1,n2,n3,n4,n5⟩:=(show BoxN w11 ba ta.f from NA.1).six
  simp only [a7] at n1 n2 n3 n4 n5
  have SP:=aB (yR ta.sz ta (fun k=>b9<=k) w11 lz9 (TA11.out.sa FA.out))
  clear NA
  have KEY:Hid (∀ w12:World,XW9 (fun k=>b9<=k) w11 w12->E14 w c o bm [(bk,tk),(bb,m),(bx,tx),(bn,t)] w12/\TA w12 m):=aB fun w12 hx=>by
   refine⟨E11.out.fr hx.fr (fun k (q:b9<=k)=>by omega) (show ¬ b9<=bm by omega) (fun p hp=>b6 _ hp) (fun p hp=>?_),TM11.out.ckN (FM.out.mono fun k q=>?_) (aM8 hx.fr)⟩
   ·have:=LT9.out p hp
    exact⟨show ¬ b9<=p.1 by omega,this.2.mono fun k (q:k<b9)=>show ¬ b9<=k by omega⟩
   ·have q':b5<=k/\k<bb:=q
    show ¬ b9<=k
    omega
  go_upto_region 14 with (go_at_call 17;(with_reducible refine(SP.out).mono ?_);rintro e w12 ⟨rfl,h5⟩;have E12:=aB (KEY.out w12 h5).1;have TM12:=aB (KEY.out w12 h5).2;have ls12:=h5.fr.size;clear h5)
  clear n0 n1 n2 n3 n4 n5 E11 SP TM11 TA11 KEY FA HA
  have NA:=E12.out.at' (bb,m) (by simp)
  have MA:=E12.out.at' (bk,tk) (by simp)
  obtain⟨n0,n1,n2,n3,n4,n5⟩:=(show BoxN w12 bb m.f from NA.1).six
  simp only [a7] at n1 n2 n3 n4 n5
  obtain⟨m0,m1,m2,m3,m4,m5⟩:=(show BoxN w12 bk tk.f from MA.1).six
  simp only [a7] at m1 m2 m3 m4 m5
  have RS:Hid (Calls Tryz.prog 16 #[.agg #[.int .i64 m.f.k,.int .i64 m.f.n,.int .i64 m.f.mn,.int .i64 m.f.mx,.slice m.f.rq m.f.rs.length m.f.rc,.slice m.f.kq m.f.kl m.f.kc],.agg #[.int .i64 tk.f.k,.int .i64 tk.f.n,.int .i64 tk.f.mn,.int .i64 tk.f.mx,.slice tk.f.rq tk.f.rs.length tk.f.rc,.slice tk.f.kq tk.f.kl tk.f.kc]] w12 fun e w'=>e=.returned (.bool true)/\Below w12.heap.size w12 w'):=aB (kK NA.2 MA.2 (HL.out.em.trans HK.out.symm) HL.out.sz.2.2)
  clear NA MA
  go_upto_region 15 with (go_at_call 16;(with_reducible refine(RS.out).mono ?_);rintro e w13 ⟨rfl,h5⟩;have E13:=aB (E12.out.kept h5);have TM13:=aB (TM12.out.kept h5);clear h5)
  clear n0 n1 n2 n3 n4 n5 m0 m1 m2 m3 m4 m5 E12 RS TM12
  have NA:=E13.out.at' (bb,m) (by simp)
  obtain⟨n0,n1,n2,n3,n4,n5⟩:=(show BoxN w13 bb m.f from NA.1).six
  simp only [a7] at n1 n2 n3 n4 n5
  have SP:=aB (yR m.sz m (fun k=>b5<=k/\k<bb) w13 lz9 (TM13.out.sa FM.out))
  clear NA
  have KEY:Hid (∀ w14:World,XW9 (fun k=>b5<=k/\k<bb) w13 w14->E14 w c o bm [(bk,tk),(bx,tx),(bn,t)] w14):=aB fun w14 hx=>by
   refine E13.out.fr hx.fr (fun k (q:b5<=k/\k<bb)=>by omega) (show ¬ (b5<=bm/\bm<bb) by omega) (fun p hp=>by simp at hp ⊢;rcases hp with h | h | h <;> simp [h]) (fun p hp=>?_)
   rcases n7.1 hp with rfl | hp
   ·exact⟨show ¬ (b5<=bk/\bk<bb) by omega,FK.out.mono fun k (q:bb<k)=>show ¬ (b5<=k/\k<bb) by omega⟩
   ·have:=LT4.out p hp
    exact⟨show ¬ (b5<=p.1/\p.1<bb) by omega,this.2.mono fun k (q:k<b5)=>show ¬ (b5<=k/\k<bb) by omega⟩
  go_upto_region 16 with (go_at_call 17;(with_reducible refine(SP.out).mono ?_);rintro e w14 ⟨rfl,h5⟩;have E14:=aB (KEY.out w14 h5);clear h5)
  clear n0 n1 n2 n3 n4 n5 E13 SP TM13 KEY
  have NA:=E14.out.at' (bx,tx) (by simp)
  obtain⟨n0,n1,n2,n3,n4,n5⟩:=(show BoxN w14 bx tx.f from NA.1).six
  simp only [a7] at n1 n2 n3 n4 n5
  have a0:=aA E14.out.mode (i:=0) rfl
  have a1:=aA E14.out.mode (i:=1) rfl
  have SM:=aB (dT (show TB w14 tx from NA.2) HL.out.ex HL.out.ok)
  clear NA
  go_upto_region 17 with (go_at_call 7;(with_reducible refine(SM.out).mono ?_);rintro e w15 ⟨tt,rfl,h1,h2,h3,h4⟩;have E15:=aB ((E14.out.kept h4).put h1.tb);have HTT:=aB h3;clear h1 h2 h3 h4)
  clear n0 n1 n2 n3 n4 n5 a0 a1 E14 SM
  obtain⟨bt,hbt⟩:∃ b,w15.heap.size=b:=⟨_,rfl⟩
  generalize (w15.alloc (.cells #[.int .i64 tt.f.k,.int .i64 tt.f.n,.int .i64 tt.f.mn,.int .i64 tt.f.mx,.slice tt.f.rq tt.f.rs.length tt.f.rc,.slice tt.f.kq tt.f.kl tt.f.kc] 25))=V15 at E15 ⊢
  rw [hbt] at E15 ⊢
  clear hbt
  have NA:=E15.out.at' (bt,tt) (by simp)
  have MA:=E15.out.at' (bk,tk) (by simp)
  obtain⟨n0,n1,n2,n3,n4,n5⟩:=(show BoxN V15 bt tt.f from NA.1).six
  simp only [a7] at n1 n2 n3 n4 n5
  obtain⟨m0,m1,m2,m3,m4,m5⟩:=(show BoxN V15 bk tk.f from MA.1).six
  simp only [a7] at m1 m2 m3 m4 m5
  have RS:Hid (Calls Tryz.prog 16 #[.agg #[.int .i64 tt.f.k,.int .i64 tt.f.n,.int .i64 tt.f.mn,.int .i64 tt.f.mx,.slice tt.f.rq tt.f.rs.length tt.f.rc,.slice tt.f.kq tt.f.kl tt.f.kc],.agg #[.int .i64 tk.f.k,.int .i64 tk.f.n,.int .i64 tk.f.mn,.int .i64 tk.f.mx,.slice tk.f.rq tk.f.rs.length tk.f.rc,.slice tk.f.kq tk.f.kl tk.f.kc]] V15 fun e w'=>e=.returned (.bool true)/\Below V15.heap.size V15 w'):=aB (kK NA.2 MA.2 (HTT.out.trans HK.out.symm) (by rw [<- eF,HTT.out,eT];exact HL.out.ok.sim.sz))
  clear NA MA
  go_upto_region 18 with (go_at_call 16;(with_reducible refine(RS.out).mono ?_);rintro e w16 ⟨rfl,h5⟩;have E16:=aB (E15.out.kept h5);clear h5)
  clear n0 n1 n2 n3 n4 n5 m0 m1 m2 m3 m4 m5 E15 RS
  have NA:=E16.out.at' (bx,tx) (by simp)
  have MA:=E16.out.at' (bn,t) (by simp)
  obtain⟨n0,n1,n2,n3,n4,n5⟩:=(show BoxN w16 bx tx.f from NA.1).six
  simp only [a7] at n1 n2 n3 n4 n5
  obtain⟨m0,m1,m2,m3,m4,m5⟩:=(show BoxN w16 bn t.f from MA.1).six
  simp only [a7] at m1 m2 m3 m4 m5
  have RS:Hid (Calls Tryz.prog 16 #[.agg #[.int .i64 tx.f.k,.int .i64 tx.f.n,.int .i64 tx.f.mn,.int .i64 tx.f.mx,.slice tx.f.rq tx.f.rs.length tx.f.rc,.slice tx.f.kq tx.f.kl tx.f.kc],.agg #[.int .i64 t.f.k,.int .i64 t.f.n,.int .i64 t.f.mn,.int .i64 t.f.mx,.slice t.f.rq t.f.rs.length t.f.rc,.slice t.f.kq t.f.kl t.f.kc]] w16 fun e w'=>e=.returned (.bool true)/\Below w16.heap.size w16 w'):=aB (kK NA.2 MA.2 (HL.out.ex.trans HL.out.et.symm) HL.out.sz.2.1)
  clear NA MA
  go_upto_region 19 with (go_at_call 16;(with_reducible refine(RS.out).mono ?_);rintro e w17 ⟨rfl,h5⟩;have E17:=aB (E16.out.kept h5);clear h5)
  clear n0 n1 n2 n3 n4 n5 m0 m1 m2 m3 m4 m5 E16 RS
  go_wp2
  go_ret
  exact⟨rfl,E17.out.bel⟩
 ·have hr1:(R != 0)=true:=by simpa using hr0
  clear hr0
  go_wp2_with (go_at_call 6;(with_reducible refine(DR2.out).mono ?_);rintro e w3 ⟨rfl,h5⟩;have E3:=aB (E2.out.kept h5);clear h5)
  go_ret
  exact⟨rfl,E3.out.bel⟩
end
section
open Go Go.ChangeShapes Go.WideShapes Go.ChangeAt Go.RowKit
theorem nQ:Tryz.prog.cellsOf 25=6:=by kernel_rfl
theorem xM:Tryz.prog.cellsOf 53=2:=by kernel_rfl
theorem tW:Tryz.prog.cellsOf 22=1:=by kernel_rfl
theorem tX:Tryz.prog.cellsOf 23=1:=by kernel_rfl
theorem rZ{w:World}{g o:Nat}{v:Value}(h:w.cell? ⟨g,o,none⟩=some v):g<w.heap.size:=by
 rcases Nat.lt_or_ge g w.heap.size with h' | h'
 ·exact h'
 ·have:w.heap[g]?=none:=Array.getElem?_eq_none h'
  simp [World.cell?,this] at h
theorem sD{a:Addr}{W:World}{v:Value}(h:W.cell? (a.add 0)=some v):∃ b off,a=⟨b,off,none⟩:=by
 obtain⟨b,off,aT8⟩:=a
 cases aT8 with
 | none=>exact⟨b,off,rfl⟩
 | some k=>
  exfalso
  unfold Addr.add World.cell? at h
  simp at h
  split at h <;> simp_all
theorem rX:Tryz.prog.cellsOf 27=2:=by kernel_rfl
theorem rY:Tryz.prog.cellsOf 4=1:=by kernel_rfl
theorem tN{H:Type}{enc:TypeId×Value->H}{W:World}{base:Nat}{v:Value}{d:DataW H}{p:List MemPlace}(hok:Value.okWide Tryz.prog W .any base 27 v)
  (h:DataW.Trod enc Tryz.prog W 0 (fun _=>true) true 27 v d p):∃ c f:Bool,v=.agg #[.bool c,.bool f]:=by
 obtain⟨cs,rfl,hsz⟩:=okWide_struct Tryz.underlying27 hok
 obtain⟨fuel,hf⟩:=h
 obtain⟨xs,k,hk,hxy,hcl,hxl,hfs⟩:=DataW.trod_struct Tryz.underlying27 hf
 rw [rX] at hcl
 obtain⟨l⟩:=cs
 simp [Value.cells] at hcl hfs
 match xs,hxl,l,hcl,hfs with
 | [y0,y1],_,[c0,c1],_,hf=>
  have F0:=hf 0 _ rfl
  have F1:=hf 1 _ rfl
  simp [rY] at F0 F1
  obtain⟨b0,e0,-⟩:=DataW.trod_bool Tryz.underlying4 F0
  obtain⟨b1,e1,-⟩:=DataW.trod_bool Tryz.underlying4 F1
  cases e0;cases e1
  exact⟨b0,b1,rfl⟩
end
section
open Go Go.ChangeShapes Go.WideShapes Go.ChangeAt Go.RowKit
theorem xN{H:Type}(d:DataW H):1<=Rows.uptoBulk d:=by
 cases d with
 | lit l=>cases l <;> simp [Rows.uptoBulk]
 | nil=>simp [Rows.uptoBulk]
 | ptr d=>simp [Rows.uptoBulk]
 | slice elems spare=>simp [Rows.uptoBulk]
 | agg parts=>simp [Rows.uptoBulk]
 | iface t d=>simp [Rows.uptoBulk]
 | map entries=>simp [Rows.uptoBulk]
 | held h=>simp [Rows.uptoBulk]
theorem iD{H:Type}{d:DataW H}{l:List (DataW H)}(h:d∈l):Rows.uptoBulk d<=Rows.uptoBulkAll l:=by
 induction l with
 | nil=>cases h
 | cons x r ih=>
  simp only [Rows.uptoBulkAll]
  cases n7.1 h with
  | inl e=>subst e;omega
  | inr e=>have:=ih e;omega
theorem xO{H:Type}(l:List (DataW H)):l.length<=Rows.uptoBulkAll l:=by
 induction l with
 | nil=>simp [Rows.uptoBulkAll]
 | cons x r ih=>have:=xN x;simp only [Rows.uptoBulkAll,i9];omega
theorem aD6{H:Type}{d:DataW H}{l:List (DataW H)}(hk:Rows.uptoSmall H l=true)(h:d∈l):Rows.uptoBulk d<=1048576:=j4 (iD h) (of_decide_eq_true hk)
theorem tK{H:Type}{enc:TypeId×Value->H}{W:World}{fuel:Nat}{v:Value}{x:DataW H×List MemPlace}(hf:DataW.trod enc Tryz.prog W 0 (fun _=>true) true fuel 22 [v]=some x)(hw:Rows.uptoBulk x.1<=1048576) :
  ∃ (rs:List (Int×Int)) (q:Option Addr) (c:Nat),v=.slice q rs.length c/\ArgR W v rs/\Fit rs/\rs.length+3<=1048579:=by
 rcases Deep.open_slice_pairs Tryz.underlying22 Tryz.underlying53 xM rfl rfl lU lU hf with⟨h1,h2⟩ | ⟨a,len,cap,m,n,V0,V1,D0,D1,P0,P1,h1,_,hlc,hcap,hm,h2,hx⟩
 ·cases h1
  exact⟨[],none,0,rfl,.inl ⟨none,0,rfl,rfl,fun _=>rfl⟩,eE,by simp⟩
 ·cases h1
  rw [if_pos rfl] at hm
  subst hm
  by_cases hc:m=0
  ·have hl:len=0:=by omega
   subst hc hl
   exact⟨[],some a,0,rfl,.inl ⟨some a,0,rfl,rfl,fun q=>(by cases q)⟩,eE,by simp⟩
  ·have hp:∀ i,i<m->∃ q:Int×Int,V0 i=.int .i64 q.1/\V1 i=.int .i64 q.2/\(Lit.int .i64 q.1).wf=true/\(Lit.int .i64 q.2).wf=true:=fun i hi=>by
    obtain⟨_,_,g0,g1⟩:=hx i hi
    obtain⟨x0,e0,_,w0⟩:=DataW.trod_int Tryz.underlying3 g0
    obtain⟨x1,e1,_,w1⟩:=DataW.trod_int Tryz.underlying3 g1
    exact⟨(x0,x1),by simpa using e0,by simpa using e1,w0,w1⟩
   obtain⟨q,hq⟩:=Deep.choose_lt hp
   have c0:=(hx 0 (by omega)).1
   obtain⟨b,off,rfl⟩:=sD (by simpa using c0)
   have hadd:∀ j,(⟨b,off,none⟩:Addr).add j=⟨b,off+j,none⟩:=fun j=>by unfold Addr.add;split <;> simp_all
   have hb:b<W.heap.size:=by rw [hadd] at c0;exact rZ c0
   refine⟨(List.range len).map q,some ⟨b,off,none⟩,m,by simp,.inr ⟨b,off,m,by simp,hb,by simpa using hlc,hcap,fun i r hi'=>?_⟩,fun r hr=>?_,?_⟩
   ·have hil:i<len:=by have:=(i7.1 hi').1;simpa using this
    have hqi:q i=r:=by simpa [hil] using hi'
    obtain⟨k0,k1,_,_⟩:=hx i (by omega)
    rw [hadd,_root_.Go.Proofs.YtlamifbjklpdbaaGreat.u0] at k0
    rw [hadd,_root_.Go.Proofs.YtlamifbjklpdbaaGreat.u0,<- t9] at k1
    obtain⟨r0,r1,_,_⟩:=hq i (by omega)
    rw [hqi] at r0 r1
    exact⟨by rw [k0,r0],by rw [k1,r1]⟩
   ·obtain⟨i,hi,rfl⟩:=m9.1 hr
    have hil:i<len:=List.mem_range.1 hi
    obtain⟨_,_,w0,w1⟩:=hq i (by omega)
    exact⟨qL w0,qL w1⟩
   ·obtain⟨es,sp,e1,e2⟩:∃ es sp,x.1=.slice es sp/\es.length=len:=⟨_,_,congrArg Prod.fst h2,by simp⟩
    rw [e1] at hw
    simp only [Rows.uptoBulk] at hw
    have:=xO es
    simp
    omega
theorem tM{H:Type}{enc:TypeId×Value->H}{W:World}:∀ (fuel:Nat) (cs:List Value) (x:DataW H×List MemPlace),DataW.trod enc Tryz.prog W 0 (fun _=>true) true fuel 25 cs=some x->Rows.uptoBulk x.1<=1048576 ->
  ∃ t:Tr,(TB W t/\bG (fun u=>u.f.rs.length<=1048576) t)/\cs=[.int .i64 t.f.k,.int .i64 t.f.n,.int .i64 t.f.mn,.int .i64 t.f.mx,.slice t.f.rq t.f.rs.length t.f.rc,.slice t.f.kq t.f.kl t.f.kc]:=by
 intro fuel
 induction fuel using Nat.strongRecOn with
 | ind fuel ih=>
  intro cs x hf hw
  obtain⟨xs,k,hk,hxy,hcl,hxl,hfs⟩:=DataW.trod_struct Tryz.underlying25 hf
  have hD:x.1=.agg (xs.map (·.1)):=(congrArg Prod.fst hxy)
  rw [hD] at hw
  simp only [Rows.uptoBulk] at hw
  rw [nQ] at hcl
  clear hD hxy hf
  match xs,hxl,cs,hcl,hfs,hw with
  | [y0,y1,y2,y3,y4,y5],_,[v0,v1,v2,v3,v4,v5],_,hf,hwi=>
   have F0:=hf 0 _ rfl
   have F1:=hf 1 _ rfl
   have F2:=hf 2 _ rfl
   have F3:=hf 3 _ rfl
   have F4:=hf 4 _ rfl
   have F5:=hf 5 _ rfl
   simp [lU,tW,tX] at F0 F1 F2 F3 F4 F5
   obtain⟨x0,e0,_,w0⟩:=DataW.trod_int Tryz.underlying3 F0
   obtain⟨x1,e1,_,w1⟩:=DataW.trod_int Tryz.underlying3 F1
   obtain⟨x2,e2,_,w2⟩:=DataW.trod_int Tryz.underlying3 F2
   obtain⟨x3,e3,_,w3⟩:=DataW.trod_int Tryz.underlying3 F3
   obtain⟨rs,q,c,rfl,hr,hfit,hlen⟩:=tK F4 (by have:=iD (d:=y4.1) (l:=[y0,y1,y2,y3,y4,y5].map (·.1)) (by simp);omega)
   cases e0;cases e1;cases e2;cases e3
   have hwk:Rows.uptoBulk y5.1<=1048576:=by have:=iD (d:=y5.1) (l:=[y0,y1,y2,y3,y4,y5].map (·.1)) (by simp);omega
   rcases DataW.trod_slice Tryz.underlying23 F5 with⟨h1,h2⟩ | ⟨a,len,cap,elems,rest,n,hn,h1,h2,_,hlc,hcap,hel,hx,-,-⟩
   ·cases h1
    exact⟨.mk ⟨x0,x1,x2,x3,rs,q,c,none,0,0⟩ [],⟨(aL _).2 ⟨⟨hr,.inl ⟨none,0,rfl,rfl,fun _=>rfl⟩,hfit,j4 hlen (by decide)⟩,(aO _).2 fun u hu=>by cases hu⟩,(aL _).2 ⟨(show rs.length<=1048576 by omega),(aO _).2 fun u hu=>by cases hu⟩⟩,rfl⟩
   ·cases h1
    by_cases hl:len=0
    ·subst hl
     exact⟨.mk ⟨x0,x1,x2,x3,rs,q,c,some a,0,cap⟩ [],⟨(aL _).2 ⟨⟨hr,.inl ⟨some a,cap,rfl,rfl,fun z=>by cases z⟩,hfit,j4 hlen (by decide)⟩,(aO _).2 fun u hu=>by cases hu⟩,(aL _).2 ⟨(show rs.length<=1048576 by omega),(aO _).2 fun u hu=>by cases hu⟩⟩,rfl⟩
    ·have each:∀ i,i<len->∃ t:Tr,(TB W t/\bG (fun u=>u.f.rs.length<=1048576) t)/\∀ j v,[Value.int .i64 t.f.k,.int .i64 t.f.n,.int .i64 t.f.mn,.int .i64 t.f.mx,.slice t.f.rq t.f.rs.length t.f.rc,.slice t.f.kq t.f.kl t.f.kc][j]?=some v->W.cell? (a.add (i*6+j))=some v:=by
      intro i hi
      have hxi:=hx i hi
      rw [b7 (by omega)] at hxi
      obtain⟨cs',g1,g2⟩:=Option.bind_eq_some_iff.1 hxi
      rw [nQ] at g1
      obtain⟨_,hlc',hcell⟩:=World.cells?_some g1
      obtain⟨t,ht,hcs⟩:=ih n (by omega) cs' _ g2 (by
       rw [show y5.1=.slice (elems.map (·.1)) (rest.map (·.1)) from congrArg Prod.fst h2] at hwk
       simp only [Rows.uptoBulk] at hwk
       refine j4 (iD (l:=elems.map (·.1)) (m9.2 ⟨_,List.getElem_mem _,rfl⟩)) (by omega))
      refine⟨t,ht,fun j v hj=>?_⟩
      have hj6:j<6:=by have:=(i7.1 hj).1;simpa using this
      have:=hcell j (by omega)
      rw [Deep.add_add] at this
      rw [this,hcs]
      exact hj
     have:Inhabited Tr:=⟨.mk ⟨0,0,0,0,[],none,0,none,0,0⟩ []⟩
     obtain⟨tt,htt⟩:=Deep.choose_lt each
     have c0:=(htt 0 (by omega)).2 0 _ rfl
     obtain⟨b,off,rfl⟩:=sD (by simpa using c0)
     have hadd:∀ j,(⟨b,off,none⟩:Addr).add j=⟨b,off+j,none⟩:=fun j=>by unfold Addr.add;split <;> simp_all
     have hb:b<W.heap.size:=by rw [hadd] at c0;exact rZ c0
     refine⟨.mk ⟨x0,x1,x2,x3,rs,q,c,some ⟨b,off,none⟩,len,cap⟩ ((List.range len).map tt),⟨(aL _).2 ⟨⟨hr,.inr ⟨b,off,cap,by simp [Tr.f,Tr.ks],hb,by simpa [Tr.ks] using hlc,hcap,fun i t hi=>?_⟩,hfit,j4 hlen (by decide)⟩,(aO _).2 fun u hu=>?_⟩,(aL _).2 ⟨(show rs.length<=1048576 by omega),(aO _).2 fun u hu=>?_⟩⟩,rfl⟩
     ·have hi':((List.range len).map tt)[i]?=some t:=hi
      have hil:i<len:=by have:=(i7.1 hi').1;simpa using this
      have hqi:tt i=t:=by simpa [hil] using hi'
      have hh:=(htt i hil).2
      rw [hqi] at hh
      simp only [hadd,<- t9] at hh
      exact⟨hh 0 _ rfl,hh 1 _ rfl,hh 2 _ rfl,hh 3 _ rfl,hh 4 _ rfl,hh 5 _ rfl⟩
     ·have hu':u∈(List.range len).map tt:=hu
      obtain⟨i,hi,rfl⟩:=m9.1 hu'
      exact(htt i (List.mem_range.1 hi)).1.1
     ·have hu':u∈(List.range len).map tt:=hu
      obtain⟨i,hi,rfl⟩:=m9.1 hu'
      exact(htt i (List.mem_range.1 hi)).1.2
theorem tL{H:Type}{enc:TypeId×Value->H}{W:World}{base:Nat}{v:Value}{d:DataW H}{p:List MemPlace}(hok:Value.okWide Tryz.prog W .any base 25 v)
  (h:DataW.Trod enc Tryz.prog W 0 (fun _=>true) true 25 v d p) (hw:Rows.uptoBulk d<=1048576):∃ t:Tr,TB W t/\(∀ x∈pp [] t,x.2.f.rs.length<=1048576)/\v=.agg #[.int .i64 t.f.k,.int .i64 t.f.n,.int .i64 t.f.mn,.int .i64 t.f.mx,.slice t.f.rq t.f.rs.length t.f.rc,.slice t.f.kq t.f.kl t.f.kc]:=by
 obtain⟨cs,rfl,hsz⟩:=okWide_struct Tryz.underlying25 hok
 obtain⟨fuel,hf⟩:=h
 obtain⟨t,⟨ht,hs⟩,hcs⟩:=tM fuel _ _ hf hw
 refine⟨t,ht,fun x hx=>((aL _).1 (gO (P:=fun u=>u.f.rs.length<=1048576) t [] hs x hx)).1,?_⟩
 obtain⟨l⟩:=cs
 simp [Value.cells] at hcs
 rw [hcs]
end
end Go.Proofs.YtlamifbjklpdbaaGreat
