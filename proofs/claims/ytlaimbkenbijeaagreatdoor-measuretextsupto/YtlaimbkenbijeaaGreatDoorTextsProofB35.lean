/-
  Parts of the proof.
-/
import Derived.Test.YtlaimbkenbijeaaGreatDoorTextsProofA0
import Derived.Test.YtlaimbkenbijeaaGreatDoorTextsProofA1
import Derived.Test.YtlaimbkenbijeaaGreatDoorTextsProofB34
import Derived.Test.YtlaimbkenbijeaaGreatDoorTextsProofB2
import Derived.Test.YtlaimbkenbijeaaGreatDoorTextsProofB26
set_option maxRecDepth 100000
set_option maxHeartbeats 8000000
namespace Go.Proofs.YtlaimbkenbijeaaGreatDoor
open Go Go.RowKit
section
variable {f:Fl} {c o:Bool} {G:Int->BitVec 256 × Bool} {B b:Nat} {t:Tr} {w V V':World} {S:BitVec 256}
theorem KF.set(h:KF V b f c o G){n:Nat}{v:Value}(hn:131 < n)(hv:∀ i:Nat,i < 31->(∀ j:Nat,j < 4->n=132+i * 4+j->(cS (G (i:Int)))[j]?=some v)/\(n=256+i->v=.bool (G (i:Int)).2)):KF (V.setCell ⟨b,n,none⟩ v) b f c o G:=by
 obtain⟨cs,h1,h2,h3,h4⟩:=h
 have g1:=aO h1 n v
 rw [a8] at g1
 refine⟨_,g1,by simp [h2],fun k x hk=>?_,fun k hk=>?_⟩
 ·have hk8:k < 8:=by have:=(i5.1 hk).1;rw [m7,qD] at this;simpa using this
  rw [t8 (by omega)]
  exact h3 k x hk
 ·obtain⟨h,a1,a2⟩:=h4 k hk
  refine⟨h,by rw [t8 (by omega)];exact a1,fun e=>⟨fun j hj=>?_,?_⟩⟩
  ·by_cases hnj:n=132+k * 4+j
   ·rw [(hv k hk).1 j hj hnj,hnj,aBE (by omega)]
   ·rw [t8 hnj]
    exact(a2 e).1 j hj
  ·by_cases hnj:n=256+k
   ·rw [(hv k hk).2 hnj,hnj,aBE (by omega)]
   ·rw [t8 hnj]
    exact(a2 e).2
theorem KF.putS(h:KF V b f c o G){i:Nat}(hi:i < 31){x:BitVec 256}{y:Bool}(hx:G (i:Int)=(x,y)):KF (bD V b (132+i * 4) [.int .u64 (aC x 0),.int .u64 (aC x 1),.int .u64 (aC x 2),.int .u64 (aC x 3)]) b f c o G:=by
 have st:∀ (W:World) (j:Nat) (v:Value),KF W b f c o G->(cS (G (i:Int)))[j]?=some v->j < 4->KF (W.setCell ⟨b,132+i * 4+j,none⟩ v) b f c o G:=fun W j v hW hv hj=>hW.set (by omega) (fun i' hi'=>⟨fun j' hj' e=>by
  have e1:i'=i:=by omega
  have e2:j'=j:=by omega
  rw [e1,e2]
  exact hv,fun e=>by omega⟩)
 simp only [bD]
 exact st _ 3 _ (st _ 2 _ (st _ 1 _ (st _ 0 _ h (by rw [hx];rfl) (by omega)) (by rw [hx];rfl) (by omega)) (by rw [hx];rfl) (by omega)) (by rw [hx];rfl) (by omega)
theorem KF.putN(h:KF V b f c o G){i:Nat}(hi:i < 31){x:BitVec 256}{y:Bool}(hx:G (i:Int)=(x,y)):KF (V.setCell ⟨b,256+i,none⟩ (.bool y)) b f c o G:=
 h.set (by omega) (fun i' hi'=>⟨fun j hj e=>by omega,fun e=>by
  have e1:i'=i:=by omega
  rw [e1,hx]⟩)
theorem KF.putB(h:KF V b f c o G){i:Nat}(hi:i < 31)(hs:∀ j:Nat,j < 4->V.cell? ⟨b,132+i * 4+j,none⟩=(cS (G (i:Int)))[j]?)(hn:V.cell? ⟨b,256+i,none⟩=some (.bool (G (i:Int)).2)):KF (V.setCell ⟨b,101+i,none⟩ (.bool true)) b f c o G:=by
 obtain⟨cs,h1,h2,h3,h4⟩:=h
 have rd:∀ k,V.cell? ⟨b,k,none⟩=cs[k]?:=fun k=>by simp [World.cell?,h1]
 simp only [rd] at hs hn
 have g1:=aO h1 (101+i) (.bool true)
 rw [a8] at g1
 refine⟨_,g1,by simp [h2],fun k v hk=>?_,fun k hk=>?_⟩
 ·have hk8:k < 8:=by have:=(i5.1 hk).1;rw [m7,qD] at this;simpa using this
  rw [t8 (by omega)]
  exact h3 k v hk
 ·by_cases hik:k=i
  ·subst hik
   refine⟨true,by rw [aBE (by omega)],fun _=>⟨fun j hj=>?_,?_⟩⟩
   ·rw [t8 (by omega)];exact hs j hj
   ·rw [t8 (by omega)];exact hn
  ·obtain⟨h,a1,a2⟩:=h4 k hk
   refine⟨h,by rw [t8 (by omega)];exact a1,fun e=>⟨fun j hj=>?_,?_⟩⟩
   ·rw [t8 (by omega)];exact(a2 e).1 j hj
   ·rw [t8 (by omega)];exact(a2 e).2
theorem KF.laid(h:KF V b f c o G){i:Nat}(hi:i < 31)(x:BitVec 256)(y:Bool) :
  (((bD V b (132+i * 4) [.int .u64 (aC x 0),.int .u64 (aC x 1),.int .u64 (aC x 2),.int .u64 (aC x 3)]).setCell ⟨b,256+i,none⟩ (.bool y)).cell? ⟨b,132+i * 4,none⟩=some (.int .u64 (aC x 0))/\((bD V b (132+i * 4) [.int .u64 (aC x 0),.int .u64 (aC x 1),.int .u64 (aC x 2),.int .u64 (aC x 3)]).setCell ⟨b,256+i,none⟩ (.bool y)).cell? ⟨b,132+i * 4+1,none⟩=some (.int .u64 (aC x 1))/\((bD V b (132+i * 4) [.int .u64 (aC x 0),.int .u64 (aC x 1),.int .u64 (aC x 2),.int .u64 (aC x 3)]).setCell ⟨b,256+i,none⟩ (.bool y)).cell? ⟨b,132+i * 4+1+1,none⟩=some (.int .u64 (aC x 2))/\((bD V b (132+i * 4) [.int .u64 (aC x 0),.int .u64 (aC x 1),.int .u64 (aC x 2),.int .u64 (aC x 3)]).setCell ⟨b,256+i,none⟩ (.bool y)).cell? ⟨b,132+i * 4+1+1+1,none⟩=some (.int .u64 (aC x 3)))/\((bD V b (132+i * 4) [.int .u64 (aC x 0),.int .u64 (aC x 1),.int .u64 (aC x 2),.int .u64 (aC x 3)]).setCell ⟨b,256+i,none⟩ (.bool y)).cell? ⟨b,256+i,none⟩=some (.bool y):=by
 obtain⟨cs,h1,h2,-⟩:=h
 have g:=aO (aO (aO (aO (aO h1 (132+i * 4) (.int .u64 (aC x 0))) (132+i * 4+1) (.int .u64 (aC x 1))) (132+i * 4+1+1) (.int .u64 (aC x 2))) (132+i * 4+1+1+1) (.int .u64 (aC x 3))) (256+i) (.bool y)
 simp only [a8] at g
 simp only [bD]
 refine⟨⟨aA g ?_,aA g ?_,aA g ?_,aA g ?_⟩,aA g ?_⟩
 ·rw [aBT,t8 (by omega),t8 (by omega),t8 (by omega),t8 (by omega),aBE (by rw [h2];omega)]
 ·rw [aBT,t8 (by omega),t8 (by omega),t8 (by omega),aBE (by simp only [aCB,h2];omega)]
 ·rw [aBT,t8 (by omega),t8 (by omega),aBE (by simp only [aCB,h2];omega)]
 ·rw [aBT,t8 (by omega),aBE (by simp only [aCB,h2];omega)]
 ·rw [aBT,aBE (by simp only [aCB,h2];omega)]
theorem FI.frn{bo:Nat}(h:FI w B b t c o G f S V)(F:Fr (fun z=>z=bo) V V')(hlt:w.heap.size+1+1 < bo):FI w B b t c o G f S V':=by
 have hb:=h.bw
 exact⟨⟨h.ks.tb.ckN h.ks.ft (F.ckeep fun k e z=>by have:=h.ks.lt;omega),h.ks.ft,h.ks.lt,h.ks.kw.same (F.block _ h.ks.kw.lt (by omega))⟩,zK h.fr F (fun z e=>.inr (by omega)),hb,cO F h.nb (by omega),cO F h.rz (by omega),cO F h.s (by omega)⟩
end
section
attribute [local go_sem] Oper.semAt_some bB
variable {c o:Bool} {G:Int->BitVec 256 × Bool} {B b:Nat} {t:Tr}
theorem FI.end{w V:World}{f:Fl}{S:BitVec 256}(h:FI w B b t c o G f S V)(T:BitVec 256):(bD V (w.heap.size+1) 0 [.int .u64 (aC T 0),.int .u64 (aC T 1),.int .u64 (aC T 2),.int .u64 (aC T 3)]).heap[w.heap.size+1]?=some (.cells #[.int .u64 (aC T 0),.int .u64 (aC T 1),.int .u64 (aC T 2),.int .u64 (aC T 3)] 36 (0,0))/\KF (bD V (w.heap.size+1) 0 [.int .u64 (aC T 0),.int .u64 (aC T 1),.int .u64 (aC T 2),.int .u64 (aC T 3)]) b t.f c o G/\Fr (fun k=>k=b) w (bD V (w.heap.size+1) 0 [.int .u64 (aC T 0),.int .u64 (aC T 1),.int .u64 (aC T 2),.int .u64 (aC T 3)]):=
 ⟨bA h.rz [.int .u64 (aC T 0),.int .u64 (aC T 1),.int .u64 (aC T 2),.int .u64 (aC T 3)] rfl,h.ks.kw.same ((aV _ _ 0 V).block _ h.ks.kw.lt (by have:=h.bw;omega)),zK h.fr (aV _ _ 0 V) (fun z e=>.inr (by omega))⟩
theorem FI.put{w V:World}{f:Fl}{S:BitVec 256}(h:FI w B b t c o G f S V)(T:BitVec 256):FI w B b t c o G f T (bD V (w.heap.size+1+1) 0 [.int .u64 (aC T 0),.int .u64 (aC T 1),.int .u64 (aC T 2),.int .u64 (aC T 3)]):=by
 have F:=aV (w.heap.size+1+1) [.int .u64 (aC T 0),.int .u64 (aC T 1),.int .u64 (aC T 2),.int .u64 (aC T 3)] 0 V
 have hb:=h.bw
 exact⟨⟨h.ks.tb.ckN h.ks.ft (F.ckeep fun k e z=>by have:=h.ks.lt;omega),h.ks.ft,h.ks.lt,h.ks.kw.same (F.block _ h.ks.kw.lt (by omega))⟩,zK h.fr F (fun z e=>.inr (by omega)),hb,cO F h.nb (by omega),cO F h.rz (by omega),bA h.s [.int .u64 (aC T 0),.int .u64 (aC T 1),.int .u64 (aC T 2),.int .u64 (aC T 3)] rfl⟩
theorem dG{R:Ending->World->Prop}{a:Act}{W:World}{b:Nat}{x:BitVec 256 × Bool}(h:W.heap[b]?=some (.cells #[.int .u64 (aC x.1 0),.int .u64 (aC x.1 1),.int .u64 (aC x.1 2),.int .u64 (aC x.1 3)] 36 (0,0)))(ha:a.tmps[4]?.getD undef=.pointer (some ⟨b,0,none⟩))(hb:a.tmps[5]?.getD undef=.bool x.2)(hd:a.defers=[])(hR:R (.returned (stV x)) W):bodyPost Tryz.prog Tryz.f63 R .ret a W:=by
 refine bodyPost_ret (v:=stV x) ?_ hd hR
 have z0:=aA h (i:=0) rfl;have z1:=aA h (i:=1) rfl;have z2:=aA h (i:=2) rfl;have z3:=aA h (i:=3) rfl
 simp [results,Tryz.results63,go_sem,ha,hb,stV,z0,z1,z2,z3]
def FP(b:Nat)(t:Tr)(c o:Bool)(G:Int->BitVec 256 × Bool)(v:BitVec 256 × Bool)(W:World)(e:Ending)(w':World):Prop:=e=.returned (stV v)/\KF w' b t.f c o G/\Fr (fun k=>k=b) W w'
theorem bC0{xs:List (BitVec 256 × Bool)}{j:Nat}{x:BitVec 256 × Bool}(h:xs[j]?=some x)(a:BitVec 256):lP a (xs.drop j)=if x.2 then lP (aN a x.1) (xs.drop (j+1)) else (aN a x.1,false):=by
 obtain⟨h1,h2⟩:=i5.1 h
 rw [aAH h1,h2,lP]
theorem aO0{c:Bool}{f:Fl}{ks:List Tr}{xs:List (BitVec 256 × Bool)}{g:Int->BitVec 256 × Bool}(hk:f.k=9):bJ c f ks xs g=if f.mx≠0 then ((xs.headD (0#256,false)).1,f.mn==0 ||(xs.headD (0#256,false)).2) else (0#256,true):=by
 unfold bJ
 rw [hk]
 by_cases h:f.mx=0 <;> simp [h]
theorem aP5{x:El}(hx:x∈pp [] t)(hnp:bY (NP c o) x.2)(hsz:x.2.sz<=2000)
  (IH1:∀ u∈x.2.ks,∀ W,KSF B b t c o G W->Calls Tryz.prog 63 #[.pointer (some ⟨b,0,none⟩),.agg #[.int .i64 u.f.k,.int .i64 u.f.n,.int .i64 u.f.mn,.int .i64 u.f.mx,.slice u.f.rq u.f.rs.length u.f.rc,.slice u.f.kq u.f.kl u.f.kc]] W (FP b t c o G (evG (bJ c) G u) W))
  (IH2:x.2.f.k=8->∃ y:Tr,(∀ W,KSF B b t c o G W->Calls Tryz.prog 111 #[.agg #[.int .i64 t.f.k,.int .i64 t.f.n,.int .i64 t.f.mn,.int .i64 t.f.mx,.slice t.f.rq t.f.rs.length t.f.rc,.slice t.f.kq t.f.kl t.f.kc],.int .i64 x.2.f.n] W fun e w'=>e=.returned (.agg #[.int .i64 y.f.k,.int .i64 y.f.n,.int .i64 y.f.mn,.int .i64 y.f.mx,.slice y.f.rq y.f.rs.length y.f.rc,.slice y.f.kq y.f.kl y.f.kc])/\Below W.heap.size W w')/\∀ W,KSF B b t c o G W->Calls Tryz.prog 63 #[.pointer (some ⟨b,0,none⟩),.agg #[.int .i64 y.f.k,.int .i64 y.f.n,.int .i64 y.f.mn,.int .i64 y.f.mx,.slice y.f.rq y.f.rs.length y.f.rc,.slice y.f.kq y.f.kl y.f.kc]] W (FP b t c o G (G x.2.f.n) W))
  (w:World) (hks:KSF B b t c o G w):Calls Tryz.prog 63 #[.pointer (some ⟨b,0,none⟩),.agg #[.int .i64 x.2.f.k,.int .i64 x.2.f.n,.int .i64 x.2.f.mn,.int .i64 x.2.f.mx,.slice x.2.f.rq x.2.f.rs.length x.2.f.rc,.slice x.2.f.kq x.2.f.kl x.2.f.kc]] w (FP b t c o G (evG (bJ c) G x.2) w):=by
 obtain⟨p,z⟩:=x
 dsimp only at *
 have HIH1:=aD IH1
 have HIH2:=aD IH2
 have hnp1:NP c o z:=((bE z).1 hnp).1
 have HNP1:=aD hnp1
 have HX:=aD hx
 have HLN:Hid (z.ks.length<=2000):=by have h1:=eM z.ks;have h2:=jG z;exact aD (by omega)
 have HV:Hid (evG (bJ c) G z=bJ c z.f z.ks (z.ks.map (evG (bJ c) G)) G):=aD (by rw [qB,sU])
 have HKL:=aD ((hks.tb.at hx).node).kl
 have X1:Hid (FI w B b t c o G z.f 0#256 (((w.alloc (.cells #[.int .i64 z.f.k,.int .i64 z.f.n,.int .i64 z.f.mn,.int .i64 z.f.mx,.slice z.f.rq z.f.rs.length z.f.rc,.slice z.f.kq z.f.kl z.f.kc] 25)).alloc (.cells #[.int .u64 0,.int .u64 0,.int .u64 0,.int .u64 0] 36)).alloc (.cells #[.int .u64 0,.int .u64 0,.int .u64 0,.int .u64 0] 36))):=by
  have hB:Below w.heap.size w (((w.alloc (.cells #[.int .i64 z.f.k,.int .i64 z.f.n,.int .i64 z.f.mn,.int .i64 z.f.mx,.slice z.f.rq z.f.rs.length z.f.rc,.slice z.f.kq z.f.kl z.f.kc] 25)).alloc (.cells #[.int .u64 0,.int .u64 0,.int .u64 0,.int .u64 0] 36)).alloc (.cells #[.int .u64 0,.int .u64 0,.int .u64 0,.int .u64 0] 36)):=((bz9).alloc (by simp) _).alloc (by simp only [a7];omega) _
  refine⟨hks.below hB,Fr.of_below hB,hks.kw.lt,(Below.heap_alloc _ _ _ (by simp only [a7];omega)).trans ((Below.heap_alloc _ _ _ (by simp)).trans (aE w _)),(Below.heap_alloc _ _ _ (by simp only [a7];omega)).trans (aK _ (by simp only [a7])),?_⟩
  simp only [bZ]
  exact aK _ (by simp only [a7])
 clear IH1 IH2 hnp hx hks hsz
 go_enter Tryz.func63,Tryz.ntmps63
 go_upto_region 2 with fail
 generalize (((w.alloc (.cells #[.int .i64 z.f.k,.int .i64 z.f.n,.int .i64 z.f.mn,.int .i64 z.f.mx,.slice z.f.rq z.f.rs.length z.f.rc,.slice z.f.kq z.f.kl z.f.kc] 25)).alloc (.cells #[.int .u64 0,.int .u64 0,.int .u64 0,.int .u64 0] 36)).alloc (.cells #[.int .u64 0,.int .u64 0,.int .u64 0,.int .u64 0] 36))=V at X1 ⊢
 obtain⟨n0,n1,n2,n3,n4,n5⟩:=X1.out.nb.six
 simp only [g8] at n1 n2 n3 n4 n5
 have ln:=aB X1.out.nb
 rcases hQ hnp1 with hk | hk | hk | hk | hk | hk | hk | hk | hk
 ·have hv:Hid (evG (bJ c) G z=(0#256,true)):=aD (by rw [HV.out];unfold bJ;rw [hk];simp)
  have e2:(z.f.k==2)=false:=by rw [hk];rfl
  have e5:(z.f.k==5)=false:=by rw [hk];rfl
  have e6:(z.f.k==6)=false:=by rw [hk];rfl
  have e7:(z.f.k==7)=false:=by rw [hk];rfl
  have e8:(z.f.k==8)=false:=by rw [hk];rfl
  have e9:(z.f.k==9)=false:=by rw [hk];rfl
  clear hk hnp1
  have s0:=aA X1.out.s (i:=0) rfl
  have s1:=aA X1.out.s (i:=1) rfl
  have s2:=aA X1.out.s (i:=2) rfl
  have s3:=aA X1.out.s (i:=3) rfl
  have fs:=fun z=>aG X1.out.s z
  have ls:=aB X1.out.s
  rw [bZ] at s0 s1 s2 s3
  have z0:=aA X1.out.rz (i:=0) rfl
  have z1:=aA X1.out.rz (i:=1) rfl
  have z2:=aA X1.out.rz (i:=2) rfl
  have z3:=aA X1.out.rz (i:=3) rfl
  have fz:=fun z=>aG X1.out.rz z
  have lr:=aB X1.out.rz
  have HE:=aD (X1.out.end 0#256)
  simp only [bZ] at HE
  go_wp2
  refine dG (b:=w.heap.size+1) (x:=(0#256,true)) (by simp only [bZ];exact HE.out.1) rfl rfl rfl ?_
  exact⟨by rw [hv.out],HE.out.2⟩
 ·have hset:=pT HNP1.out hk
  obtain⟨X,hX⟩:∃ X,fB c z.f.rs=X:=⟨_,rfl⟩
  have hv:Hid (evG (bJ c) G z=(X,false)):=aD (by rw [HV.out];unfold bJ;rw [hk,<- hX];rfl)
  have e2:(z.f.k==2)=true:=by rw [hk];rfl
  have e5:(z.f.k==5)=false:=by rw [hk];rfl
  have e6:(z.f.k==6)=false:=by rw [hk];rfl
  have e7:(z.f.k==7)=false:=by rw [hk];rfl
  have e8:(z.f.k==8)=false:=by rw [hk];rfl
  have e9:(z.f.k==9)=false:=by rw [hk];rfl
  have HARG:=aD ((X1.out.ks.tb.at HX.out).node).r
  have BC:=aD (bG5 (w:=V.drew) (q:=z.f.rq) (k:=z.f.rc) (L:=z.f.rs) c (HARG.out.kept (Below.refl _ _).drew) (fun r hr=>⟨(oD hset hr).1,(oD hset hr).2,hset.1.cls.some r hr⟩) hX)
  clear hk hnp1 hset hX HARG
  have KD:Hid (FI w B b t c o G z.f 0#256 V.drew):=X1.out.below (Below.refl _ _).drew
  have t6:=KD.out.ks.kw.head (i:=6) (v:=.bool c) rfl
  have SK:Hid (Six V.drew w.heap.size 0 z.f/\V.drew.cell? ⟨b,6,none⟩=some (.bool c)):=aD ⟨KD.out.nb.six,t6⟩
  have QC:Hid (∀ wz,(Six wz w.heap.size 0 z.f/\wz.cell? ⟨b,6,none⟩=some (.bool c))->(wz.cell? ⟨w.heap.size,0,none⟩=some (.int .i64 z.f.k)/\wz.cell? ⟨w.heap.size,1,none⟩=some (.int .i64 z.f.n)/\wz.cell? ⟨w.heap.size,2,none⟩=some (.int .i64 z.f.mn)/\wz.cell? ⟨w.heap.size,3,none⟩=some (.int .i64 z.f.mx)/\wz.cell? ⟨w.heap.size,4,none⟩=some (.slice z.f.rq z.f.rs.length z.f.rc)/\wz.cell? ⟨w.heap.size,5,none⟩=some (.slice z.f.kq z.f.kl z.f.kc))/\wz.cell? ⟨b,6,none⟩=some (.bool c)):=aD (fun wz hS=>by
   obtain⟨s2,s3⟩:=hS
   simp only [Six,g8] at s2
   exact⟨s2,s3⟩)
  clear t6
  go_upto_region 4 with fail
  clear n0 n1 n2 n3 n4 n5 ln
  refine wp_region_held_drew (S:=fun w'=>Six w' w.heap.size 0 z.f/\w'.cell? ⟨b,6,none⟩=some (.bool c)) (by kernel_rfl) SK.out (fun hHeld=>?_)
  refine aCD (v:=?_) 0 ?_ ?_
  rotate_left
  ·intro wz hSw;obtain⟨⟨r0,r1,r2,r3,r4,r5⟩,r6⟩:=QC.out wz hSw;clear hSw;go_simp;try with_reducible rfl
  dsimp only [Act.put,f4,b6,b7]
  simp only [a8,g4,g3]
  refine aCD (v:=?_) 1 ?_ ?_
  rotate_left
  ·intro wz hSw;obtain⟨⟨r0,r1,r2,r3,r4,r5⟩,r6⟩:=QC.out wz hSw;clear hSw;go_simp;try with_reducible rfl
  dsimp only [Act.put,f4,b6,b7]
  simp only [a8,g4,g3]
  refine aCD (v:=?_) 2 ?_ ?_
  rotate_left
  ·intro wz hSw;obtain⟨⟨r0,r1,r2,r3,r4,r5⟩,r6⟩:=QC.out wz hSw;clear hSw;go_simp;try with_reducible rfl
  dsimp only [Act.put,f4,b6,b7]
  simp only [a8,g4,g3]
  refine aCD (v:=?_) 3 ?_ ?_
  rotate_left
  ·intro wz hSw;obtain⟨⟨r0,r1,r2,r3,r4,r5⟩,r6⟩:=QC.out wz hSw;clear hSw;go_simp;try with_reducible rfl
  dsimp only [Act.put,f4,b6,b7]
  simp only [a8,g4,g3]
  refine aCD (v:=?_) 4 ?_ ?_
  rotate_left
  ·intro wz hSw;obtain⟨⟨r0,r1,r2,r3,r4,r5⟩,r6⟩:=QC.out wz hSw;clear hSw;go_simp;try with_reducible rfl
  dsimp only [Act.put,f4,b6,b7]
  simp only [a8,g4,g3]
  refine aCD (v:=?_) 5 ?_ ?_
  rotate_left
  ·intro wz hSw;obtain⟨⟨r0,r1,r2,r3,r4,r5⟩,r6⟩:=QC.out wz hSw;clear hSw;go_simp;try with_reducible rfl
  dsimp only [Act.put,f4,b6,b7]
  simp only [a8,g4,g3]
  refine aCD (v:=?_) 6 ?_ ?_
  rotate_left
  ·intro wz hSw;obtain⟨⟨r0,r1,r2,r3,r4,r5⟩,r6⟩:=QC.out wz hSw;clear hSw;go_simp;try with_reducible rfl
  dsimp only [Act.put,f4,b6,b7]
  simp only [a8,g4,g3]
  refine wpAnyH_ready (rs:=[7]) (by kernel_rfl) (by simp) ?_
  refine AllReadyH.cons rfl (fun K hK=>?_) AllReadyH.nil
  go_simp
  go_at_call 112
  refine(BC.out).mono ?_
  rintro e w5 ⟨rfl,h5⟩
  have K5:=aD (KD.out.below h5)
  have S5:Hid (Six w5 w.heap.size 0 z.f/\w5.cell? ⟨b,6,none⟩=some (.bool c)):=aD ⟨K5.out.nb.six,K5.out.ks.kw.head (i:=6) (v:=.bool c) rfl⟩
  clear h5
  refine hK.out _ _ S5.out (fun hHeld2=>?_)
  clear hK K
  refine wpAnyH_ready (rs:=[8]) (by kernel_rfl) (by simp) ?_
  refine AllReadyH.cons rfl (fun K hK=>?_) AllReadyH.nil
  have z0:=aA K5.out.rz (i:=0) rfl
  have z1:=aA K5.out.rz (i:=1) rfl
  have z2:=aA K5.out.rz (i:=2) rfl
  have z3:=aA K5.out.rz (i:=3) rfl
  have fz:=fun z=>aG K5.out.rz z
  have lr:=aB K5.out.rz
  have E6:=aD (K5.out.end X)
  have S6:Hid (Six (bD w5 (w.heap.size+1) 0 [.int .u64 (aC X 0),.int .u64 (aC X 1),.int .u64 (aC X 2),.int .u64 (aC X 3)]) w.heap.size 0 z.f/\(bD w5 (w.heap.size+1) 0 [.int .u64 (aC X 0),.int .u64 (aC X 1),.int .u64 (aC X 2),.int .u64 (aC X 3)]).cell? ⟨b,6,none⟩=some (.bool c)):=aD ⟨BoxN.six (cO (aV _ _ 0 w5) K5.out.nb (by omega)),E6.out.2.1.head (i:=6) (v:=.bool c) rfl⟩
  go_simp
  refine hK.out _ _ S6.out (fun hHeld3=>?_)
  clear hK K
  refine wpAnyH_ready (rs:=[9]) (by kernel_rfl) (by simp) ?_
  refine AllReadyH.cons rfl (fun K hK=>?_) AllReadyH.nil
  go_simp
  refine hK.out _ _ S6.out (fun hHeld4=>?_)
  clear hK K
  refine wpAnyH_done (by kernel_rfl) ?_ _
  go_wp2
  refine dG (b:=w.heap.size+1) (x:=(X,false)) E6.out.1 rfl rfl rfl ?_
  exact⟨by rw [hv.out],E6.out.2⟩
 ·have hv:Hid (evG (bJ c) G z=(0#256,true)):=aD (by rw [HV.out];unfold bJ;rw [hk];simp)
  have e2:(z.f.k==2)=false:=by rw [hk];rfl
  have e5:(z.f.k==5)=false:=by rw [hk];rfl
  have e6:(z.f.k==6)=false:=by rw [hk];rfl
  have e7:(z.f.k==7)=false:=by rw [hk];rfl
  have e8:(z.f.k==8)=false:=by rw [hk];rfl
  have e9:(z.f.k==9)=false:=by rw [hk];rfl
  clear hk hnp1
  have s0:=aA X1.out.s (i:=0) rfl
  have s1:=aA X1.out.s (i:=1) rfl
  have s2:=aA X1.out.s (i:=2) rfl
  have s3:=aA X1.out.s (i:=3) rfl
  have fs:=fun z=>aG X1.out.s z
  have ls:=aB X1.out.s
  rw [bZ] at s0 s1 s2 s3
  have z0:=aA X1.out.rz (i:=0) rfl
  have z1:=aA X1.out.rz (i:=1) rfl
  have z2:=aA X1.out.rz (i:=2) rfl
  have z3:=aA X1.out.rz (i:=3) rfl
  have fz:=fun z=>aG X1.out.rz z
  have lr:=aB X1.out.rz
  have HE:=aD (X1.out.end 0#256)
  simp only [bZ] at HE
  go_wp2
  refine dG (b:=w.heap.size+1) (x:=(0#256,true)) (by simp only [bZ];exact HE.out.1) rfl rfl rfl ?_
  exact⟨by rw [hv.out],HE.out.2⟩
 ·have hv:Hid (evG (bJ c) G z=(0#256,true)):=aD (by rw [HV.out];unfold bJ;rw [hk];simp)
  have e2:(z.f.k==2)=false:=by rw [hk];rfl
  have e5:(z.f.k==5)=false:=by rw [hk];rfl
  have e6:(z.f.k==6)=false:=by rw [hk];rfl
  have e7:(z.f.k==7)=false:=by rw [hk];rfl
  have e8:(z.f.k==8)=false:=by rw [hk];rfl
  have e9:(z.f.k==9)=false:=by rw [hk];rfl
  clear hk hnp1
  have s0:=aA X1.out.s (i:=0) rfl
  have s1:=aA X1.out.s (i:=1) rfl
  have s2:=aA X1.out.s (i:=2) rfl
  have s3:=aA X1.out.s (i:=3) rfl
  have fs:=fun z=>aG X1.out.s z
  have ls:=aB X1.out.s
  rw [bZ] at s0 s1 s2 s3
  have z0:=aA X1.out.rz (i:=0) rfl
  have z1:=aA X1.out.rz (i:=1) rfl
  have z2:=aA X1.out.rz (i:=2) rfl
  have z3:=aA X1.out.rz (i:=3) rfl
  have fz:=fun z=>aG X1.out.rz z
  have lr:=aB X1.out.rz
  have HE:=aD (X1.out.end 0#256)
  simp only [bZ] at HE
  go_wp2
  refine dG (b:=w.heap.size+1) (x:=(0#256,true)) (by simp only [bZ];exact HE.out.1) rfl rfl rfl ?_
  exact⟨by rw [hv.out],HE.out.2⟩
 ·have hv:Hid (evG (bJ c) G z=lP 0#256 (z.ks.map (evG (bJ c) G))):=aD (by rw [HV.out];unfold bJ;rw [hk];rfl)
  have e2:(z.f.k==2)=false:=by rw [hk];rfl
  have e5:(z.f.k==5)=true:=by rw [hk];rfl
  have e6:(z.f.k==6)=false:=by rw [hk];rfl
  have e7:(z.f.k==7)=false:=by rw [hk];rfl
  have e8:(z.f.k==8)=false:=by rw [hk];rfl
  have e9:(z.f.k==9)=false:=by rw [hk];rfl
  clear hk hnp1
  go_upto_region 7 with fail
  clear n0 n1 n2 n3 n4 n5 ln
  go_loopw [7] (fun i wr=>∃ (j:Nat) (S:BitVec 256),j<=z.ks.length/\i=.int .i64 (j:Int)/\lP 0#256 (z.ks.map (evG (bJ c) G))=lP S ((z.ks.map (evG (bJ c) G)).drop j)/\FI w B b t c o G z.f S wr) (fun i _=>z.ks.length - (intOf i).toNat)
  case atStart=>exact⟨0,0#256,m9 _,rfl,rfl,X1.out⟩
  case round=>
   obtain⟨j,S,hj,rfl,hrow,hw⟩:=hrel
   have K:=aD hw
   have HRW:=aD hrow
   clear hw hrow
   obtain⟨n0,n1,n2,n3,n4,n5⟩:=K.out.nb.six
   simp only [g8] at n1 n2 n3 n4 n5
   have ln:=aB K.out.nb
   by_cases hjl:j < z.ks.length
   ·obtain⟨u,hu⟩:∃ u,z.ks[j]?=some u:=⟨_,g9 hjl⟩
    have inu:=i9 hu
    obtain⟨qk,capk,f1,hm1,hcp1,hx1⟩:=((K.out.ks.tb.at HX.out).node).k.slice
    injection f1 with f11 f12 f13
    obtain⟨g,off,eq,hg,six⟩:=hx1 j u hu
    rw [f11,HKL.out,eq] at n5
    obtain⟨c0,c1,c2,c3,c4,c5⟩:=six
    have hgr:g < wr.heap.size:=hg
    have i1:(j:Int) < (z.ks.length:Int):=by omega
    have hwr:IntKind.wrap .i64 ((j:Int)+1)=(j:Int)+1:=wrap_small _ (by omega) (by have:=HLN.out;omega)
    have CU:=aD (HIH1.out u inu wr K.out.ks)
    have hgx:(z.ks.map (evG (bJ c) G))[j]?=some (evG (bJ c) G u):=by rw [aAE,hu];rfl
    obtain⟨⟨Xs,Xb⟩,hX⟩:∃ X,evG (bJ c) G u=X:=⟨_,rfl⟩
    rw [hX] at CU hgx
    unfold FP stV at CU
    dsimp only at CU
    have HGX:=aD hgx
    clear hu f11 f12 f13 eq hx1 hm1 hcp1 hX hgx
    go_upto_region 10 with (go_at_call 63;refine(CU.out).mono ?_;rintro e w5 ⟨rfl,h51,h52⟩;have K5:=aD (K.out.call h52 h51);clear h51 h52)
    clear n0 n1 n2 n3 n4 n5 ln c0 c1 c2 c3 c4 c5
    have L5:Hid ((w5.alloc (.cells #[.int .u64 (aC Xs 0),.int .u64 (aC Xs 1),.int .u64 (aC Xs 2),.int .u64 (aC Xs 3)] 36)).heap[w5.heap.size]?=some (.cells #[.int .u64 (aC Xs 0),.int .u64 (aC Xs 1),.int .u64 (aC Xs 2),.int .u64 (aC Xs 3)] 36 (0,0))):=aE w5 _
    have K6:Hid (FI w B b t c o G z.f S (w5.alloc (.cells #[.int .u64 (aC Xs 0),.int .u64 (aC Xs 1),.int .u64 (aC Xs 2),.int .u64 (aC Xs 3)] 36))):=K5.out.below (bz9)
    generalize w5.heap.size=b5 at L5 ⊢
    generalize (w5.alloc (.cells #[.int .u64 (aC Xs 0),.int .u64 (aC Xs 1),.int .u64 (aC Xs 2),.int .u64 (aC Xs 3)] 36))=w6 at L5 K6 ⊢
    have t0:=aA L5.out (i:=0) rfl
    have t1:=aA L5.out (i:=1) rfl
    have t2:=aA L5.out (i:=2) rfl
    have t3:=aA L5.out (i:=3) rfl
    have l5:=aB L5.out
    have s0:=aA K6.out.s (i:=0) rfl
    have s1:=aA K6.out.s (i:=1) rfl
    have s2:=aA K6.out.s (i:=2) rfl
    have s3:=aA K6.out.s (i:=3) rfl
    have fs:=fun z=>aG K6.out.s z
    have ls:=aB K6.out.s
    have OC:=aD (aR7 S Xs w6)
    have HRA:=aD (bC0 HGX.out S)
    cases Xb with
    | true=>
     have HN:=aD (show lP 0#256 (z.ks.map (evG (bJ c) G))=lP (aN S Xs) ((z.ks.map (evG (bJ c) G)).drop (j+1)) by rw [HRW.out,HRA.out];rfl)
     go_wp2_with (go_at_call 113;(with_reducible refine(OC.out).mono ?_);rintro e w7 ⟨rfl,h7⟩;have K7:=aD (K6.out.below h7);have P7:=aD (K7.out.put (aN S Xs));clear s0 s1 s2 s3 fs ls;have s0:=aA K7.out.s (i:=0) rfl;have s1:=aA K7.out.s (i:=1) rfl;have s2:=aA K7.out.s (i:=2) rfl;have s3:=aA K7.out.s (i:=3) rfl;have fs:=fun z=>aG K7.out.s z;have ls:=aB K7.out.s;clear h7)
     go_roundw
     case rel=>exact⟨j+1,aN S Xs,by omega,by go_num,HN.out,P7.out⟩
     case measure=>simp only [intOf];omega
    | false=>
     have HE:Hid (evG (bJ c) G z=(aN S Xs,false)):=aD (by rw [hv.out,HRW.out,HRA.out];rfl)
     go_upto_region 11 with (go_at_call 113;(with_reducible refine(OC.out).mono ?_);rintro e w7 ⟨rfl,h7⟩;have K7:=aD (K6.out.below h7);have P7:=aD (K7.out.put (aN S Xs));clear s0 s1 s2 s3 fs ls;have s0:=aA K7.out.s (i:=0) rfl;have s1:=aA K7.out.s (i:=1) rfl;have s2:=aA K7.out.s (i:=2) rfl;have s3:=aA K7.out.s (i:=3) rfl;have fs:=fun z=>aG K7.out.s z;have ls:=aB K7.out.s;clear h7)
     clear t0 t1 t2 t3 s0 s1 s2 s3 fs ls
     have P8:=P7.out
     simp only [bD] at P8
     have K8:=aD P8
     clear P8
     generalize ((((w7.setCell ⟨w.heap.size+1+1,0,none⟩ _).setCell ⟨w.heap.size+1+1,0+1,none⟩ _).setCell ⟨w.heap.size+1+1,0+1+1,none⟩ _).setCell ⟨w.heap.size+1+1,0+1+1+1,none⟩ _)=w8 at K8 ⊢
     have s0:=aA K8.out.s (i:=0) rfl
     have s1:=aA K8.out.s (i:=1) rfl
     have s2:=aA K8.out.s (i:=2) rfl
     have s3:=aA K8.out.s (i:=3) rfl
     have fs:=fun z=>aG K8.out.s z
     have ls:=aB K8.out.s
     have z0:=aA K8.out.rz (i:=0) rfl
     have z1:=aA K8.out.rz (i:=1) rfl
     have z2:=aA K8.out.rz (i:=2) rfl
     have z3:=aA K8.out.rz (i:=3) rfl
     have fz:=fun z=>aG K8.out.rz z
     have lr:=aB K8.out.rz
     go_wp2
     refine dG (b:=w.heap.size+1) (x:=(aN S Xs,false)) (K8.out.end (aN S Xs)).1 rfl rfl rfl ?_
     exact⟨by rw [HE.out],(K8.out.end (aN S Xs)).2⟩
   ·have i1:¬ (j:Int) < (z.ks.length:Int):=by omega
    rw [HKL.out] at n5
    have HE:Hid (evG (bJ c) G z=(S,true)):=aD (by rw [hv.out,HRW.out,List.drop_eq_nil_of_le (by rw [o8];omega)];rfl)
    have s0:=aA K.out.s (i:=0) rfl
    have s1:=aA K.out.s (i:=1) rfl
    have s2:=aA K.out.s (i:=2) rfl
    have s3:=aA K.out.s (i:=3) rfl
    have fs:=fun z=>aG K.out.s z
    have ls:=aB K.out.s
    have z0:=aA K.out.rz (i:=0) rfl
    have z1:=aA K.out.rz (i:=1) rfl
    have z2:=aA K.out.rz (i:=2) rfl
    have z3:=aA K.out.rz (i:=3) rfl
    have fz:=fun z=>aG K.out.rz z
    have lr:=aB K.out.rz
    go_wp2
    refine dG (b:=w.heap.size+1) (x:=(S,true)) (K.out.end S).1 rfl rfl rfl ?_
    exact⟨by rw [HE.out],(K.out.end S).2⟩
 ·have hv:Hid (evG (bJ c) G z=(jY (z.ks.map (evG (bJ c) G)),(z.ks.map (evG (bJ c) G)).any (·.2))):=aD (by rw [HV.out];unfold bJ;rw [hk];rfl)
  have e2:(z.f.k==2)=false:=by rw [hk];rfl
  have e5:(z.f.k==5)=false:=by rw [hk];rfl
  have e6:(z.f.k==6)=true:=by rw [hk];rfl
  have e7:(z.f.k==7)=false:=by rw [hk];rfl
  have e8:(z.f.k==8)=false:=by rw [hk];rfl
  have e9:(z.f.k==9)=false:=by rw [hk];rfl
  clear hk hnp1
  go_upto_region 17 with fail
  clear n0 n1 n2 n3 n4 n5 ln
  go_loopw [10,11] (fun a i wr=>∃ (j:Nat) (S:BitVec 256) (A:Bool),j<=z.ks.length/\a=.bool A/\i=.int .i64 (j:Int)/\jY ((z.ks.map (evG (bJ c) G)).take j)=S/\((z.ks.map (evG (bJ c) G)).take j).any (·.2)=A/\FI w B b t c o G z.f S wr) (fun _ i _=>z.ks.length - (intOf i).toNat)
  case atStart=>exact⟨0,0#256,false,m9 _,rfl,rfl,rfl,rfl,X1.out⟩
  case round=>
   obtain⟨j,S,A,hj,rfl,rfl,hS,hA,hw⟩:=hrel
   have K:=aD hw
   have HS:=aD hS
   have HA:=aD hA
   clear hw hS hA
   obtain⟨n0,n1,n2,n3,n4,n5⟩:=K.out.nb.six
   simp only [g8] at n1 n2 n3 n4 n5
   have ln:=aB K.out.nb
   by_cases hjl:j < z.ks.length
   ·obtain⟨u,hu⟩:∃ u,z.ks[j]?=some u:=⟨_,g9 hjl⟩
    have inu:=i9 hu
    obtain⟨qk,capk,f1,hm1,hcp1,hx1⟩:=((K.out.ks.tb.at HX.out).node).k.slice
    injection f1 with f11 f12 f13
    obtain⟨g,off,eq,hg,six⟩:=hx1 j u hu
    rw [f11,HKL.out,eq] at n5
    obtain⟨c0,c1,c2,c3,c4,c5⟩:=six
    have hgr:g < wr.heap.size:=hg
    have i1:(j:Int) < (z.ks.length:Int):=by omega
    have hwr:IntKind.wrap .i64 ((j:Int)+1)=(j:Int)+1:=wrap_small _ (by omega) (by have:=HLN.out;omega)
    have CU:=aD (HIH1.out u inu wr K.out.ks)
    have hgx:(z.ks.map (evG (bJ c) G))[j]?=some (evG (bJ c) G u):=by rw [aAE,hu];rfl
    obtain⟨⟨Xs,Xb⟩,hX⟩:∃ X,evG (bJ c) G u=X:=⟨_,rfl⟩
    rw [hX] at CU hgx
    unfold FP stV at CU
    dsimp only at CU
    have HGX:=aD hgx
    clear hu f11 f12 f13 eq hx1 hm1 hcp1 hX hgx
    have HN1:=aD (show jY ((z.ks.map (evG (bJ c) G)).take (j+1))=aN S Xs by rw [o5,HGX.out,aAV,jY,aBJ];show aN (jY ((z.ks.map (evG (bJ c) G)).take j)) Xs=_;rw [HS.out])
    have HN2:=aD (show ((z.ks.map (evG (bJ c) G)).take (j+1)).any (·.2)=(A || Xb) by rw [o5,HGX.out,aAV,List.any_append,HA.out];simp)
    go_upto_region 20 with (go_at_call 63;refine(CU.out).mono ?_;rintro e w5 ⟨rfl,h51,h52⟩;have K5:=aD (K.out.call h52 h51);clear h51 h52)
    clear n0 n1 n2 n3 n4 n5 ln c0 c1 c2 c3 c4 c5
    have L5:Hid ((w5.alloc (.cells #[.int .u64 (aC Xs 0),.int .u64 (aC Xs 1),.int .u64 (aC Xs 2),.int .u64 (aC Xs 3)] 36)).heap[w5.heap.size]?=some (.cells #[.int .u64 (aC Xs 0),.int .u64 (aC Xs 1),.int .u64 (aC Xs 2),.int .u64 (aC Xs 3)] 36 (0,0))):=aE w5 _
    have K6:Hid (FI w B b t c o G z.f S (w5.alloc (.cells #[.int .u64 (aC Xs 0),.int .u64 (aC Xs 1),.int .u64 (aC Xs 2),.int .u64 (aC Xs 3)] 36))):=K5.out.below (bz9)
    generalize w5.heap.size=b5 at L5 ⊢
    generalize (w5.alloc (.cells #[.int .u64 (aC Xs 0),.int .u64 (aC Xs 1),.int .u64 (aC Xs 2),.int .u64 (aC Xs 3)] 36))=w6 at L5 K6 ⊢
    have t0:=aA L5.out (i:=0) rfl
    have t1:=aA L5.out (i:=1) rfl
    have t2:=aA L5.out (i:=2) rfl
    have t3:=aA L5.out (i:=3) rfl
    have l5:=aB L5.out
    have s0:=aA K6.out.s (i:=0) rfl
    have s1:=aA K6.out.s (i:=1) rfl
    have s2:=aA K6.out.s (i:=2) rfl
    have s3:=aA K6.out.s (i:=3) rfl
    have fs:=fun z=>aG K6.out.s z
    have ls:=aB K6.out.s
    have OC:=aD (aR7 S Xs w6)
    cases A with
    | true=>
     go_wp2_with (go_at_call 113;(with_reducible refine(OC.out).mono ?_);rintro e w7 ⟨rfl,h7⟩;have K7:=aD (K6.out.below h7);have P7:=aD (K7.out.put (aN S Xs));clear s0 s1 s2 s3 fs ls;have s0:=aA K7.out.s (i:=0) rfl;have s1:=aA K7.out.s (i:=1) rfl;have s2:=aA K7.out.s (i:=2) rfl;have s3:=aA K7.out.s (i:=3) rfl;have fs:=fun z=>aG K7.out.s z;have ls:=aB K7.out.s;clear h7)
     go_roundw
     case rel=>exact⟨j+1,aN S Xs,true,by omega,rfl,by go_num,HN1.out,HN2.out,P7.out⟩
     case measure=>simp only [intOf];omega
    | false=>
     go_wp2_with (go_at_call 113;(with_reducible refine(OC.out).mono ?_);rintro e w7 ⟨rfl,h7⟩;have K7:=aD (K6.out.below h7);have P7:=aD (K7.out.put (aN S Xs));clear s0 s1 s2 s3 fs ls;have s0:=aA K7.out.s (i:=0) rfl;have s1:=aA K7.out.s (i:=1) rfl;have s2:=aA K7.out.s (i:=2) rfl;have s3:=aA K7.out.s (i:=3) rfl;have fs:=fun z=>aG K7.out.s z;have ls:=aB K7.out.s;clear h7)
     go_roundw
     case rel=>exact⟨j+1,aN S Xs,Xb,by omega,rfl,by go_num,HN1.out,HN2.out,P7.out⟩
     case measure=>simp only [intOf];omega
   ·have i1:¬ (j:Int) < (z.ks.length:Int):=by omega
    rw [HKL.out] at n5
    have HE:Hid (evG (bJ c) G z=(S,A)):=aD (by
     have h1:=HS.out
     have h2:=HA.out
     rw [j9 (by rw [o8];omega)] at h1 h2
     rw [hv.out,h1,h2])
    have s0:=aA K.out.s (i:=0) rfl
    have s1:=aA K.out.s (i:=1) rfl
    have s2:=aA K.out.s (i:=2) rfl
    have s3:=aA K.out.s (i:=3) rfl
    have fs:=fun z=>aG K.out.s z
    have ls:=aB K.out.s
    have z0:=aA K.out.rz (i:=0) rfl
    have z1:=aA K.out.rz (i:=1) rfl
    have z2:=aA K.out.rz (i:=2) rfl
    have z3:=aA K.out.rz (i:=3) rfl
    have fz:=fun z=>aG K.out.rz z
    have lr:=aB K.out.rz
    go_wp2
    refine dG (b:=w.heap.size+1) (x:=(S,A)) (K.out.end S).1 rfl rfl rfl ?_
    exact⟨by rw [HE.out],(K.out.end S).2⟩
 ·have hone:=fG HNP1.out (.inl hk)
  obtain⟨u,hu⟩:∃ u,z.ks[0]?=some u:=⟨_,g9 (by omega)⟩
  have inu:=i9 hu
  have hv:Hid (evG (bJ c) G z=evG (bJ c) G u):=aD (by rw [HV.out];unfold bJ;rw [hk,jZ (x:=evG (bJ c) G u) (by rw [aAE,hu];rfl)];rfl)
  have e2:(z.f.k==2)=false:=by rw [hk];rfl
  have e5:(z.f.k==5)=false:=by rw [hk];rfl
  have e6:(z.f.k==6)=false:=by rw [hk];rfl
  have e7:(z.f.k==7)=true:=by rw [hk];rfl
  have e8:(z.f.k==8)=false:=by rw [hk];rfl
  have e9:(z.f.k==9)=false:=by rw [hk];rfl
  obtain⟨qk,capk,f1,hm1,hcp1,hx1⟩:=((X1.out.ks.tb.at HX.out).node).k.slice
  injection f1 with f11 f12 f13
  obtain⟨g,off,eq,hg,six⟩:=hx1 0 u hu
  rw [f11,HKL.out,eq] at n5
  rw [aAK,aBP] at six
  obtain⟨c0,c1,c2,c3,c4,c5⟩:=six
  have hgr:g < V.heap.size:=hg
  have b0:(0:Int) < (z.ks.length:Int):=by omega
  have b0n:0 < z.ks.length:=by omega
  have CU:=aD (HIH1.out u inu V X1.out.ks)
  rw [<- hv.out] at CU
  obtain⟨⟨Xs,Xb⟩,hX⟩:∃ X,evG (bJ c) G z=X:=⟨_,rfl⟩
  have HEV:=aD hX
  rw [hX] at CU
  unfold FP stV at CU
  dsimp only at CU
  clear hk hnp1 hu f11 f12 f13 eq hx1 hm1 hcp1 hX hv
  go_wp2_with (go_at_call 63;refine(CU.out).mono ?_;rintro e w5 ⟨rfl,h51,h52⟩;have K5:=aD (X1.out.call h52 h51);have z0:=aA K5.out.rz (i:=0) rfl;have z1:=aA K5.out.rz (i:=1) rfl;have z2:=aA K5.out.rz (i:=2) rfl;have z3:=aA K5.out.rz (i:=3) rfl;have fz:=fun z=>aG K5.out.rz z;clear h51 h52)
  refine dG (b:=w.heap.size+1) (x:=(Xs,Xb)) (K5.out.end Xs).1 rfl rfl rfl ?_
  exact⟨by rw [HEV.out],(K5.out.end Xs).2⟩
 ·have hbk:=wM HNP1.out hk
  have hv:Hid (evG (bJ c) G z=G z.f.n):=aD (by rw [HV.out];unfold bJ;rw [hk];rfl)
  obtain⟨y,hgc,hwc⟩:=HIH2.out hk
  have GC:=aD hgc
  have WC:=aD hwc
  obtain⟨k,hkn⟩:∃ k:Nat,z.f.n=(k:Int):=⟨z.f.n.toNat,by omega⟩
  have hk31:k < 31:=by omega
  have e2:(z.f.k==2)=false:=by rw [hk];rfl
  have e5:(z.f.k==5)=false:=by rw [hk];rfl
  have e6:(z.f.k==6)=false:=by rw [hk];rfl
  have e7:(z.f.k==7)=false:=by rw [hk];rfl
  have e8:(z.f.k==8)=true:=by rw [hk];rfl
  have e9:(z.f.k==9)=false:=by rw [hk];rfl
  rw [hkn] at hv GC WC n1
  have HKN:=aD hkn
  clear hk hnp1 hbk hgc hwc hkn
  obtain⟨h,a1,a2⟩:=X1.out.ks.kw.has hk31
  have A2:=aD a2
  have lb:=X1.out.ks.kw.lt
  have i2:(k:Int) < 31:=by omega
  clear a2
  obtain⟨⟨Xs,Xb⟩,hx⟩:∃ x,G (k:Int)=x:=⟨_,rfl⟩
  have HGX:=aD hx
  rw [hx] at hv WC A2
  clear hx
  unfold FP stV at WC
  dsimp only at WC
  cases h with
  | true=>
   have HY:Hid ((V.cell? ⟨b,132+k * 4,none⟩=some (.int .u64 (aC Xs 0))/\V.cell? ⟨b,132+k * 4+1,none⟩=some (.int .u64 (aC Xs 1))/\V.cell? ⟨b,132+k * 4+1+1,none⟩=some (.int .u64 (aC Xs 2))/\V.cell? ⟨b,132+k * 4+1+1+1,none⟩=some (.int .u64 (aC Xs 3)))/\V.cell? ⟨b,256+k,none⟩=some (.bool Xb)):=aD (by
    obtain⟨q1,q2⟩:=A2.out rfl
    exact⟨⟨q1 0 _ rfl,q1 1 _ rfl,q1 2 _ rfl,q1 3 _ rfl⟩,q2⟩)
   go_upto_region 26 with fail
   refine wx9 ?_
   repeat (go_big_quiet_step (first | exact rfl))
   refine wpQuiet_nil ?_
   intro w3 hw
   have K3:=aD (X1.out.below (aQ hw))
   have HY3:Hid ((w3.cell? ⟨b,132+k * 4,none⟩=some (.int .u64 (aC Xs 0))/\w3.cell? ⟨b,132+k * 4+1,none⟩=some (.int .u64 (aC Xs 1))/\w3.cell? ⟨b,132+k * 4+1+1,none⟩=some (.int .u64 (aC Xs 2))/\w3.cell? ⟨b,132+k * 4+1+1+1,none⟩=some (.int .u64 (aC Xs 3)))/\w3.cell? ⟨b,256+k,none⟩=some (.bool Xb)):=aD (by simp only [(aQ hw).cell (p:=⟨b,_,none⟩) lb];exact HY.out)
   clear hw n0 n1 n2 n3 n4 n5 ln a1 A2 HY
   obtain⟨n0,n1,n2,n3,n4,n5⟩:=K3.out.nb.six
   simp only [g8] at n1 n2 n3 n4 n5
   have ln:=aB K3.out.nb
   rw [HKN.out] at n1
   go_upto_region 30 with fail
   have KD:=aD (K3.out.below (V':=w3.drew) (Below.refl _ _).drew)
   have SK:Hid (Six w3.drew w.heap.size 0 z.f/\(w3.drew.cell? ⟨b,132+k * 4,none⟩=some (.int .u64 (aC Xs 0))/\w3.drew.cell? ⟨b,132+k * 4+1,none⟩=some (.int .u64 (aC Xs 1))/\w3.drew.cell? ⟨b,132+k * 4+1+1,none⟩=some (.int .u64 (aC Xs 2))/\w3.drew.cell? ⟨b,132+k * 4+1+1+1,none⟩=some (.int .u64 (aC Xs 3)))/\w3.drew.cell? ⟨b,256+k,none⟩=some (.bool Xb)):=aD ⟨KD.out.nb.six,HY3.out⟩
   have QC:Hid (∀ wz,(Six wz w.heap.size 0 z.f/\(wz.cell? ⟨b,132+k * 4,none⟩=some (.int .u64 (aC Xs 0))/\wz.cell? ⟨b,132+k * 4+1,none⟩=some (.int .u64 (aC Xs 1))/\wz.cell? ⟨b,132+k * 4+1+1,none⟩=some (.int .u64 (aC Xs 2))/\wz.cell? ⟨b,132+k * 4+1+1+1,none⟩=some (.int .u64 (aC Xs 3)))/\wz.cell? ⟨b,256+k,none⟩=some (.bool Xb))->(wz.cell? ⟨w.heap.size,0,none⟩=some (.int .i64 z.f.k)/\wz.cell? ⟨w.heap.size,1,none⟩=some (.int .i64 (k:Int))/\wz.cell? ⟨w.heap.size,2,none⟩=some (.int .i64 z.f.mn)/\wz.cell? ⟨w.heap.size,3,none⟩=some (.int .i64 z.f.mx)/\wz.cell? ⟨w.heap.size,4,none⟩=some (.slice z.f.rq z.f.rs.length z.f.rc)/\wz.cell? ⟨w.heap.size,5,none⟩=some (.slice z.f.kq z.f.kl z.f.kc))/\(wz.cell? ⟨b,132+k * 4,none⟩=some (.int .u64 (aC Xs 0))/\wz.cell? ⟨b,132+k * 4+1,none⟩=some (.int .u64 (aC Xs 1))/\wz.cell? ⟨b,132+k * 4+1+1,none⟩=some (.int .u64 (aC Xs 2))/\wz.cell? ⟨b,132+k * 4+1+1+1,none⟩=some (.int .u64 (aC Xs 3)))/\wz.cell? ⟨b,256+k,none⟩=some (.bool Xb)):=aD (fun wz hS=>by
    obtain⟨s2,s3⟩:=hS
    rw [<- HKN.out]
    simp only [Six,g8] at s2
    exact⟨s2,s3⟩)
   clear n0 n1 n2 n3 n4 n5 ln
   refine wp_region_held_drew (S:=fun w'=>Six w' w.heap.size 0 z.f/\(w'.cell? ⟨b,132+k * 4,none⟩=some (.int .u64 (aC Xs 0))/\w'.cell? ⟨b,132+k * 4+1,none⟩=some (.int .u64 (aC Xs 1))/\w'.cell? ⟨b,132+k * 4+1+1,none⟩=some (.int .u64 (aC Xs 2))/\w'.cell? ⟨b,132+k * 4+1+1+1,none⟩=some (.int .u64 (aC Xs 3)))/\w'.cell? ⟨b,256+k,none⟩=some (.bool Xb)) (by kernel_rfl) SK.out (fun hHeld=>?_)
   generalize w3.drew=w9 at KD SK hHeld ⊢
   refine aCD (v:=?_) 0 ?_ ?_
   rotate_left
   ·intro wz hSw;obtain⟨⟨r0,r1,r2,r3,r4,r5⟩,⟨y0,y1,y2,y3⟩,y4⟩:=QC.out wz hSw;clear hSw;go_simp;try with_reducible rfl
   dsimp only [Act.put,f4,b6,b7]
   simp only [a8,g4,g3]
   refine aCD (v:=?_) 1 ?_ ?_
   rotate_left
   ·intro wz hSw;obtain⟨⟨r0,r1,r2,r3,r4,r5⟩,⟨y0,y1,y2,y3⟩,y4⟩:=QC.out wz hSw;clear hSw;go_simp;try with_reducible rfl
   dsimp only [Act.put,f4,b6,b7]
   simp only [a8,g4,g3]
   refine aCD (v:=?_) 2 ?_ ?_
   rotate_left
   ·intro wz hSw;obtain⟨⟨r0,r1,r2,r3,r4,r5⟩,⟨y0,y1,y2,y3⟩,y4⟩:=QC.out wz hSw;clear hSw;go_simp;try with_reducible rfl
   dsimp only [Act.put,f4,b6,b7]
   simp only [a8,g4,g3]
   refine aCD (v:=?_) 3 ?_ ?_
   rotate_left
   ·intro wz hSw;obtain⟨⟨r0,r1,r2,r3,r4,r5⟩,⟨y0,y1,y2,y3⟩,y4⟩:=QC.out wz hSw;clear hSw;go_simp;try with_reducible rfl
   dsimp only [Act.put,f4,b6,b7]
   simp only [a8,g4,g3]
   refine aCD (v:=?_) 4 ?_ ?_
   rotate_left
   ·intro wz hSw;obtain⟨⟨r0,r1,r2,r3,r4,r5⟩,⟨y0,y1,y2,y3⟩,y4⟩:=QC.out wz hSw;clear hSw;go_simp;try with_reducible rfl
   dsimp only [Act.put,f4,b6,b7]
   simp only [a8,g4,g3]
   refine aCD (v:=?_) 5 ?_ ?_
   rotate_left
   ·intro wz hSw;obtain⟨⟨r0,r1,r2,r3,r4,r5⟩,⟨y0,y1,y2,y3⟩,y4⟩:=QC.out wz hSw;clear hSw;go_simp;try with_reducible rfl
   dsimp only [Act.put,f4,b6,b7]
   simp only [a8,g4,g3]
   refine aCD (v:=?_) 6 ?_ ?_
   rotate_left
   ·intro wz hSw;obtain⟨⟨r0,r1,r2,r3,r4,r5⟩,⟨y0,y1,y2,y3⟩,y4⟩:=QC.out wz hSw;clear hSw;go_simp;try with_reducible rfl
   dsimp only [Act.put,f4,b6,b7]
   simp only [a8,g4,g3]
   refine aCD (v:=?_) 7 ?_ ?_
   rotate_left
   ·intro wz hSw;obtain⟨⟨r0,r1,r2,r3,r4,r5⟩,⟨y0,y1,y2,y3⟩,y4⟩:=QC.out wz hSw;clear hSw;go_simp;try with_reducible rfl
   dsimp only [Act.put,f4,b6,b7]
   simp only [a8,g4,g3]
   refine aCD (v:=?_) 8 ?_ ?_
   rotate_left
   ·intro wz hSw;obtain⟨⟨r0,r1,r2,r3,r4,r5⟩,⟨y0,y1,y2,y3⟩,y4⟩:=QC.out wz hSw;clear hSw;go_simp;try with_reducible rfl
   dsimp only [Act.put,f4,b6,b7]
   simp only [a8,g4,g3]
   refine aCD (v:=?_) 9 ?_ ?_
   rotate_left
   ·intro wz hSw;obtain⟨⟨r0,r1,r2,r3,r4,r5⟩,⟨y0,y1,y2,y3⟩,y4⟩:=QC.out wz hSw;clear hSw;go_simp;try with_reducible rfl
   dsimp only [Act.put,f4,b6,b7]
   simp only [a8,g4,g3]
   refine aCD (v:=?_) 10 ?_ ?_
   rotate_left
   ·intro wz hSw;obtain⟨⟨r0,r1,r2,r3,r4,r5⟩,⟨y0,y1,y2,y3⟩,y4⟩:=QC.out wz hSw;clear hSw;go_simp;try with_reducible rfl
   dsimp only [Act.put,f4,b6,b7]
   simp only [a8,g4,g3]
   refine aCD (v:=?_) 11 ?_ ?_
   rotate_left
   ·intro wz hSw;obtain⟨⟨r0,r1,r2,r3,r4,r5⟩,⟨y0,y1,y2,y3⟩,y4⟩:=QC.out wz hSw;clear hSw;go_simp;try with_reducible rfl
   dsimp only [Act.put,f4,b6,b7]
   simp only [a8,g4,g3]
   refine aCD (v:=?_) 12 ?_ ?_
   rotate_left
   ·intro wz hSw;obtain⟨⟨r0,r1,r2,r3,r4,r5⟩,⟨y0,y1,y2,y3⟩,y4⟩:=QC.out wz hSw;clear hSw;go_simp;try with_reducible rfl
   dsimp only [Act.put,f4,b6,b7]
   simp only [a8,g4,g3]
   refine aCD (v:=?_) 13 ?_ ?_
   rotate_left
   ·intro wz hSw;obtain⟨⟨r0,r1,r2,r3,r4,r5⟩,⟨y0,y1,y2,y3⟩,y4⟩:=QC.out wz hSw;clear hSw;go_simp;try with_reducible rfl
   dsimp only [Act.put,f4,b6,b7]
   simp only [a8,g4,g3]
   refine wpAnyH_ready (rs:=[14]) (by kernel_rfl) (by simp) ?_
   refine AllReadyH.cons rfl (fun K hK=>?_) AllReadyH.nil
   have z0:=aA KD.out.rz (i:=0) rfl
   have z1:=aA KD.out.rz (i:=1) rfl
   have z2:=aA KD.out.rz (i:=2) rfl
   have z3:=aA KD.out.rz (i:=3) rfl
   have fz:=fun z=>aG KD.out.rz z
   have lr:=aB KD.out.rz
   have E6:=aD (KD.out.end Xs)
   have F6:=aD (aV (w.heap.size+1) [.int .u64 (aC Xs 0),.int .u64 (aC Xs 1),.int .u64 (aC Xs 2),.int .u64 (aC Xs 3)] 0 w9)
   have hbw:=KD.out.bw
   have S6:Hid (Six (bD w9 (w.heap.size+1) 0 [.int .u64 (aC Xs 0),.int .u64 (aC Xs 1),.int .u64 (aC Xs 2),.int .u64 (aC Xs 3)]) w.heap.size 0 z.f/\((bD w9 (w.heap.size+1) 0 [.int .u64 (aC Xs 0),.int .u64 (aC Xs 1),.int .u64 (aC Xs 2),.int .u64 (aC Xs 3)]).cell? ⟨b,132+k * 4,none⟩=some (.int .u64 (aC Xs 0))/\(bD w9 (w.heap.size+1) 0 [.int .u64 (aC Xs 0),.int .u64 (aC Xs 1),.int .u64 (aC Xs 2),.int .u64 (aC Xs 3)]).cell? ⟨b,132+k * 4+1,none⟩=some (.int .u64 (aC Xs 1))/\(bD w9 (w.heap.size+1) 0 [.int .u64 (aC Xs 0),.int .u64 (aC Xs 1),.int .u64 (aC Xs 2),.int .u64 (aC Xs 3)]).cell? ⟨b,132+k * 4+1+1,none⟩=some (.int .u64 (aC Xs 2))/\(bD w9 (w.heap.size+1) 0 [.int .u64 (aC Xs 0),.int .u64 (aC Xs 1),.int .u64 (aC Xs 2),.int .u64 (aC Xs 3)]).cell? ⟨b,132+k * 4+1+1+1,none⟩=some (.int .u64 (aC Xs 3)))/\(bD w9 (w.heap.size+1) 0 [.int .u64 (aC Xs 0),.int .u64 (aC Xs 1),.int .u64 (aC Xs 2),.int .u64 (aC Xs 3)]).cell? ⟨b,256+k,none⟩=some (.bool Xb)):=aD (by
    have hc:∀ i,(bD w9 (w.heap.size+1) 0 [.int .u64 (aC Xs 0),.int .u64 (aC Xs 1),.int .u64 (aC Xs 2),.int .u64 (aC Xs 3)]).cell? ⟨b,i,none⟩=w9.cell? ⟨b,i,none⟩:=fun i=>by unfold World.cell?;rw [F6.out.block b KD.out.ks.kw.lt (by omega)]
    refine⟨BoxN.six (cO F6.out KD.out.nb (by omega)),?_⟩
    simp only [hc]
    exact SK.out.2)
   go_simp
   refine hK.out _ _ S6.out (fun hHeld3=>?_)
   clear hK K
   refine wpAnyH_ready (rs:=[15]) (by kernel_rfl) (by simp) ?_
   refine AllReadyH.cons rfl (fun K hK=>?_) AllReadyH.nil
   go_simp
   refine hK.out _ _ S6.out (fun hHeld4=>?_)
   clear hK K
   refine wpAnyH_done (by kernel_rfl) ?_ _
   go_wp2
   refine dG (b:=w.heap.size+1) (x:=(Xs,Xb)) E6.out.1 rfl rfl rfl ?_
   exact⟨by rw [hv.out],E6.out.2⟩
  | false=>
   clear A2
   go_upto_region 26 with fail
   refine wx9 ?_
   repeat (go_big_quiet_step (first | exact rfl))
   refine wpQuiet_nil ?_
   intro w3 hw
   have K3:=aD (X1.out.below (aQ hw))
   have lb3:=K3.out.ks.kw.lt
   clear hw n0 n1 n2 n3 n4 n5 ln a1
   obtain⟨n0,n1,n2,n3,n4,n5⟩:=K3.out.nb.six
   simp only [g8] at n1 n2 n3 n4 n5
   have ln:=aB K3.out.nb
   rw [HKN.out] at n1
   have t0:=K3.out.ks.kw.head (i:=0) (v:=.int .i64 t.f.k) rfl
   have t1:=K3.out.ks.kw.head (i:=1) (v:=.int .i64 t.f.n) rfl
   have t2:=K3.out.ks.kw.head (i:=2) (v:=.int .i64 t.f.mn) rfl
   have t3:=K3.out.ks.kw.head (i:=3) (v:=.int .i64 t.f.mx) rfl
   have t4:=K3.out.ks.kw.head (i:=4) (v:=.slice t.f.rq t.f.rs.length t.f.rc) rfl
   have t5:=K3.out.ks.kw.head (i:=5) (v:=.slice t.f.kq t.f.kl t.f.kc) rfl
   go_upto_region 27 with fail
   go_cut [14] (fun v wx=>∃ bo,v=.pointer (some ⟨bo,0,none⟩)/\Six wx bo 0 y.f/\bo < wx.heap.size/\w.heap.size+1+1 < bo/\FI w B b t c o G z.f 0#256 wx)
   case first=>as_aux_lemma=>
    have KD:Hid (FI w B b t c o G z.f 0#256 w3.drew):=K3.out.below (Below.refl _ _).drew
    have KA:Hid (FI w B b t c o G z.f 0#256 (w3.alloc (.cells #[.int .i64 0,.int .i64 0,.int .i64 0,.int .i64 0,.slice none 0 0,.slice none 0 0] 25)).drew):=K3.out.below (bz9).drew
    have RA:Hid (BoxN (w3.alloc (.cells #[.int .i64 0,.int .i64 0,.int .i64 0,.int .i64 0,.slice none 0 0,.slice none 0 0] 25)).drew w3.heap.size xI):=aE w3 _
    have LR:=aD (aB K3.out.s)
    go_region_with first
     |(go_at_call 111;(with_reducible refine(GC.out _ KA.out.ks).mono ?_);rintro e w5 ⟨rfl,h5⟩;have K5:=aD (KA.out.below h5);have R5:BoxN w5 w3.heap.size xI:=(h5.block _ (aB RA.out)).trans RA.out;have L5:=aB R5;obtain⟨r0,r1,r2,r3,r4,r5⟩:=R5.six;simp only [g8] at r1 r2 r3 r4 r5;have rz:=fun z=>aG R5 z;have X9:=aD (jW (g:=y.f) R5.six);have F9:=aD (mV w5 w3.heap.size 0 y.f);have K9:=aD (K5.out.frn F9.out LR.out);have S9:=aD F9.out.size;unfold kP at X9 K9 S9;clear h5 R5 F9)
     |(go_at_call 111;(with_reducible refine(GC.out _ KD.out.ks).mono ?_);rintro e w5 ⟨rfl,h5⟩;have K5:=aD (KD.out.below h5);clear h5)
    all_goals go_wp2_with fail
    all_goals go_meet
    all_goals first
     | exact⟨w3.heap.size,rfl,X9.out,i6 L5 S9.out,LR.out,K9.out⟩
     | exact⟨w5.heap.size,rfl,BoxN.six (aE w5 _),by simp,aB K5.out.s,K5.out.below (bz9)⟩
   case rest=>
    obtain⟨bo,rfl,hs,hbo,hbo2,hw⟩:=hcut
    have HS6:=aD hs
    have K4:=aD hw
    clear hw n0 n1 n2 n3 n4 n5 ln t0 t1 t2 t3 t4 t5 lb3
    obtain⟨n0,n1,n2,n3,n4,n5⟩:=K4.out.nb.six
    simp only [g8] at n1 n2 n3 n4 n5
    have ln:=aB K4.out.nb
    rw [HKN.out] at n1
    obtain⟨s0',s1',s2',s3',s4',s5'⟩:=hs
    simp only [g8] at s1' s2' s3' s4' s5'
    have lb4:=K4.out.ks.kw.lt
    go_upto_region 28 with fail
    go_cut [127] (fun _ wx=>FI w B b t c o G z.f 0#256 wx/\(wx.cell? ⟨b,132+k * 4,none⟩=some (.int .u64 (aC Xs 0))/\wx.cell? ⟨b,132+k * 4+1,none⟩=some (.int .u64 (aC Xs 1))/\wx.cell? ⟨b,132+k * 4+1+1,none⟩=some (.int .u64 (aC Xs 2))/\wx.cell? ⟨b,132+k * 4+1+1+1,none⟩=some (.int .u64 (aC Xs 3)))/\wx.cell? ⟨b,256+k,none⟩=some (.bool Xb))
    case first=>as_aux_lemma=>
     have KD:Hid (FI w B b t c o G z.f 0#256 wc.drew):=K4.out.below (Below.refl _ _).drew
     have SK:Hid (Six wc.drew bo 0 y.f/\Six wc.drew w.heap.size 0 z.f):=⟨HS6.out.ck (CK.of_below (Below.refl _ _).drew) hbo,KD.out.nb.six⟩
     have QC:Hid (∀ wz,(Six wz bo 0 y.f/\Six wz w.heap.size 0 z.f)->(wz.cell? ⟨bo,0,none⟩=some (.int .i64 y.f.k)/\wz.cell? ⟨bo,1,none⟩=some (.int .i64 y.f.n)/\wz.cell? ⟨bo,2,none⟩=some (.int .i64 y.f.mn)/\wz.cell? ⟨bo,3,none⟩=some (.int .i64 y.f.mx)/\wz.cell? ⟨bo,4,none⟩=some (.slice y.f.rq y.f.rs.length y.f.rc)/\wz.cell? ⟨bo,5,none⟩=some (.slice y.f.kq y.f.kl y.f.kc))/\(wz.cell? ⟨w.heap.size,0,none⟩=some (.int .i64 z.f.k)/\wz.cell? ⟨w.heap.size,1,none⟩=some (.int .i64 (k:Int))/\wz.cell? ⟨w.heap.size,2,none⟩=some (.int .i64 z.f.mn)/\wz.cell? ⟨w.heap.size,3,none⟩=some (.int .i64 z.f.mx)/\wz.cell? ⟨w.heap.size,4,none⟩=some (.slice z.f.rq z.f.rs.length z.f.rc)/\wz.cell? ⟨w.heap.size,5,none⟩=some (.slice z.f.kq z.f.kl z.f.kc))):=aD (fun wz hS=>by
      obtain⟨s1,s2⟩:=hS
      rw [<- HKN.out]
      simp only [Six,g8] at s1 s2
      exact⟨s1,s2⟩)
     refine wp_region_held_drew (S:=fun w'=>Six w' bo 0 y.f/\Six w' w.heap.size 0 z.f) (by kernel_rfl) SK.out (fun hHeld=>?_)
     refine aCD (v:=?_) 0 ?_ ?_
     rotate_left
     ·intro wz hSw;obtain⟨⟨q0,q1,q2,q3,q4,q5⟩,⟨r0,r1,r2,r3,r4,r5⟩⟩:=QC.out wz hSw;clear hSw;go_simp;try with_reducible rfl
     dsimp only [Act.put,f4,b6,b7]
     simp only [a8,g4,g3]
     refine aCD (v:=?_) 1 ?_ ?_
     rotate_left
     ·intro wz hSw;obtain⟨⟨q0,q1,q2,q3,q4,q5⟩,⟨r0,r1,r2,r3,r4,r5⟩⟩:=QC.out wz hSw;clear hSw;go_simp;try with_reducible rfl
     dsimp only [Act.put,f4,b6,b7]
     simp only [a8,g4,g3]
     refine aCD (v:=?_) 2 ?_ ?_
     rotate_left
     ·intro wz hSw;obtain⟨⟨q0,q1,q2,q3,q4,q5⟩,⟨r0,r1,r2,r3,r4,r5⟩⟩:=QC.out wz hSw;clear hSw;go_simp;try with_reducible rfl
     dsimp only [Act.put,f4,b6,b7]
     simp only [a8,g4,g3]
     refine aCD (v:=?_) 3 ?_ ?_
     rotate_left
     ·intro wz hSw;obtain⟨⟨q0,q1,q2,q3,q4,q5⟩,⟨r0,r1,r2,r3,r4,r5⟩⟩:=QC.out wz hSw;clear hSw;go_simp;try with_reducible rfl
     dsimp only [Act.put,f4,b6,b7]
     simp only [a8,g4,g3]
     refine aCD (v:=?_) 4 ?_ ?_
     rotate_left
     ·intro wz hSw;obtain⟨⟨q0,q1,q2,q3,q4,q5⟩,⟨r0,r1,r2,r3,r4,r5⟩⟩:=QC.out wz hSw;clear hSw;go_simp;try with_reducible rfl
     dsimp only [Act.put,f4,b6,b7]
     simp only [a8,g4,g3]
     refine aCD (v:=?_) 5 ?_ ?_
     rotate_left
     ·intro wz hSw;obtain⟨⟨q0,q1,q2,q3,q4,q5⟩,⟨r0,r1,r2,r3,r4,r5⟩⟩:=QC.out wz hSw;clear hSw;go_simp;try with_reducible rfl
     dsimp only [Act.put,f4,b6,b7]
     simp only [a8,g4,g3]
     refine aCD (v:=?_) 6 ?_ ?_
     rotate_left
     ·intro wz hSw;obtain⟨⟨q0,q1,q2,q3,q4,q5⟩,⟨r0,r1,r2,r3,r4,r5⟩⟩:=QC.out wz hSw;clear hSw;go_simp;try with_reducible rfl
     dsimp only [Act.put,f4,b6,b7]
     simp only [a8,g4,g3]
     refine aCD (v:=?_) 7 ?_ ?_
     rotate_left
     ·intro wz hSw;obtain⟨⟨q0,q1,q2,q3,q4,q5⟩,⟨r0,r1,r2,r3,r4,r5⟩⟩:=QC.out wz hSw;clear hSw;go_simp;try with_reducible rfl
     dsimp only [Act.put,f4,b6,b7]
     simp only [a8,g4,g3]
     refine aCD (v:=?_) 12 ?_ ?_
     rotate_left
     ·intro wz hSw;obtain⟨⟨q0,q1,q2,q3,q4,q5⟩,⟨r0,r1,r2,r3,r4,r5⟩⟩:=QC.out wz hSw;clear hSw;go_simp;try with_reducible rfl
     dsimp only [Act.put,f4,b6,b7]
     simp only [a8,g4,g3]
     refine aCD (v:=?_) 13 ?_ ?_
     rotate_left
     ·intro wz hSw;obtain⟨⟨q0,q1,q2,q3,q4,q5⟩,⟨r0,r1,r2,r3,r4,r5⟩⟩:=QC.out wz hSw;clear hSw;go_simp;try with_reducible rfl
     dsimp only [Act.put,f4,b6,b7]
     simp only [a8,g4,g3]
     refine aCD (v:=?_) 16 ?_ ?_
     rotate_left
     ·intro wz hSw;obtain⟨⟨q0,q1,q2,q3,q4,q5⟩,⟨r0,r1,r2,r3,r4,r5⟩⟩:=QC.out wz hSw;clear hSw;go_simp;try with_reducible rfl
     dsimp only [Act.put,f4,b6,b7]
     simp only [a8,g4,g3]
     refine aCD (v:=?_) 17 ?_ ?_
     rotate_left
     ·intro wz hSw;obtain⟨⟨q0,q1,q2,q3,q4,q5⟩,⟨r0,r1,r2,r3,r4,r5⟩⟩:=QC.out wz hSw;clear hSw;go_simp;try with_reducible rfl
     dsimp only [Act.put,f4,b6,b7]
     simp only [a8,g4,g3]
     refine wpAnyH_ready (rs:=[8]) (by kernel_rfl) (by simp) ?_
     refine AllReadyH.cons rfl (fun K hK=>?_) AllReadyH.nil
     go_simp
     go_at_call 63
     refine(WC.out _ KD.out.ks).mono ?_
     rintro e w5 ⟨rfl,h51,h52⟩
     have K5:=aD (KD.out.call h52 h51)
     have hbw4:=K4.out.bw
     have S5:Hid (Six w5 bo 0 y.f/\Six w5 w.heap.size 0 z.f):=⟨SK.out.1.ck (N:=fun k=>k≠b) (h52.ckeep (fun k e z=>z e)) (by omega),K5.out.nb.six⟩
     clear h51 h52
     refine hK.out _ _ S5.out (fun hHeld2=>?_)
     clear hK K
     refine aCD (v:=?_) 9 ?_ ?_
     rotate_left
     ·intro wz hSw;obtain⟨⟨q0,q1,q2,q3,q4,q5⟩,⟨r0,r1,r2,r3,r4,r5⟩⟩:=QC.out wz hSw;clear hSw;go_simp;try with_reducible rfl
     dsimp only [Act.put,f4,b6,b7]
     simp only [a8,g4,g3]
     refine aCD (v:=?_) 10 ?_ ?_
     rotate_left
     ·intro wz hSw;obtain⟨⟨q0,q1,q2,q3,q4,q5⟩,⟨r0,r1,r2,r3,r4,r5⟩⟩:=QC.out wz hSw;clear hSw;go_simp;try with_reducible rfl
     dsimp only [Act.put,f4,b6,b7]
     simp only [a8,g4,g3]
     refine aCD (v:=?_) 11 ?_ ?_
     rotate_left
     ·intro wz hSw;obtain⟨⟨q0,q1,q2,q3,q4,q5⟩,⟨r0,r1,r2,r3,r4,r5⟩⟩:=QC.out wz hSw;clear hSw;go_simp;try with_reducible rfl
     dsimp only [Act.put,f4,b6,b7]
     simp only [a8,g4,g3]
     refine wpAnyH_ready (rs:=[14]) (by kernel_rfl) (by simp) ?_
     refine AllReadyH.cons rfl (fun K hK=>?_) AllReadyH.nil
     go_simp
     refine hK.out _ _ S5.out (fun hHeld3=>?_)
     clear hK K
     refine wpAnyH_ready (rs:=[15]) (by kernel_rfl) (by simp) ?_
     refine AllReadyH.cons rfl (fun K hK=>?_) AllReadyH.nil
     have lb5:=K5.out.ks.kw.lt
     have fz5:=fun i=>K5.out.ks.kw.frz i
     obtain⟨v1,hv1⟩:=K5.out.ks.kw.any (i:=132+k * 4) (by omega)
     obtain⟨v2,hv2⟩:=K5.out.ks.kw.any (i:=132+k * 4+1) (by omega)
     obtain⟨v3,hv3⟩:=K5.out.ks.kw.any (i:=132+k * 4+1+1) (by omega)
     obtain⟨v4,hv4⟩:=K5.out.ks.kw.any (i:=132+k * 4+1+1+1) (by omega)
     have FW:Hid (Fr (fun z=>z=b) w5 (bD w5 b (132+k * 4) [.int .u64 (aC Xs 0),.int .u64 (aC Xs 1),.int .u64 (aC Xs 2),.int .u64 (aC Xs 3)])):=aV _ _ _ _
     have K6:=aD (K5.out.call FW.out (K5.out.ks.kw.putS hk31 HGX.out))
     have S6:Hid (Six (bD w5 b (132+k * 4) [.int .u64 (aC Xs 0),.int .u64 (aC Xs 1),.int .u64 (aC Xs 2),.int .u64 (aC Xs 3)]) bo 0 y.f/\Six (bD w5 b (132+k * 4) [.int .u64 (aC Xs 0),.int .u64 (aC Xs 1),.int .u64 (aC Xs 2),.int .u64 (aC Xs 3)]) w.heap.size 0 z.f):=⟨S5.out.1.ck (N:=fun k=>k≠b) (FW.out.ckeep (fun k e z=>z e)) (by omega),K6.out.nb.six⟩
     have K7:=aD (K6.out.call ((Fr.refl (fun z=>z=b) _).setCell (p:=⟨b,256+k,none⟩) rfl (.bool Xb)) (K6.out.ks.kw.putN hk31 HGX.out))
     have S7:Hid (Six ((bD w5 b (132+k * 4) [.int .u64 (aC Xs 0),.int .u64 (aC Xs 1),.int .u64 (aC Xs 2),.int .u64 (aC Xs 3)]).setCell ⟨b,256+k,none⟩ (.bool Xb)) bo 0 y.f/\Six ((bD w5 b (132+k * 4) [.int .u64 (aC Xs 0),.int .u64 (aC Xs 1),.int .u64 (aC Xs 2),.int .u64 (aC Xs 3)]).setCell ⟨b,256+k,none⟩ (.bool Xb)) w.heap.size 0 z.f):=⟨S6.out.1.ck (N:=fun k=>k≠b) (((Fr.refl (fun z=>z=b) _).setCell (p:=⟨b,256+k,none⟩) rfl (.bool Xb)).ckeep (fun k e z=>z e)) (by omega),K7.out.nb.six⟩
     have HL:=aD (K5.out.ks.kw.laid hk31 Xs Xb)
     go_simp
     refine hK.out _ _ S6.out (fun hHeld4=>?_)
     clear hK K hv1 hv2 hv3 hv4 fz5
     refine wpAnyH_ready (rs:=[18]) (by kernel_rfl) (by simp) ?_
     refine AllReadyH.cons rfl (fun K hK=>?_) AllReadyH.nil
     go_simp
     refine hK.out _ _ S6.out (fun hHeld5=>?_)
     clear hK K
     refine wpAnyH_ready (rs:=[19]) (by kernel_rfl) (by simp) ?_
     refine AllReadyH.cons rfl (fun K hK=>?_) AllReadyH.nil
     have lb6:=K6.out.ks.kw.lt
     have fz6:=fun i=>K6.out.ks.kw.frz i
     obtain⟨v5,hv5⟩:=K6.out.ks.kw.any (i:=256+k) (by omega)
     simp only [bD] at lb6 fz6 hv5
     go_simp
     refine hK.out _ _ S7.out (fun hHeld6=>?_)
     clear hK K
     refine wpAnyH_done (by kernel_rfl) ?_ _
     go_wp2_with fail
     go_meet
     exact⟨K7.out,HL.out⟩
    case rest=>
     obtain⟨hw,hy⟩:=hcut
     have K6:=aD hw
     have HY6:=aD hy
     clear hw hy n0 n1 n2 n3 n4 n5 ln s0' s1' s2' s3' s4' s5' lb4 K4 hbo
     obtain⟨n0,n1,n2,n3,n4,n5⟩:=K6.out.nb.six
     simp only [g8] at n1 n2 n3 n4 n5
     have ln:=aB K6.out.nb
     rw [HKN.out] at n1
     have lb6:=K6.out.ks.kw.lt
     rename World=>w6
     go_upto_region 29 with fail
     go_cut [133] (fun _ wx=>FI w B b t c o G z.f 0#256 wx/\(wx.cell? ⟨b,132+k * 4,none⟩=some (.int .u64 (aC Xs 0))/\wx.cell? ⟨b,132+k * 4+1,none⟩=some (.int .u64 (aC Xs 1))/\wx.cell? ⟨b,132+k * 4+1+1,none⟩=some (.int .u64 (aC Xs 2))/\wx.cell? ⟨b,132+k * 4+1+1+1,none⟩=some (.int .u64 (aC Xs 3)))/\wx.cell? ⟨b,256+k,none⟩=some (.bool Xb))
     case first=>as_aux_lemma=>
      have KD:Hid (FI w B b t c o G z.f 0#256 w6.drew):=K6.out.below (Below.refl _ _).drew
      have SK:Hid (Six w6.drew w.heap.size 0 z.f):=KD.out.nb.six
      have QC:Hid (∀ wz,Six wz w.heap.size 0 z.f->(wz.cell? ⟨w.heap.size,0,none⟩=some (.int .i64 z.f.k)/\wz.cell? ⟨w.heap.size,1,none⟩=some (.int .i64 (k:Int))/\wz.cell? ⟨w.heap.size,2,none⟩=some (.int .i64 z.f.mn)/\wz.cell? ⟨w.heap.size,3,none⟩=some (.int .i64 z.f.mx)/\wz.cell? ⟨w.heap.size,4,none⟩=some (.slice z.f.rq z.f.rs.length z.f.rc)/\wz.cell? ⟨w.heap.size,5,none⟩=some (.slice z.f.kq z.f.kl z.f.kc))):=aD (fun wz s2=>by
       rw [<- HKN.out]
       simp only [Six,g8] at s2
       exact s2)
      obtain⟨h6,hv1,-⟩:=KD.out.ks.kw.has hk31
      have fz6:=fun i=>KD.out.ks.kw.frz i
      have lb7:=KD.out.ks.kw.lt
      have PH:=aD (KD.out.ks.kw.putB hk31 (fun j hj=>by
       rw [HGX.out]
       match j,hj with
       | 0,_=>exact HY6.out.1.1
       | 1,_=>exact HY6.out.1.2.1
       | 2,_=>exact HY6.out.1.2.2.1
       | 3,_=>exact HY6.out.1.2.2.2
       | j+4,h=>exact absurd h (by omega)) (by rw [HGX.out];exact HY6.out.2))
      have K7:=aD (KD.out.call ((Fr.refl (fun z=>z=b) _).setCell (p:=⟨b,101+k,none⟩) rfl (.bool true)) PH.out)
      have Z0:Hid (((w6.drew.setCell ⟨b,101+k,none⟩ (.bool true)).cell? ⟨b,132+k * 4,none⟩=some (.int .u64 (aC Xs 0))/\(w6.drew.setCell ⟨b,101+k,none⟩ (.bool true)).cell? ⟨b,132+k * 4+1,none⟩=some (.int .u64 (aC Xs 1))/\(w6.drew.setCell ⟨b,101+k,none⟩ (.bool true)).cell? ⟨b,132+k * 4+1+1,none⟩=some (.int .u64 (aC Xs 2))/\(w6.drew.setCell ⟨b,101+k,none⟩ (.bool true)).cell? ⟨b,132+k * 4+1+1+1,none⟩=some (.int .u64 (aC Xs 3)))/\(w6.drew.setCell ⟨b,101+k,none⟩ (.bool true)).cell? ⟨b,256+k,none⟩=some (.bool Xb)):=aD (by
       rw [gL _ (by omega),gL _ (by omega),gL _ (by omega),gL _ (by omega),gL _ (by omega)]
       exact HY6.out)
      refine wp_region_held_drew (S:=fun w'=>Six w' w.heap.size 0 z.f) (by kernel_rfl) SK.out (fun hHeld=>?_)
      refine aCD (v:=?_) 0 ?_ ?_
      rotate_left
      ·intro wz hSw;obtain⟨r0,r1,r2,r3,r4,r5⟩:=QC.out wz hSw;clear hSw;go_simp;try with_reducible rfl
      dsimp only [Act.put,f4,b6,b7]
      simp only [a8,g4,g3]
      refine aCD (v:=?_) 1 ?_ ?_
      rotate_left
      ·intro wz hSw;obtain⟨r0,r1,r2,r3,r4,r5⟩:=QC.out wz hSw;clear hSw;go_simp;try with_reducible rfl
      dsimp only [Act.put,f4,b6,b7]
      simp only [a8,g4,g3]
      refine aCD (v:=?_) 2 ?_ ?_
      rotate_left
      ·intro wz hSw;obtain⟨r0,r1,r2,r3,r4,r5⟩:=QC.out wz hSw;clear hSw;go_simp;try with_reducible rfl
      dsimp only [Act.put,f4,b6,b7]
      simp only [a8,g4,g3]
      refine aCD (v:=?_) 3 ?_ ?_
      rotate_left
      ·intro wz hSw;obtain⟨r0,r1,r2,r3,r4,r5⟩:=QC.out wz hSw;clear hSw;go_simp;try with_reducible rfl
      dsimp only [Act.put,f4,b6,b7]
      simp only [a8,g4,g3]
      refine aCD (v:=?_) 4 ?_ ?_
      rotate_left
      ·intro wz hSw;obtain⟨r0,r1,r2,r3,r4,r5⟩:=QC.out wz hSw;clear hSw;go_simp;try with_reducible rfl
      dsimp only [Act.put,f4,b6,b7]
      simp only [a8,g4,g3]
      refine wpAnyH_ready (rs:=[5]) (by kernel_rfl) (by simp) ?_
      refine AllReadyH.cons rfl (fun K hK=>?_) AllReadyH.nil
      go_simp
      refine hK.out _ _ SK.out (fun hHeld3=>?_)
      clear hK K
      refine wpAnyH_ready (rs:=[6]) (by kernel_rfl) (by simp) ?_
      refine AllReadyH.cons rfl (fun K hK=>?_) AllReadyH.nil
      go_simp
      refine hK.out _ _ K7.out.nb.six (fun hHeld4=>?_)
      clear hK K
      refine wpAnyH_done (by kernel_rfl) ?_ _
      go_wp2_with fail
      go_meet
      exact⟨K7.out,Z0.out⟩
     case rest=>
      obtain⟨hw,hy⟩:=hcut
      have K8:=aD hw
      have HY8:=aD hy
      clear hw hy n0 n1 n2 n3 n4 n5 ln K6 HY6 lb6
      rename World=>w8
      obtain⟨n0,n1,n2,n3,n4,n5⟩:=K8.out.nb.six
      simp only [g8] at n1 n2 n3 n4 n5
      have ln:=aB K8.out.nb
      rw [HKN.out] at n1
      go_upto_region 30 with fail
      have KD:=aD (K8.out.below (V':=w8.drew) (Below.refl _ _).drew)
      have SK:Hid (Six w8.drew w.heap.size 0 z.f/\(w8.drew.cell? ⟨b,132+k * 4,none⟩=some (.int .u64 (aC Xs 0))/\w8.drew.cell? ⟨b,132+k * 4+1,none⟩=some (.int .u64 (aC Xs 1))/\w8.drew.cell? ⟨b,132+k * 4+1+1,none⟩=some (.int .u64 (aC Xs 2))/\w8.drew.cell? ⟨b,132+k * 4+1+1+1,none⟩=some (.int .u64 (aC Xs 3)))/\w8.drew.cell? ⟨b,256+k,none⟩=some (.bool Xb)):=aD ⟨KD.out.nb.six,HY8.out⟩
      have QC:Hid (∀ wz,(Six wz w.heap.size 0 z.f/\(wz.cell? ⟨b,132+k * 4,none⟩=some (.int .u64 (aC Xs 0))/\wz.cell? ⟨b,132+k * 4+1,none⟩=some (.int .u64 (aC Xs 1))/\wz.cell? ⟨b,132+k * 4+1+1,none⟩=some (.int .u64 (aC Xs 2))/\wz.cell? ⟨b,132+k * 4+1+1+1,none⟩=some (.int .u64 (aC Xs 3)))/\wz.cell? ⟨b,256+k,none⟩=some (.bool Xb))->(wz.cell? ⟨w.heap.size,0,none⟩=some (.int .i64 z.f.k)/\wz.cell? ⟨w.heap.size,1,none⟩=some (.int .i64 (k:Int))/\wz.cell? ⟨w.heap.size,2,none⟩=some (.int .i64 z.f.mn)/\wz.cell? ⟨w.heap.size,3,none⟩=some (.int .i64 z.f.mx)/\wz.cell? ⟨w.heap.size,4,none⟩=some (.slice z.f.rq z.f.rs.length z.f.rc)/\wz.cell? ⟨w.heap.size,5,none⟩=some (.slice z.f.kq z.f.kl z.f.kc))/\(wz.cell? ⟨b,132+k * 4,none⟩=some (.int .u64 (aC Xs 0))/\wz.cell? ⟨b,132+k * 4+1,none⟩=some (.int .u64 (aC Xs 1))/\wz.cell? ⟨b,132+k * 4+1+1,none⟩=some (.int .u64 (aC Xs 2))/\wz.cell? ⟨b,132+k * 4+1+1+1,none⟩=some (.int .u64 (aC Xs 3)))/\wz.cell? ⟨b,256+k,none⟩=some (.bool Xb)):=aD (fun wz hS=>by
       obtain⟨s2,s3⟩:=hS
       rw [<- HKN.out]
       simp only [Six,g8] at s2
       exact⟨s2,s3⟩)
      clear n0 n1 n2 n3 n4 n5 ln
      refine wp_region_held_drew (S:=fun w'=>Six w' w.heap.size 0 z.f/\(w'.cell? ⟨b,132+k * 4,none⟩=some (.int .u64 (aC Xs 0))/\w'.cell? ⟨b,132+k * 4+1,none⟩=some (.int .u64 (aC Xs 1))/\w'.cell? ⟨b,132+k * 4+1+1,none⟩=some (.int .u64 (aC Xs 2))/\w'.cell? ⟨b,132+k * 4+1+1+1,none⟩=some (.int .u64 (aC Xs 3)))/\w'.cell? ⟨b,256+k,none⟩=some (.bool Xb)) (by kernel_rfl) SK.out (fun hHeld=>?_)
      generalize w8.drew=w9 at KD SK hHeld ⊢
      refine aCD (v:=?_) 0 ?_ ?_
      rotate_left
      ·intro wz hSw;obtain⟨⟨r0,r1,r2,r3,r4,r5⟩,⟨y0,y1,y2,y3⟩,y4⟩:=QC.out wz hSw;clear hSw;go_simp;try with_reducible rfl
      dsimp only [Act.put,f4,b6,b7]
      simp only [a8,g4,g3]
      refine aCD (v:=?_) 1 ?_ ?_
      rotate_left
      ·intro wz hSw;obtain⟨⟨r0,r1,r2,r3,r4,r5⟩,⟨y0,y1,y2,y3⟩,y4⟩:=QC.out wz hSw;clear hSw;go_simp;try with_reducible rfl
      dsimp only [Act.put,f4,b6,b7]
      simp only [a8,g4,g3]
      refine aCD (v:=?_) 2 ?_ ?_
      rotate_left
      ·intro wz hSw;obtain⟨⟨r0,r1,r2,r3,r4,r5⟩,⟨y0,y1,y2,y3⟩,y4⟩:=QC.out wz hSw;clear hSw;go_simp;try with_reducible rfl
      dsimp only [Act.put,f4,b6,b7]
      simp only [a8,g4,g3]
      refine aCD (v:=?_) 3 ?_ ?_
      rotate_left
      ·intro wz hSw;obtain⟨⟨r0,r1,r2,r3,r4,r5⟩,⟨y0,y1,y2,y3⟩,y4⟩:=QC.out wz hSw;clear hSw;go_simp;try with_reducible rfl
      dsimp only [Act.put,f4,b6,b7]
      simp only [a8,g4,g3]
      refine aCD (v:=?_) 4 ?_ ?_
      rotate_left
      ·intro wz hSw;obtain⟨⟨r0,r1,r2,r3,r4,r5⟩,⟨y0,y1,y2,y3⟩,y4⟩:=QC.out wz hSw;clear hSw;go_simp;try with_reducible rfl
      dsimp only [Act.put,f4,b6,b7]
      simp only [a8,g4,g3]
      refine aCD (v:=?_) 5 ?_ ?_
      rotate_left
      ·intro wz hSw;obtain⟨⟨r0,r1,r2,r3,r4,r5⟩,⟨y0,y1,y2,y3⟩,y4⟩:=QC.out wz hSw;clear hSw;go_simp;try with_reducible rfl
      dsimp only [Act.put,f4,b6,b7]
      simp only [a8,g4,g3]
      refine aCD (v:=?_) 6 ?_ ?_
      rotate_left
      ·intro wz hSw;obtain⟨⟨r0,r1,r2,r3,r4,r5⟩,⟨y0,y1,y2,y3⟩,y4⟩:=QC.out wz hSw;clear hSw;go_simp;try with_reducible rfl
      dsimp only [Act.put,f4,b6,b7]
      simp only [a8,g4,g3]
      refine aCD (v:=?_) 7 ?_ ?_
      rotate_left
      ·intro wz hSw;obtain⟨⟨r0,r1,r2,r3,r4,r5⟩,⟨y0,y1,y2,y3⟩,y4⟩:=QC.out wz hSw;clear hSw;go_simp;try with_reducible rfl
      dsimp only [Act.put,f4,b6,b7]
      simp only [a8,g4,g3]
      refine aCD (v:=?_) 8 ?_ ?_
      rotate_left
      ·intro wz hSw;obtain⟨⟨r0,r1,r2,r3,r4,r5⟩,⟨y0,y1,y2,y3⟩,y4⟩:=QC.out wz hSw;clear hSw;go_simp;try with_reducible rfl
      dsimp only [Act.put,f4,b6,b7]
      simp only [a8,g4,g3]
      refine aCD (v:=?_) 9 ?_ ?_
      rotate_left
      ·intro wz hSw;obtain⟨⟨r0,r1,r2,r3,r4,r5⟩,⟨y0,y1,y2,y3⟩,y4⟩:=QC.out wz hSw;clear hSw;go_simp;try with_reducible rfl
      dsimp only [Act.put,f4,b6,b7]
      simp only [a8,g4,g3]
      refine aCD (v:=?_) 10 ?_ ?_
      rotate_left
      ·intro wz hSw;obtain⟨⟨r0,r1,r2,r3,r4,r5⟩,⟨y0,y1,y2,y3⟩,y4⟩:=QC.out wz hSw;clear hSw;go_simp;try with_reducible rfl
      dsimp only [Act.put,f4,b6,b7]
      simp only [a8,g4,g3]
      refine aCD (v:=?_) 11 ?_ ?_
      rotate_left
      ·intro wz hSw;obtain⟨⟨r0,r1,r2,r3,r4,r5⟩,⟨y0,y1,y2,y3⟩,y4⟩:=QC.out wz hSw;clear hSw;go_simp;try with_reducible rfl
      dsimp only [Act.put,f4,b6,b7]
      simp only [a8,g4,g3]
      refine aCD (v:=?_) 12 ?_ ?_
      rotate_left
      ·intro wz hSw;obtain⟨⟨r0,r1,r2,r3,r4,r5⟩,⟨y0,y1,y2,y3⟩,y4⟩:=QC.out wz hSw;clear hSw;go_simp;try with_reducible rfl
      dsimp only [Act.put,f4,b6,b7]
      simp only [a8,g4,g3]
      refine aCD (v:=?_) 13 ?_ ?_
      rotate_left
      ·intro wz hSw;obtain⟨⟨r0,r1,r2,r3,r4,r5⟩,⟨y0,y1,y2,y3⟩,y4⟩:=QC.out wz hSw;clear hSw;go_simp;try with_reducible rfl
      dsimp only [Act.put,f4,b6,b7]
      simp only [a8,g4,g3]
      refine wpAnyH_ready (rs:=[14]) (by kernel_rfl) (by simp) ?_
      refine AllReadyH.cons rfl (fun K hK=>?_) AllReadyH.nil
      have z0:=aA KD.out.rz (i:=0) rfl
      have z1:=aA KD.out.rz (i:=1) rfl
      have z2:=aA KD.out.rz (i:=2) rfl
      have z3:=aA KD.out.rz (i:=3) rfl
      have fz:=fun z=>aG KD.out.rz z
      have lr:=aB KD.out.rz
      have E6:=aD (KD.out.end Xs)
      have F6:=aD (aV (w.heap.size+1) [.int .u64 (aC Xs 0),.int .u64 (aC Xs 1),.int .u64 (aC Xs 2),.int .u64 (aC Xs 3)] 0 w9)
      have hbw:=KD.out.bw
      have S6:Hid (Six (bD w9 (w.heap.size+1) 0 [.int .u64 (aC Xs 0),.int .u64 (aC Xs 1),.int .u64 (aC Xs 2),.int .u64 (aC Xs 3)]) w.heap.size 0 z.f/\((bD w9 (w.heap.size+1) 0 [.int .u64 (aC Xs 0),.int .u64 (aC Xs 1),.int .u64 (aC Xs 2),.int .u64 (aC Xs 3)]).cell? ⟨b,132+k * 4,none⟩=some (.int .u64 (aC Xs 0))/\(bD w9 (w.heap.size+1) 0 [.int .u64 (aC Xs 0),.int .u64 (aC Xs 1),.int .u64 (aC Xs 2),.int .u64 (aC Xs 3)]).cell? ⟨b,132+k * 4+1,none⟩=some (.int .u64 (aC Xs 1))/\(bD w9 (w.heap.size+1) 0 [.int .u64 (aC Xs 0),.int .u64 (aC Xs 1),.int .u64 (aC Xs 2),.int .u64 (aC Xs 3)]).cell? ⟨b,132+k * 4+1+1,none⟩=some (.int .u64 (aC Xs 2))/\(bD w9 (w.heap.size+1) 0 [.int .u64 (aC Xs 0),.int .u64 (aC Xs 1),.int .u64 (aC Xs 2),.int .u64 (aC Xs 3)]).cell? ⟨b,132+k * 4+1+1+1,none⟩=some (.int .u64 (aC Xs 3)))/\(bD w9 (w.heap.size+1) 0 [.int .u64 (aC Xs 0),.int .u64 (aC Xs 1),.int .u64 (aC Xs 2),.int .u64 (aC Xs 3)]).cell? ⟨b,256+k,none⟩=some (.bool Xb)):=aD (by
       have hc:∀ i,(bD w9 (w.heap.size+1) 0 [.int .u64 (aC Xs 0),.int .u64 (aC Xs 1),.int .u64 (aC Xs 2),.int .u64 (aC Xs 3)]).cell? ⟨b,i,none⟩=w9.cell? ⟨b,i,none⟩:=fun i=>by unfold World.cell?;rw [F6.out.block b KD.out.ks.kw.lt (by omega)]
       refine⟨BoxN.six (cO F6.out KD.out.nb (by omega)),?_⟩
       simp only [hc]
       exact SK.out.2)
      go_simp
      refine hK.out _ _ S6.out (fun hHeld3=>?_)
      clear hK K
      refine wpAnyH_ready (rs:=[15]) (by kernel_rfl) (by simp) ?_
      refine AllReadyH.cons rfl (fun K hK=>?_) AllReadyH.nil
      go_simp
      refine hK.out _ _ S6.out (fun hHeld4=>?_)
      clear hK K
      refine wpAnyH_done (by kernel_rfl) ?_ _
      go_wp2
      refine dG (b:=w.heap.size+1) (x:=(Xs,Xb)) E6.out.1 rfl rfl rfl ?_
      exact⟨by rw [hv.out],E6.out.2⟩
 ·have hone:=fG HNP1.out (.inr hk)
  obtain⟨u,hu⟩:∃ u,z.ks[0]?=some u:=⟨_,g9 (by omega)⟩
  have inu:=i9 hu
  have hh:(z.ks.map (evG (bJ c) G)).headD (0#256,false)=evG (bJ c) G u:=jZ (by rw [aAE,hu];rfl)
  have HV2:Hid (evG (bJ c) G z=if z.f.mx≠0 then ((evG (bJ c) G u).1,z.f.mn==0 ||(evG (bJ c) G u).2) else (0#256,true)):=aD (by rw [HV.out,aO0 hk,hh])
  have e2:(z.f.k==2)=false:=by rw [hk];rfl
  have e5:(z.f.k==5)=false:=by rw [hk];rfl
  have e6:(z.f.k==6)=false:=by rw [hk];rfl
  have e7:(z.f.k==7)=false:=by rw [hk];rfl
  have e8:(z.f.k==8)=false:=by rw [hk];rfl
  have e9:(z.f.k==9)=true:=by rw [hk];rfl
  obtain⟨mx,hmx⟩:∃ mx,z.f.mx=mx:=⟨_,rfl⟩
  obtain⟨mn,hmn⟩:∃ mn,z.f.mn=mn:=⟨_,rfl⟩
  rw [hmx] at n3
  rw [hmn] at n2
  rw [hmx,hmn] at HV2
  have HMN:=aD hmn
  clear hk hnp1 hmx hmn hh
  by_cases h0:mx=0
  ·have HE:Hid (evG (bJ c) G z=(0#256,true)):=aD (by rw [HV2.out,if_neg (by simpa using h0)])
   have e0:(mx==0)=true:=by rw [h0];rfl
   clear h0 hu
   have s0:=aA X1.out.s (i:=0) rfl
   have s1:=aA X1.out.s (i:=1) rfl
   have s2:=aA X1.out.s (i:=2) rfl
   have s3:=aA X1.out.s (i:=3) rfl
   have fs:=fun z=>aG X1.out.s z
   have ls:=aB X1.out.s
   rw [bZ] at s0 s1 s2 s3
   have z0:=aA X1.out.rz (i:=0) rfl
   have z1:=aA X1.out.rz (i:=1) rfl
   have z2:=aA X1.out.rz (i:=2) rfl
   have z3:=aA X1.out.rz (i:=3) rfl
   have fz:=fun z=>aG X1.out.rz z
   have lr:=aB X1.out.rz
   have HEE:=aD (X1.out.end 0#256)
   simp only [bZ] at HEE
   go_wp2
   refine dG (b:=w.heap.size+1) (x:=(0#256,true)) (by simp only [bZ];exact HEE.out.1) rfl rfl rfl ?_
   exact⟨by rw [HE.out],HEE.out.2⟩
  ·have e0:(mx==0)=false:=by simpa using h0
   rw [if_pos h0] at HV2
   clear h0
   obtain⟨qk,capk,f1,hm1,hcp1,hx1⟩:=((X1.out.ks.tb.at HX.out).node).k.slice
   injection f1 with f11 f12 f13
   obtain⟨g,off,eq,hg,six⟩:=hx1 0 u hu
   rw [f11,HKL.out,eq] at n5
   rw [aAK,aBP] at six
   obtain⟨c0,c1,c2,c3,c4,c5⟩:=six
   have hgr:g < V.heap.size:=hg
   have b0:(0:Int) < (z.ks.length:Int):=by omega
   have b0n:0 < z.ks.length:=by omega
   have CU:=aD (HIH1.out u inu V X1.out.ks)
   obtain⟨⟨Xs,Xb⟩,hX⟩:∃ X,evG (bJ c) G u=X:=⟨_,rfl⟩
   rw [hX] at CU HV2
   unfold FP stV at CU
   dsimp only at CU HV2
   clear hu f11 f12 f13 eq hx1 hm1 hcp1 hX
   go_upto_region 35 with (go_at_call 63;refine(CU.out).mono ?_;rintro e w5 ⟨rfl,h51,h52⟩;have K5:=aD (X1.out.call h52 h51);clear h51 h52)
   clear n0 n1 n2 n3 n4 n5 ln c0 c1 c2 c3 c4 c5
   have L5:Hid ((w5.alloc (.cells #[.int .u64 (aC Xs 0),.int .u64 (aC Xs 1),.int .u64 (aC Xs 2),.int .u64 (aC Xs 3)] 36)).heap[w5.heap.size]?=some (.cells #[.int .u64 (aC Xs 0),.int .u64 (aC Xs 1),.int .u64 (aC Xs 2),.int .u64 (aC Xs 3)] 36 (0,0))):=aE w5 _
   have K6:Hid (FI w B b t c o G z.f 0#256 (w5.alloc (.cells #[.int .u64 (aC Xs 0),.int .u64 (aC Xs 1),.int .u64 (aC Xs 2),.int .u64 (aC Xs 3)] 36))):=K5.out.below (bz9)
   have NE5:w.heap.size+1 < w5.heap.size:=aB K5.out.rz
   generalize w5.heap.size=b5 at L5 NE5 ⊢
   generalize (w5.alloc (.cells #[.int .u64 (aC Xs 0),.int .u64 (aC Xs 1),.int .u64 (aC Xs 2),.int .u64 (aC Xs 3)] 36))=w6 at L5 K6 ⊢
   have t0:=aA L5.out (i:=0) rfl
   have t1:=aA L5.out (i:=1) rfl
   have t2:=aA L5.out (i:=2) rfl
   have t3:=aA L5.out (i:=3) rfl
   have l5:=aB L5.out
   obtain⟨n0,n1,n2,n3,n4,n5⟩:=K6.out.nb.six
   simp only [g8] at n1 n2 n3 n4 n5
   have ln:=aB K6.out.nb
   rw [HMN.out] at n2
   have z0:=aA K6.out.rz (i:=0) rfl
   have z1:=aA K6.out.rz (i:=1) rfl
   have z2:=aA K6.out.rz (i:=2) rfl
   have z3:=aA K6.out.rz (i:=3) rfl
   have fz:=fun z=>aG K6.out.rz z
   have lr:=aB K6.out.rz
   have K9:Hid (FI w B b t c o G z.f 0#256 w6.drew):=K6.out.below (Below.refl _ _).drew
   cases Xb with
   | true=>
    have HE:Hid (evG (bJ c) G z=(Xs,true)):=aD (by rw [HV2.out];simp)
    go_region
    all_goals go_wp2
    all_goals refine dG (b:=w.heap.size+1) (x:=(Xs,true)) (K9.out.end Xs).1 rfl rfl rfl ?_
    all_goals exact⟨by rw [HE.out],(K9.out.end Xs).2⟩
   | false=>
    have HE:Hid (evG (bJ c) G z=(Xs,mn==0)):=aD (by rw [HV2.out];simp)
    go_region
    all_goals go_wp2
    all_goals refine dG (b:=w.heap.size+1) (x:=(Xs,mn==0)) (K9.out.end Xs).1 rfl rfl rfl ?_
    all_goals exact⟨by rw [HE.out],(K9.out.end Xs).2⟩
end
end Go.Proofs.YtlaimbkenbijeaaGreatDoor
