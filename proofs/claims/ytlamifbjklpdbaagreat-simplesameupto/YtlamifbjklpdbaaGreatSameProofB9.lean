/-
  Parts of the proof.
-/
import Derived.Test.YtlamifbjklpdbaaGreatSameProofA0
import Derived.Test.YtlamifbjklpdbaaGreatSameProofB8
import Derived.Test.YtlamifbjklpdbaaGreatSameProofB0
import Derived.Laws.AppendOwnNone
import Derived.Lib.MapLaws
import Derived.Lib.RuneCountTail
import Derived.Lib.Strings
set_option linter.unusedSimpArgs false
set_option maxRecDepth 100000
set_option maxHeartbeats 8000000
namespace Go.Proofs.YtlamifbjklpdbaaGreat
open Go Go.RowKit
def Fl.cells(f:Fl):List Value:=[.int .i64 f.k,.int .i64 f.n,.int .i64 f.mn,.int .i64 f.mx,.slice f.rq f.rs.length f.rc,.slice f.kq f.kl f.kc]
def aV(ks:List Tr):List Value:=ks.flatMap fun t=>t.f.cells
theorem jV(t:Tr)(ks:List Tr):aV (t :: ks)=t.f.cells++aV ks:=by simp [aV]
theorem dM(a b:List Tr):aV (a++b)=aV a++aV b:=by simp [aV]
theorem fA(ks:List Tr):(aV ks).length=ks.length*6:=by
 induction ks with
 | nil=>rfl
 | cons t ks ih=>rw [jV,o5,ih,o7];simp [Fl.cells];omega
theorem lR(ks:List Tr):∀ u∈aV ks,u.oneCell'=true:=by
 intro u hu
 unfold aV at hu
 rw [aBJ] at hu
 obtain⟨t,-,ht⟩:=hu
 simp [Fl.cells] at ht
 rcases ht with rfl | rfl | rfl | rfl | rfl | rfl <;> rfl
theorem iU:∀ (ks:List Tr) (i j:Nat) (t:Tr),ks[i]?=some t->j<6->(aV ks)[i*6+j]?=t.f.cells[j]?
 | t :: ks,0,j,u,h,hj=>by
  simp at h
  subst h
  rw [jV,Nat.zero_mul,m7,aAH (by simpa [Fl.cells] using hj)]
 | t :: ks,i+1,j,u,h,hj=>by
  rw [jV,aAA (by simp [Fl.cells];omega),show (i+1)*6+j-t.f.cells.length=i*6+j by simp [Fl.cells];omega]
  exact iU ks i j u (by simpa using h) hj
theorem tM(b o j:Nat):(⟨b,o,none⟩:Addr).add j=⟨b,o+j,none⟩:=by unfold Addr.add;split <;> simp_all
theorem Six.at{W:World}{g o:Nat}{f:Fl}(h:Six W g o f){j:Nat}{u:Value}(hj:f.cells[j]?=some u):W.cell? ⟨g,o+j,none⟩=some u:=by
 obtain⟨h0,h1,h2,h3,h4,h5⟩:=h
 match j,hj with
 | 0,hj=>simp [Fl.cells] at hj;subst hj;exact h0
 | 1,hj=>simp [Fl.cells] at hj;subst hj;exact h1
 | 2,hj=>simp [Fl.cells] at hj;subst hj;exact h2
 | 3,hj=>simp [Fl.cells] at hj;subst hj;exact h3
 | 4,hj=>simp [Fl.cells] at hj;subst hj;exact h4
 | 5,hj=>simp [Fl.cells] at hj;subst hj;exact h5
 | j+6,hj=>simp [Fl.cells] at hj
theorem ArgK.news{W:World}{ad:Addr}{n c:Nat}{ks:List Tr}(h:ArgK W (.slice (some ad) n c) ks):∀ j u,(aV ks)[j]?=some u->W.cell? (ad.add j)=some u:=by
 intro j u hj
 have hjl:j<ks.length*6:=by have:=(m8.1 hj).1;rwa [fA] at this
 rcases h with⟨p,cap,e,rfl,-⟩ | ⟨g,off,cap,e,h2,h3,h4,h5⟩
 ·simp at hjl
 ·cases e
  obtain⟨t,ht⟩:∃ t,ks[j/6]?=some t:=⟨_,g9 (by omega)⟩
  have hg:=iU ks (j/6) (j%6) t ht (by omega)
  rw [show j/6*6+j%6=j by omega,hj] at hg
  have:=(h5 (j/6) t ht).at hg.symm
  rw [tM,<- this]
  congr 2
  omega
theorem rM(W:World)(a:Option Addr)(l c:Nat):(binOp .eql 22 (.slice a l c) (.slice none 0 0)).run Tryz.prog W=.ok (.bool a.isNone) W:=by
 unfold binOp
 simp [run_equal_slice_nil W _ _ a l c aY]
theorem rN(W:World)(a:Option Addr)(l c:Nat):(binOp .eql 23 (.slice a l c) (.slice none 0 0)).run Tryz.prog W=.ok (.bool a.isNone) W:=by
 unfold binOp
 simp [run_equal_slice_nil W _ _ a l c cQ]
theorem vS{w:World}{q:Option Addr}{k:Nat}{L:List (Int×Int)}(h:ArgR w (.slice q L.length k) L)(hl:L.length+3<=8796093022208) :
  Calls Tryz.prog 40 #[.slice q L.length k] w fun e w'=>∃ q' k',e=.returned (.slice q' L.length k')/\RR w.heap.size w' (.slice q' L.length k') L/\Below w.heap.size w w':=by
 obtain⟨t0,hi,hz0,hz1,hz2⟩:=aR cL
 cases q with
 | none=>
  have hLn:L=[]/\k=0:=by
   rcases h with⟨p,cap,e,rfl,hp⟩ | ⟨g,off,cap,e,-⟩
   ·cases e;exact⟨rfl,hp rfl⟩
   ·cases e
  obtain⟨rfl,rfl⟩:=hLn
  have hq:=fun W=>rM W none 0 0
  clear h
  go_enter Tryz.func40,Tryz.ntmps40
  go_wp2
  go_ret
  exact⟨none,0,rfl,RR.nil _ _,Below.refl _ _⟩
 | some ad=>
  have hq:=fun W=>rM W (some ad) L.length k
  have B0:Below w.heap.size w (w.alloc (.cells #[] 53)):=bz9
  have OW:Hid ((w.alloc (.cells #[] 53)).ownsRow w.heap.size 53 2 (.slice (some ⟨w.heap.size,0,none⟩) 0 0) 0 []):=⟨rfl,.inr ⟨w.heap.size,0,#[],rfl,t8 _,aD w _,t8 _,o9 _,rfl,rfl⟩⟩
  have HG:=aA (h.kept B0).news
  clear h B0
  go_enter Tryz.func40,Tryz.ntmps40
  go_wp2_with (at_builtin;refine wpList_append_own_at _ rfl _ _ 22 rfl w.heap.size 53 t0 (.agg #[.int .i64 0,.int .i64 0]) 2 16 aY hi hz0 hz1 hz2 rfl (by decide) (.slice (some ⟨w.heap.size,0,none⟩) 0 0) 0 [] rfl OW.out ad L.length k (aL L) rfl (by rw [cI]) HG.out (fY L) (by unfold maxLen;omega) (by omega) (by simp) ?_;intro v' w6 hown' hgrow _ hblk;obtain⟨q6,cap6,rfl⟩:=aQ hown';have O6:Hid (w6.ownsRow w.heap.size 53 2 (.slice q6 (0+L.length) cap6) (0+L.length) ([]++aL L)):=hown';have B6:Hid (Below w.heap.size w w6):=((((Fr.refl (fun k=>k=w.heap.size) w).alloc _).grown hgrow (fun k hk=>by(simp [Value.ownBlock] at hk;exact hk.symm))).below lz9 (fun k hk=>by omega));clear hown' hgrow hblk)
  go_ret
  have:=O6.out
  rw [m7,aAI] at this
  exact⟨q6,cap6,by simp,this,B6.out⟩
theorem vT{w:World}{q:Option Addr}{k:Nat}{ks:List Tr}(h:ArgK w (.slice q ks.length k) ks)(hl:ks.length<=1000000) :
  Calls Tryz.prog 41 #[.slice q ks.length k] w fun e w'=>∃ q' k',e=.returned (.slice q' ks.length k')/\w'.ownsRow w.heap.size 25 6 (.slice q' ks.length k') ks.length (aV ks)/\Below w.heap.size w w':=by
 obtain⟨t0,hi,hz0,hz1,hz2⟩:=aR gT
 cases q with
 | none=>
  have hLn:ks=[]/\k=0:=by
   rcases h with⟨p,cap,e,rfl,hp⟩ | ⟨g,off,cap,e,-⟩
   ·cases e;exact⟨rfl,hp rfl⟩
   ·cases e
  obtain⟨rfl,rfl⟩:=hLn
  have hq:=fun W=>rN W none 0 0
  clear h
  go_enter Tryz.func41,Tryz.ntmps41
  go_wp2
  go_ret
  exact⟨none,0,rfl,aAY _ _ _ _,Below.refl _ _⟩
 | some ad=>
  have hq:=fun W=>rN W (some ad) ks.length k
  have B0:Below w.heap.size w (w.alloc (.cells #[] 25)):=bz9
  have OW:Hid ((w.alloc (.cells #[] 25)).ownsRow w.heap.size 25 6 (.slice (some ⟨w.heap.size,0,none⟩) 0 0) 0 []):=⟨rfl,.inr ⟨w.heap.size,0,#[],rfl,t8 _,aD w _,t8 _,o9 _,rfl,rfl⟩⟩
  have HG:=aA (h.ck (CK.of_below B0)).news
  clear h B0
  go_enter Tryz.func41,Tryz.ntmps41
  go_wp2_with (at_builtin;refine wpList_append_own_at _ rfl _ _ 23 rfl w.heap.size 25 t0 (.agg #[.int .i64 0,.int .i64 0,.int .i64 0,.int .i64 0,.slice none 0 0,.slice none 0 0]) 6 80 cQ hi hz0 hz1 hz2 rfl (by decide) (.slice (some ⟨w.heap.size,0,none⟩) 0 0) 0 [] rfl OW.out ad ks.length k (aV ks) rfl (by rw [fA]) HG.out (lR ks) (by unfold maxLen;omega) (by omega) (by simp) ?_;intro v' w6 hown' hgrow _ hblk;obtain⟨q6,cap6,rfl⟩:=aQ hown';have O6:Hid (w6.ownsRow w.heap.size 25 6 (.slice q6 (0+ks.length) cap6) (0+ks.length) ([]++aV ks)):=hown';have B6:Hid (Below w.heap.size w w6):=((((Fr.refl (fun k=>k=w.heap.size) w).alloc _).grown hgrow (fun k hk=>by(simp [Value.ownBlock] at hk;exact hk.symm))).below lz9 (fun k hk=>by omega));clear hown' hgrow hblk)
  go_ret
  have:=O6.out
  rw [m7,aAI] at this
  exact⟨q6,cap6,by simp,this,B6.out⟩
def zW(N:Nat->Prop)(t:Tr):Prop:=(∀ a,t.f.rq=some a->t.f.rs≠[]->N a.block)/\(∀ a,t.f.kq=some a->t.ks≠[]->N a.block)
def Foot(N:Nat->Prop)(t:Tr):Prop:=bF (zW N) t
theorem Foot.mono{N M:Nat->Prop}{t:Tr}(h:Foot N t)(hm:∀ k,N k->M k):Foot M t:=iD (fun _ q=>⟨fun a e z=>hm _ (q.1 a e z),fun a e z=>hm _ (q.2 a e z)⟩) t h
theorem NA.ckN{N:Nat->Prop}{W W':World}{t:Tr}(h:NA W t)(hf:zW N t)(hc:CKeep N W W'):NA W' t:=by
 refine⟨?_,?_,h.fit,h.len,fun a e z=>?_,fun a e z=>?_⟩
 rotate_left 2
 ·obtain⟨cur,q⟩:=h.own.1 a e z
  exact⟨cur,hc.same _ _ _ _ (hf.1 a e z) q⟩
 ·obtain⟨cur,q⟩:=h.own.2 a e z
  exact⟨cur,hc.same _ _ _ _ (hf.2 a e z) q⟩
 ·rcases h.r with q | ⟨g,off,cap,e,hg,h1,h2,h3⟩
  ·exact .inl q
  ·injection e with e1 e2 e3
   refine .inr ⟨g,off,cap,by rw [e1,e3],o8 hg hc.size,h1,h2,fun i x hx=>?_⟩
   have hN:N g:=hf.1 _ e1 (fun z=>by rw [z] at hx;simp at hx)
   exact⟨cO hc (p:=⟨g,off+2*i,none⟩) hN (h3 i x hx).1,cO hc (p:=⟨g,off+2*i+1,none⟩) hN (h3 i x hx).2⟩
 ·rcases h.k with q | ⟨g,off,cap,e,hg,h1,h2,h3⟩
  ·exact .inl q
  ·injection e with e1 e2 e3
   refine .inr ⟨g,off,cap,by rw [e1,e2,e3],o8 hg hc.size,h1,h2,fun i x hx=>(h3 i x hx).ck hc (hf.2 _ e1 (fun z=>by rw [z] at hx;simp at hx))⟩
theorem rL{P Q R:Tr->Prop}(h:∀ t,P t->Q t->R t)(t:Tr):bF P t->bF Q t->bF R t:=by
 refine Tr.ind (P:=fun t=>bF P t->bF Q t->bF R t) (fun t ih hp hq=>?_) t
 exact(aI t).2 ⟨h t ((aI t).1 hp).1 ((aI t).1 hq).1,(aT _).2 fun u hu=>ih u hu (cB hp hu) (cB hq hu)⟩
theorem TA.ckN{N:Nat->Prop}{W W':World}{t:Tr}(h:TA W t)(hf:Foot N t)(hc:CKeep N W W'):TA W' t:=rL (fun _ a b=>NA.ckN a b hc) t h hf
structure KR(W:World)(g:Nat)(ks:List Tr):Prop where
 blk:∃ cur,W.heap[g]?=some (.cells cur 25 (0,0))
 six:∀ (i:Nat) (t:Tr),ks[i]?=some t->Six W g (i*6) t.f
theorem KR.of_row{W:World}{base g n c:Nat}{ks:List Tr}(h:W.ownsRow base 25 6 (.slice (some ⟨g,0,none⟩) n c) n (aV ks)):KR W g ks:=by
 obtain⟨-,-,cur,hc⟩:=aF h (g:=g) rfl
 have at':∀ (i j:Nat) (t:Tr) (u:Value),ks[i]?=some t->t.f.cells[j]?=some u->W.cell? ⟨g,i*6+j,none⟩=some u:=fun i j t u hi hj=>
  aP h ((iU ks i j t hi (by have:=(m8.1 hj).1;simpa [Fl.cells] using this)).trans hj)
 exact⟨⟨cur,hc⟩,fun i t hi=>⟨at' i 0 t _ hi rfl,at' i 1 t _ hi rfl,at' i 2 t _ hi rfl,at' i 3 t _ hi rfl,at' i 4 t _ hi rfl,at' i 5 t _ hi rfl⟩⟩
theorem KR.arg{W:World}{g c:Nat}{ks:List Tr}(h:KR W g ks)(h1:ks.length<=c)(h2:c<=maxLen):ArgK W (.slice (some ⟨g,0,none⟩) ks.length c) ks:=by
 obtain⟨cur,hc⟩:=h.blk
 exact .inr ⟨g,0,c,rfl,aC hc,h1,h2,fun i t hi=>by rw [m7];exact h.six i t hi⟩
theorem KR.ck{N:Nat->Prop}{W W':World}{g:Nat}{ks:List Tr}(h:KR W g ks)(hc:CKeep N W W')(hg:N g):KR W' g ks:=by
 obtain⟨cur,hb⟩:=h.blk
 exact⟨⟨cur,hc.same _ _ _ _ hg hb⟩,fun i t hi=>(h.six i t hi).ck hc hg⟩
theorem KR.kept{W W':World}{g:Nat}{ks:List Tr}(h:KR W g ks)(hb:Below W.heap.size W W'):KR W' g ks:=by
 obtain⟨cur,hc⟩:=h.blk
 exact h.ck (CK.of_below hb) (aC hc)
theorem KR.frz{W:World}{g:Nat}{ks:List Tr}(h:KR W g ks)(j:Nat):W.frozen? ⟨g,j,none⟩=false:=by
 obtain⟨cur,hc⟩:=h.blk
 exact aK hc j
theorem KR.lt{W:World}{g:Nat}{ks:List Tr}(h:KR W g ks):g<W.heap.size:=by
 obtain⟨cur,hc⟩:=h.blk
 exact aC hc
def cD(W:World)(b o:Nat)(f:Fl):World:=
 (((((W.setCell ⟨b,o,none⟩ (.int .i64 f.k)).setCell ⟨b,o+1,none⟩ (.int .i64 f.n)).setCell ⟨b,o+2,none⟩ (.int .i64 f.mn)).setCell ⟨b,o+3,none⟩ (.int .i64 f.mx)).setCell ⟨b,o+4,none⟩ (.slice f.rq f.rs.length f.rc)).setCell ⟨b,o+5,none⟩ (.slice f.kq f.kl f.kc)
theorem dP(W:World)(b o:Nat)(f:Fl):Fr (fun z=>z=b) W (cD W b o f):=by
 unfold cD
 exact((((((Fr.refl (fun z=>z=b) W).setCell (p:=⟨b,o,none⟩) rfl _).setCell (p:=⟨b,o+1,none⟩) rfl _).setCell (p:=⟨b,o+2,none⟩) rfl _).setCell (p:=⟨b,o+3,none⟩) rfl _).setCell (p:=⟨b,o+4,none⟩) rfl _).setCell (p:=⟨b,o+5,none⟩) rfl _
theorem dT{W:World}{b o:Nat}{f g:Fl}(h:Six W b o f):Six (cD W b o g) b o g:=by
 obtain⟨k0,k1,k2,k3,k4,k5⟩:=h
 unfold cD
 refine⟨?_,?_,?_,?_,?_,?_⟩
 ·exact aE (aE (aE (aE (aE (s8 _ _ _ k0) (by omega)) (by omega)) (by omega)) (by omega)) (by omega)
 ·exact aE (aE (aE (aE (s8 _ _ _ (aE k1 (by omega))) (by omega)) (by omega)) (by omega)) (by omega)
 ·exact aE (aE (aE (s8 _ _ _ (aE (aE k2 (by omega)) (by omega))) (by omega)) (by omega)) (by omega)
 ·exact aE (aE (s8 _ _ _ (aE (aE (aE k3 (by omega)) (by omega)) (by omega))) (by omega)) (by omega)
 ·exact aE (s8 _ _ _ (aE (aE (aE (aE k4 (by omega)) (by omega)) (by omega)) (by omega))) (by omega)
 ·exact s8 _ _ _ (aE (aE (aE (aE (aE k5 (by omega)) (by omega)) (by omega)) (by omega)) (by omega))
theorem gY{W:World}{b o i:Nat}{f:Fl}{v:Value}(h:W.cell? ⟨b,i,none⟩=some v)(hi:i<o\/o+6<=i):(cD W b o f).cell? ⟨b,i,none⟩=some v:=by
 unfold cD
 exact aE (aE (aE (aE (aE (aE h (by omega)) (by omega)) (by omega)) (by omega)) (by omega)) (by omega)
theorem KR.set{W:World}{g:Nat}{ks:List Tr}(h:KR W g ks){i:Nat}(hi:i<ks.length)(t:Tr):KR (cD W g (i*6) t.f) g (ks.set i t):=by
 refine⟨?_,fun j u hj=>?_⟩
 ·unfold cD
  exact cR (cR (cR (cR (cR (cR h.blk _ _) _ _) _ _) _ _) _ _) _ _
 ·by_cases e:j=i
  ·subst e
   rw [aBZ hi] at hj
   cases hj
   exact dT (h.six j _ (g9 hi))
  ·rw [aBS (Ne.symm e)] at hj
   obtain⟨k0,k1,k2,k3,k4,k5⟩:=h.six j u hj
   exact⟨gY k0 (by omega),gY k1 (by omega),gY k2 (by omega),gY k3 (by omega),gY k4 (by omega),gY k5 (by omega)⟩
abbrev Zl:=El×Nat
def arP:Way->Int | []=>0 |(par,_) :: _=>par.f.k
def fiP:Way->Bool | []=>true |(_,i) :: _=>(i:Int)==0
def laP:Way->Bool | []=>true |(par,i) :: _=>(i:Int)==(par.ks.length:Int)-1
def brP:Way->Bool | []=>true |(par,_) :: r=>if par.f.k=7\/par.f.k=6 then true else if par.f.k=5 then brP r else false
def zc(z:Zl):List Value:=z.1.2.f.cells++[.int .i64 ((z.1.1.length:Int)+1),.int .i64 (arP z.1.1),.bool (fiP z.1.1),.bool (laP z.1.1),.bool (brP z.1.1),.int .i64 (z.2:Int)]
theorem jD(z:Zl):(zc z).length=12:=by simp [zc,Fl.cells]
def dE(l:List Zl):List Value:=l.flatMap zc
theorem eF(z:Zl)(l:List Zl):dE (z :: l)=zc z++dE l:=by simp [dE]
theorem qU(a b:List Zl):dE (a++b)=dE a++dE b:=by simp [dE]
theorem iT:∀ (l:List Zl) (i j:Nat) (z:Zl),l[i]?=some z->j<12->(dE l)[i*12+j]?=(zc z)[j]?
 | y :: l,0,j,z,h,hj=>by
  simp at h
  subst h
  rw [eF,Nat.zero_mul,m7,aAH (by rw [jD];exact hj)]
 | y :: l,i+1,j,z,h,hj=>by
  have ih:=iT l i j z (by simpa using h) hj
  rw [eF,aAA (by rw [jD];omega),<- ih,jD]
  congr 1
  omega
theorem lQ:∀ (l:List Zl) (i:Nat) (x:El) (a b:Nat),l[i]?=some (x,a)->(dE l).set (i*12+11) (.int .i64 (b:Int))=dE (l.set i (x,b))
 | y :: l,0,x,a,b,h=>by
  simp at h
  subst h
  rw [i8,eF,eF,Nat.zero_mul,m7,List.set_append_left _ _ (by rw [jD];omega)]
  congr 1
 | y :: l,i+1,x,a,b,h=>by
  have ih:=lQ l i x a b (by simpa using h)
  rw [i9,eF,eF,aBU _ _ (by rw [jD];omega),<- ih,jD]
  congr 2
  omega
def tl(most:Nat):Nat->List El->List Zl
 | _,[]=>[]
 | k,x :: r=>(x,min (k+x.2.sz) most) :: tl most (k+1) r
theorem nJ(most:Nat):∀ (a b:List El) (k:Nat),tl most k (a++b)=tl most k a++tl most (k+a.length) b
 | [],b,k=>rfl
 | x :: a,b,k=>by
  rw [t4,tl,tl,nJ most a b (k+1),t4,o7]
  congr 3
  omega
theorem gQ(most:Nat):∀ (a:List El) (k:Nat),(tl most k a).length=a.length
 | [],k=>rfl
 | x :: a,k=>by rw [tl,o7,gQ most a,o7]
theorem aJ2(most:Nat):∀ (a:List El) (k:Nat),(tl most k a).map (·.1)=a
 | [],k=>rfl
 | x :: a,k=>by rw [tl,s6,aJ2 most a]
def jM(most:Nat)(E:List Zl)(x:El):List Zl:=E++(tl most E.length (pp x.1 x.2)).take (most-E.length)
def cG(most:Nat)(E:List Zl)(p:Way)(t:Tr)(j:Nat):List Zl:=E++(((p,t),0) :: tl most (E.length+1) (pps t p 0 (t.ks.take j))).take (most-E.length)
theorem uV{most:Nat}{E:List Zl}{p:Way}{t:Tr}(h:E.length<most):cG most E p t 0=E++[((p,t),0)]:=by
 unfold cG
 rw [aAL,bA]
 congr 1
 rw [show most-E.length=(most-E.length-1)+1 by omega,aBN]
 simp [tl]
theorem mO{most:Nat}{E:List Zl}{p:Way}{t:Tr}{j:Nat}(h:E.length<most):E.length<(cG most E p t j).length/\(cG most E p t j).length<=most/\(cG most E p t j).length=E.length+min (most-E.length) (1+(pps t p 0 (t.ks.take j)).length):=by
 have:(cG most E p t j).length=E.length+min (most-E.length) (1+(pps t p 0 (t.ks.take j)).length):=by
  unfold cG
  rw [o5,aAG,o7,gQ]
  congr 2
  omega
 refine⟨?_,?_,this⟩
 ·rw [this];omega
 ·rw [this];omega
theorem kG{most:Nat}{E:List Zl}{p:Way}{t:Tr}{j:Nat}(h:E.length<most):(cG most E p t j)[E.length]?=some ((p,t),0):=by
 unfold cG
 rw [aAA lz9,aBF,show most-E.length=(most-E.length-1)+1 by omega,aBN]
 rfl
theorem wM(most:Nat)(E:List Zl)(z:Zl)(A B:List El)(hf:E.length+(1+A.length)<most) :
  (E++(z :: tl most (E.length+1) A))++(tl most (E.length+(1+A.length)) B).take (most-(E.length+(1+A.length)))=E++(z :: tl most (E.length+1) (A++B)).take (most-E.length):=by
 rw [nJ,r8,<- t4]
 congr 1
 have hl:(z :: tl most (E.length+1) A).length=1+A.length:=by rw [o7,gQ];omega
 have h1:((z :: tl most (E.length+1) A)++tl most (E.length+1+A.length) B).take (most-E.length)=(z :: tl most (E.length+1) A)++(tl most (E.length+1+A.length) B).take (most-E.length-(1+A.length)):=by
  rw [List.take_append,o4 (by rw [hl];omega),hl]
 rw [h1,show E.length+1+A.length=E.length+(1+A.length) by omega,show most-E.length-(1+A.length)=most-(E.length+(1+A.length)) by omega]
theorem kF{most:Nat}{E:List Zl}{p:Way}{t u:Tr}{j:Nat}(h:E.length<most)(hu:t.ks[j]?=some u)(hl:(cG most E p t j).length<most):jM most (cG most E p t j) ((t,j) :: p,u)=cG most E p t (j+1):=by
 have hlen:=(mO (p:=p) (t:=t) (j:=j) h).2.2
 have e1:cG most E p t j=E++(((p,t),0) :: tl most (E.length+1) (pps t p 0 (t.ks.take j))):=by
  unfold cG
  rw [o4 (by rw [o7,gQ];omega)]
 have hfull:(cG most E p t j).length=E.length+(1+(pps t p 0 (t.ks.take j)).length):=by omega
 have e2:cG most E p t (j+1)=E++(((p,t),0) :: tl most (E.length+1) (pps t p 0 (t.ks.take j)++pp ((t,j) :: p) u)).take (most-E.length):=by
  unfold cG
  rw [pV hu]
 rw [e2]
 unfold jM
 rw [hfull,<- wM most E _ _ _ (by omega),<- e1]
theorem aE8{most:Nat}{E:List Zl}{p:Way}{t:Tr}{j:Nat}(h:E.length<most)(hl:¬ (cG most E p t j).length<most):cG most E p t j=cG most E p t t.ks.length:=by
 have hlen:=mO (p:=p) (t:=t) (j:=j) h
 have hbig:most-E.length<=1+(pps t p 0 (t.ks.take j)).length:=by omega
 unfold cG
 congr 1
 have hp:pps t p 0 (t.ks.take j) <+: pps t p 0 (t.ks.take t.ks.length):=by
  rw [aBQ]
  exact zE j
 obtain⟨r,hr⟩:=hp
 rw [<- hr,nJ,<- t4,List.take_append_of_le_length (by rw [o7,gQ];omega)]
theorem mP{most:Nat}{E:List Zl}{p:Way}{t:Tr}(h:E.length<most):(cG most E p t t.ks.length).set E.length ((p,t),(cG most E p t t.ks.length).length)=jM most E (p,t):=by
 have hlen:=(mO (p:=p) (t:=t) (j:=t.ks.length) h).2.2
 have hsz:1+(pps t p 0 (t.ks.take t.ks.length)).length=t.sz:=by
  have:=bL t p
  rw [bX,o7] at this
  rw [aBQ]
  omega
 rw [hlen,hsz]
 unfold cG jM
 rw [aBU _ _ lz9,aBF,show most-E.length=(most-E.length-1)+1 by omega,aBN,i8]
 congr 1
 show _=(tl most E.length (pp p t)).take _
 rw [bX,tl,aBN,aBQ]
 congr 2
 show _=min (E.length+t.sz) most
 omega
theorem seg(t:Tr):∀ (p:Way) (j:Nat) (x:El),(pp p t)[j]?=some x->∃ rest,(pp p t).drop j=pp x.1 x.2++rest:=by
 refine Tr.ind (P:=fun t=>∀ (p:Way) (j:Nat) (x:El),(pp p t)[j]?=some x->∃ rest,(pp p t).drop j=pp x.1 x.2++rest) (fun t ih p j x h=>?_) t
 cases j with
 | zero=>
  rw [bX] at h
  simp at h
  subst h
  exact⟨[],by simp⟩
 | succ j=>
  rw [bX] at h ⊢
  rw [aAP] at h
  rw [List.drop_succ_cons]
  have key:∀ (ks:List Tr) (i j:Nat),(∀ u∈ks,u∈t.ks)->(pps t p i ks)[j]?=some x->∃ rest,(pps t p i ks).drop j=pp x.1 x.2++rest:=by
   intro ks
   induction ks with
   | nil=>intro i j _ h;rw [bA] at h;simp at h
   | cons u ks ihk=>
    intro i j hm h
    rw [aX] at h ⊢
    by_cases hj:j<(pp ((t,i) :: p) u).length
    ·rw [aAH hj] at h
     obtain⟨rest,hr⟩:=ih u (hm u n9) _ _ _ h
     refine⟨rest++pps t p (i+1) ks,?_⟩
     rw [List.drop_append_of_le_length (by omega),hr,r8]
    ·rw [aAA (by omega)] at h
     obtain⟨rest,hr⟩:=ihk (i+1) _ (fun v hv=>hm v (m9 _ hv)) h
     refine⟨rest,?_⟩
     rw [List.drop_append,List.drop_eq_nil_of_le (by omega),aAI,hr]
  exact key t.ks 0 j (fun _ h=>h) h
theorem aX4{t:Tr}{p:Way}{j:Nat}{x:El}(h:(pp p t)[j]?=some x):j+x.2.sz<=t.sz:=by
 obtain⟨rest,hr⟩:=seg t p j x h
 have:=congrArg List.length hr
 rw [aAR,o5,bL,bL] at this
 have hj:=(m8.1 h).1
 rw [bL] at hj
 omega
theorem anc(t:Tr):∀ (p:Way) (i:Nat) (x:El) (par:Tr) (k:Nat) (r:Way),(pp p t)[i]?=some x->x.1=(par,k) :: r->i=0\/∃ j,j<i/\(pp p t)[j]?=some (r,par)/\i<j+par.sz:=by
 refine Tr.ind (P:=fun t=>∀ (p:Way) (i:Nat) (x:El) (par:Tr) (k:Nat) (r:Way),(pp p t)[i]?=some x->x.1=(par,k) :: r->i=0\/∃ j,j<i/\(pp p t)[j]?=some (r,par)/\i<j+par.sz) (fun t ih p i x par k r h hx=>?_) t
 cases i with
 | zero=>exact .inl rfl
 | succ i=>
  refine .inr ?_
  have hil:=(m8.1 h).1
  rw [bL] at hil
  rw [bX] at h ⊢
  rw [aAP] at h
  have key:∀ (ks:List Tr) (m i:Nat),(∀ u∈ks,u∈t.ks)->(pps t p m ks)[i]?=some x->(par=t/\r=p)\/∃ j,j<i/\(pps t p m ks)[j]?=some (r,par)/\i<j+par.sz:=by
   intro ks
   induction ks with
   | nil=>intro m i _ h;rw [bA] at h;simp at h
   | cons u ks ihk=>
    intro m i hm h
    rw [aX] at h ⊢
    by_cases hi:i<(pp ((t,m) :: p) u).length
    ·rw [aAH hi] at h
     rcases ih u (hm u n9) _ _ _ _ _ _ h hx with rfl | ⟨j,h1,h2,h3⟩
     ·rw [bX] at h
      simp at h
      subst h
      injection hx with e1 e2
      injection e1 with e1 _
      exact .inl ⟨e1.symm,e2.symm⟩
     ·exact .inr ⟨j,h1,by rw [aAH (by omega)];exact h2,h3⟩
    ·rw [aAA (by omega)] at h
     rcases ihk (m+1) _ (fun v hv=>hm v (m9 _ hv)) h with e | ⟨j,h1,h2,h3⟩
     ·exact .inl e
     ·exact .inr ⟨j+(pp ((t,m) :: p) u).length,by omega,by rw [aAA (by omega),aBR];exact h2,by omega⟩
  rcases key t.ks 0 i (fun _ h=>h) h with⟨rfl,rfl⟩ | ⟨j,h1,h2,h3⟩
  ·exact⟨0,by omega,rfl,by omega⟩
  ·exact⟨j+1,by omega,by rw [aAP];exact h2,by omega⟩
theorem bD2{t:Tr}:∀ (s:Way) (i:Nat) (x:El) (par:Tr) (k:Nat) (r:Way),(pp [] t)[i]?=some x->x.1=s++(par,k) :: r->∃ j,j<i/\(pp [] t)[j]?=some (r,par)/\i<j+par.sz
 | [],i,x,par,k,r,h,hx=>by
  rcases anc t [] i x par k r h hx with rfl | q
  ·rw [bX] at h
   simp at h
   subst h
   cases hx
  ·exact q
 |(a,b) :: s,i,x,par,k,r,h,hx=>by
  have h0:i≠0:=fun e=>by
   subst e
   rw [bX] at h
   simp at h
   subst h
   cases hx
  rcases anc t [] i x a b (s++(par,k) :: r) h hx with rfl | ⟨j1,h1,h2,h3⟩
  ·exact absurd rfl h0
  ·obtain⟨j,h4,h5,h6⟩:=bD2 s j1 _ par k r h2 rfl
   refine⟨j,by omega,h5,?_⟩
   obtain⟨rest,hr⟩:=seg t [] j _ h5
   have h7:(pp r par)[j1-j]?=some (s++(par,k) :: r,a):=by
    have e:((pp [] t).drop j)[j1-j]?=some (s++(par,k) :: r,a):=by rw [aBV,show j+(j1-j)=j1 by omega];exact h2
    rw [hr,aAH (by rw [bL];show j1-j<par.sz;omega)] at e
    exact e
   have:=aX4 h7
   simp only at this
   omega
theorem bF6{t:Tr}{i j:Nat}{x y:El}(hx:(pp [] t)[i]?=some x)(hy:(pp [] t)[j]?=some y)(h1:j<i)(h2:i<j+y.2.sz):∃ s k,x.1=s++(y.2,k) :: y.1:=by
 obtain⟨rest,hr⟩:=seg t [] j y hy
 have e:((pp [] t).drop j)[i-j]?=some x:=by rw [aBV,show j+(i-j)=i by omega];exact hx
 rw [hr,aAH (by rw [bL];omega),bX,show i-j=(i-j-1)+1 by omega,aAP] at e
 have hm:=n8 e
 have:∀ (ks:List Tr) (m:Nat),x∈pps y.2 y.1 m ks->∃ s k,x.1=s++(y.2,k) :: y.1:=by
  intro ks
  induction ks with
  | nil=>intro m h;rw [bA] at h;cases h
  | cons u ks ih=>
   intro m h
   rw [aX] at h
   rcases o3.1 h with h | h
   ·have hw:=bJ9 ((y.2,m) :: y.1) u []
    rw [aAI] at hw
    rw [hw] at h
    obtain⟨z,-,rfl⟩:=s4.1 h
    exact⟨z.1,m,rfl⟩
   ·exact ih (m+1) h
 exact this _ _ hm
def fO:Nat->List El->List Nat
 | _,[]=>[]
 | k,x :: r=>if x.2.f.k=7 then k :: fO (k+1) r else fO (k+1) r
theorem jQ:∀ (k:Nat) (a b:List El),fO k (a++b)=fO k a++fO (k+a.length) b
 | k,[],b=>by simp [fO]
 | k,x :: a,b=>by
  rw [t4,fO,fO,jQ (k+1) a b,o7,show k+1+a.length=k+(a.length+1) by omega]
  split <;> rfl
theorem mR:∀ (k:Nat) (a:List El),(fO k a).length=aN a
 | k,[]=>rfl
 | k,x :: a=>by
  rw [fO]
  simp only [aN]
  split
  ·rw [o7,mR (k+1) a];omega
  ·rw [mR (k+1) a];omega
theorem rJ(a:List El)(x:El):fO 0 (a++[x])=fO 0 a++(if x.2.f.k=7 then [a.length] else []):=by
 rw [jQ,m7]
 congr 1
theorem bB1{a:List El}{j:Nat}{y:El}(h:a[j]?=some y)(hk:y.2.f.k=7):(fO 0 a)[aN (a.take j)]?=some j:=by
 have hj:=(m8.1 h).1
 have e:a=a.take j++y :: a.drop (j+1):=by
  have:=aBG j a
  rw [aBO hj,(m8.1 h).2] at this
  exact this.symm
 have hl:(a.take j).length=j:=by rw [aAG];omega
 conv=>lhs;arg 1;rw [e]
 rw [jQ,<- mR 0 (a.take j),aAA lz9,aBF,fO,if_pos hk,hl,m7]
 rfl
theorem qE:∀ (a:List El) (k m j:Nat),(fO k a)[m]?=some j->k<=j/\∃ y,a[j-k]?=some y/\y.2.f.k=7/\aN (a.take (j-k))=m
 | [],k,m,j,h=>by simp [fO] at h
 | x :: a,k,m,j,h=>by
  rw [fO] at h
  by_cases hk:x.2.f.k=7
  ·rw [if_pos hk] at h
   cases m with
   | zero=>
    simp at h
    subst h
    refine⟨t8 _,x,?_,hk,?_⟩
    ·rw [aBF];rfl
    ·rw [aBF];rfl
   | succ m=>
    rw [aAP] at h
    obtain⟨h1,y,h2,h3,h4⟩:=qE a (k+1) m j h
    refine⟨by omega,y,?_,h3,?_⟩
    ·rw [show j-k=(j-(k+1))+1 by omega,aAP];exact h2
    ·rw [show j-k=(j-(k+1))+1 by omega,aBN,aN,if_pos hk,h4];omega
  ·rw [if_neg hk] at h
   obtain⟨h1,y,h2,h3,h4⟩:=qE a (k+1) m j h
   refine⟨by omega,y,?_,h3,?_⟩
   ·rw [show j-k=(j-(k+1))+1 by omega,aAP];exact h2
   ·rw [show j-k=(j-(k+1))+1 by omega,aBN,aN,if_neg hk,h4];omega
theorem bP2{t:Tr}{pre:List El}{x:El}{N:Nat}{j:Nat}(hp:pre++[x] <+: pp [] t)(hnum:∀ (j:Nat) (y:El),pre[j]?=some y->y.2.f.k=7->y.2.f.n=(aN (pre.take j):Int)+1)(hi:pre.length<2000)(hj:(fO 0 pre)[N]?=some j) :
  ∃ y,pre[j]?=some y/\(fJ x.1 ((N:Int)+1)=false↔min (j+y.2.sz) 2001<=pre.length):=by
 obtain⟨r,hr⟩:=hp
 obtain⟨-,y,h2,h3,h4⟩:=qE pre 0 N j hj
 rw [Nat.sub_zero] at h2 h4
 have hjl:=(m8.1 h2).1
 have hx:(pp [] t)[pre.length]?=some x:=by rw [<- hr,r8,aAA lz9,aBF];rfl
 have hin:∀ (k:Nat) (z:El),k<pre.length->(pp [] t)[k]?=some z->pre[k]?=some z:=fun k z hk hz=>by
  rw [<- hr,r8,aAH hk] at hz
  exact hz
 have hy:(pp [] t)[j]?=some y:=by rw [<- hr,r8,aAH hjl];exact h2
 refine⟨y,h2,?_⟩
 have hny:=hnum j y h2 h3
 rw [h4] at hny
 constructor
 ·intro he
  rcases Nat.lt_or_ge pre.length (min (j+y.2.sz) 2001) with q | q
  ·exfalso
   obtain⟨s,k,e⟩:=bF6 hx hy hjl (by omega)
   have:fJ x.1 ((N:Int)+1)=true:=by
    unfold fJ
    rw [e,List.any_append,aCC]
    simp [h3,hny]
   rw [he] at this
   cases this
  ·exact q
 ·intro hm
  cases he:fJ x.1 ((N:Int)+1) with
  | false=>rfl
  | true=>
   exfalso
   unfold fJ at he
   rw [aAX] at he
   obtain⟨⟨par,k⟩,hmem,hh⟩:=he
   simp at hh
   obtain⟨s,r',e⟩:=List.append_of_mem hmem
   obtain⟨j',a1,a2,a3⟩:=bD2 s pre.length x par k r' hx e
   have b1:=hin j' _ a1 a2
   have b2:=hnum j' _ b1 hh.1
   have b3:aN (pre.take j')=N:=by
    have:(N:Int)+1=(aN (pre.take j'):Int)+1:=by rw [<- b2];exact hh.2.symm
    omega
   have b4:=bB1 b1 hh.1
   rw [b3,hj] at b4
   injection b4 with b4
   subst b4
   rw [h2] at b1
   injection b1 with b1
   subst b1
   simp only at hm
   omega
theorem iP{c f:Bool}{p:Way}{t:Tr}{ah gr:Nat}(h:bR c f p t ah gr=0):bQ p t.f.k=true/\aS c f ((gr:Int)+1) t.f/\dY t.f.k t.ks.length=true:=by
 unfold bR at h
 split at h
 ·cases h
 ·split at h
  ·cases h
  ·split at h
   ·cases h
   ·rename_i n3
    exact Classical.not_not.1 n3
def kA(p:Way)(k:Int):Bool:=
 if arP p=5 then (if k=3 then brP p&&fiP p else if k=4 then brP p&&laP p else bC k)
 else if arP p=9 then bC k else if arP p=6 then k != 6 else true
def dN(c f:Bool)(t:Tr):Prop:=
 if t.f.k=1\/t.f.k=3\/t.f.k=4 then t.f.n=0/\t.f.mn=0/\t.f.mx=0/\t.f.rs.length=0/\t.ks.length=0
 else if t.f.k=2 then lC c f t.f.rs/\t.f.n=0/\t.f.mn=0/\t.f.mx=0/\t.ks.length=0
 else if t.f.k=5\/t.f.k=6 then 1<t.ks.length/\t.f.n=0/\t.f.mn=0/\t.f.mx=0/\t.f.rs.length=0
 else if t.f.k=7 then t.ks.length=1/\t.f.mn=0/\t.f.mx=0/\t.f.rs.length=0
 else if t.f.k=8 then (1<=t.f.n/\t.f.n<=9)/\t.f.mn=0/\t.f.mx=0/\t.f.rs.length=0/\t.ks.length=0
 else if t.f.k=9 then eX t.f.mn t.f.mx=true/\t.ks.length=1/\t.f.n=0/\t.f.rs.length=0
 else False
theorem gR{c f:Bool}{t:Tr}{g:Int}:(cP t.f.k=true/\aS c f g t.f/\dY t.f.k t.ks.length=true)↔(dN c f t/\(t.f.k=7->t.f.n=g)):=by
 obtain⟨F,ks⟩:=t
 obtain⟨k,n,mn,mx,rs,rq,rc,kq,kl,kc⟩:=F
 simp only [Tr.f,Tr.ks]
 unfold dN aS dY cP
 simp only [Tr.f,Tr.ks]
 generalize lC c f rs=S
 generalize rs.length=rl
 generalize ks.length=kk
 by_cases h1:k=1
 ·subst h1;simp;constructor <;> (intro h;omega)
 by_cases h3:k=3
 ·subst h3;simp;constructor <;> (intro h;omega)
 by_cases h4:k=4
 ·subst h4;simp;constructor <;> (intro h;omega)
 by_cases h2:k=2
 ·subst h2;simp
  constructor
  ·rintro ⟨⟨a,b,c,d⟩,e⟩;exact⟨a,b,c,d,e⟩
  ·rintro ⟨a,b,c,d,e⟩;exact⟨⟨a,b,c,d⟩,e⟩
 by_cases h5:k=5
 ·subst h5;simp;constructor <;> (intro h;omega)
 by_cases h6:k=6
 ·subst h6;simp;constructor <;> (intro h;omega)
 by_cases h7:k=7
 ·subst h7;simp;constructor <;> (intro h;omega)
 by_cases h8:k=8
 ·subst h8;simp;constructor <;> (intro h;omega)
 by_cases h9:k=9
 ·subst h9;simp
  constructor
  ·rintro ⟨⟨a,b,c⟩,e⟩;exact⟨a,e,b,c⟩
  ·rintro ⟨a,e,b,c⟩;exact⟨⟨a,b,c⟩,e⟩
 ·simp [h1,h2,h3,h4,h5,h6,h7,h8,h9]
  intro a b
  omega
theorem pN{p:Way}{k:Int}(hbr:∀ par i r,p=(par,i) :: r->par.f.k=5->brP r=true)(hk:cP k=true):bQ p k=kA p k:=by
 cases p with
 | nil=>
  unfold bQ kA
  simp [arP,hk]
 | cons y r=>
  obtain⟨par,i⟩:=y
  have e:kA ((par,i) :: r) k=(if par.f.k=5 then (if k=3 then brP ((par,i) :: r)&&((i:Int)==0) else if k=4 then brP ((par,i) :: r)&&((i:Int)==(par.ks.length:Int)-1) else bC k) else if par.f.k=9 then bC k else if par.f.k=6 then k != 6 else true):=rfl
  rw [e]
  unfold bQ cS
  simp only
  by_cases h5:par.f.k=5
  ·rw [if_pos h5,if_pos h5]
   have hb:brP ((par,i) :: r)=true:=by
    have:=hbr par i r rfl h5
    simp [brP,h5,this]
   rw [hb,aCB,aCB]
   by_cases k3:k=3
   ·subst k3
    rw [if_pos rfl]
    simp [bC]
   ·rw [if_neg k3]
    by_cases k4:k=4
    ·subst k4
     rw [if_pos rfl]
     simp [bC]
    ·rw [if_neg k4]
     have e3:(k==3)=false:=by simpa using k3
     have e4:(k==4)=false:=by simpa using k4
     rw [e3,e4,Bool.false_and,Bool.false_and,Bool.or_false,Bool.or_false]
  ·rw [if_neg h5,if_neg h5]
   by_cases h9:par.f.k=9
   ·rw [if_pos h9,if_pos h9]
   ·rw [if_neg h9,if_neg h9]
    by_cases h6:par.f.k=6
    ·rw [if_pos h6,if_pos h6,hk,aCB]
    ·rw [if_neg h6,if_neg h6,hk]
theorem bP7{c f:Bool}{t:Tr}{pre:List El}{x:El}(hp:pre++[x] <+: pp [] t)(hr:∀ (j:Nat) (y:El),pre[j]?=some y->bR c f y.1 y.2 j (aN (pre.take j))=0):∀ par i r,x.1=(par,i) :: r->par.f.k=5->brP r=true:=by
 intro par i r hx h5
 obtain⟨rest,he⟩:=hp
 have hxi:(pp [] t)[pre.length]?=some x:=by rw [<- he,r8,aAA lz9,aBF];rfl
 have hin:∀ (k:Nat) (z:El),k<pre.length->(pp [] t)[k]?=some z->pre[k]?=some z:=fun k z hk hz=>by
  rw [<- he,r8,aAH hk] at hz
  exact hz
 cases r with
 | nil=>rfl
 | cons y r'=>
  obtain⟨qq,m⟩:=y
  obtain⟨j,a1,a2,a3⟩:=bD2 [] pre.length x par i ((qq,m) :: r') hxi hx
  have l1:=(iP (hr j _ (hin j _ a1 a2))).1
  obtain⟨j0,b1,b2,b3⟩:=bD2 [] j _ qq m r' a2 rfl
  have l2:=(iP (hr j0 _ (hin j0 _ (by omega) b2))).2.2
  have hks:1<=qq.ks.length:=by
   have h1:2<=qq.sz:=by omega
   rw [dA] at h1
   cases hk:qq.ks with
   | nil=>rw [hk,cM] at h1;omega
   | cons a l=>simp
  have l1':cS qq.f.k (m:Int) qq.ks.length 5=true:=by
   have:bQ ((qq,m) :: r') par.f.k=true:=l1
   rw [h5] at this
   exact this
  have l2':dY qq.f.k qq.ks.length=true:=l2
  unfold cS at l1'
  simp only [brP]
  by_cases k5:qq.f.k=5
  ·rw [if_pos k5] at l1';simp [bC] at l1'
  ·rw [if_neg k5] at l1'
   by_cases k9:qq.f.k=9
   ·rw [if_pos k9] at l1';simp [bC] at l1'
   ·by_cases k67:qq.f.k=7\/qq.f.k=6
    ·rw [if_pos k67]
    ·exfalso
     unfold dY at l2'
     rw [if_neg (by omega),if_neg (by omega)] at l2'
     have h0:=eq_of_beq l2'
     omega
def bJ(c f:Bool)(p:Way)(t:Tr):Prop:=kA p t.f.k=true/\dN c f t
theorem pM{c f:Bool}{t:Tr}(h:dN c f t):cP t.f.k=true:=(gR (g:=t.f.n)).2 ⟨h,fun _=>rfl⟩ |>.1
theorem yD{c f:Bool}{p:Way}{t:Tr}{g:Int}(hbr:∀ par i r,p=(par,i) :: r->par.f.k=5->brP r=true):(bQ p t.f.k=true/\aS c f g t.f/\dY t.f.k t.ks.length=true)↔(bJ c f p t/\(t.f.k=7->t.f.n=g)):=by
 constructor
 ·rintro ⟨h1,h2,h3⟩
  have hk:cP t.f.k=true:=by
   cases p with
   | nil=>exact h1
   | cons y r=>exact lB h1
  have:=gR.1 ⟨hk,h2,h3⟩
  exact⟨⟨by rw [<- pN hbr hk];exact h1,this.1⟩,this.2⟩
 ·rintro ⟨⟨h1,h2⟩,h3⟩
  have hk:=pM h2
  have:=gR.2 ⟨h2,h3⟩
  exact⟨by rw [pN hbr hk];exact h1,this.2⟩
def NP(c o:Bool)(t:Tr):Prop:=dN c o t/\(t.f.k=7->1<=t.f.n/\t.f.n<=30)
theorem vI{P:Tr->Prop}(t:Tr):∀ p,(∀ z∈pp p t,P z.2)->bF P t:=by
 refine Tr.ind (P:=fun t=>∀ p,(∀ z∈pp p t,P z.2)->bF P t) (fun t ih p h=>?_) t
 rw [bX] at h
 refine(aI t).2 ⟨h (p,t) (n9 ..),(aT _).2 ?_⟩
 have:∀ (ks:List Tr) (i:Nat),(∀ u∈ks,u∈t.ks)->(∀ z∈pps t p i ks,P z.2)->∀ u∈ks,bF P u:=by
  intro ks
  induction ks with
  | nil=>intro i _ _ u hu;cases hu
  | cons v vs ih2=>
   intro i hs hz u hu
   rw [aX] at hz
   rcases u0.1 hu with e | e
   ·subst e
    exact ih u (hs u (n9 ..)) _ (fun z q=>hz z (o3.2 (.inl q)))
   ·exact ih2 (i+1) (fun x hx=>hs x (m9 _ hx)) (fun z q=>hz z (o3.2 (.inr q))) u e
 exact this t.ks 0 (fun _ h=>h) (fun z hz=>h z (m9 _ hz))
theorem aK2{p:Way}{k:Int}(h:bQ p k=true):cP k=true:=by
 unfold bQ at h
 split at h
 ·exact h
 ·exact lB h
theorem uC{c o:Bool}{t:Tr}(h:aZ c o 0 0 (pp [] t)=0):bF (NP c o) t:=by
 refine vI t [] fun z hz=>?_
 obtain⟨pre,post,e⟩:=List.append_of_mem hz
 have q:=kD _ 0 0 h pre z post e
 obtain⟨h1,h2,h3⟩:=iP q
 have:=(gR (g:=((0+aN pre:Nat):Int)+1)).1 ⟨aK2 h1,by simpa using h2,h3⟩
 refine⟨this.1,fun hk=>?_⟩
 have g:=aP4 q hk
 omega
theorem aM1{c o:Bool}{t:Tr}(h:aZ c o 0 0 (pp [] t)=0):t.sz<=2000:=by
 rw [<- bL t []]
 exact nO h
section
open Go
def wd(s:ByteArray)(p:Nat):Nat:=(Utf8.decode s p).2
def bad(s:ByteArray)(p:Nat):Bool:=decide (Utf8.decode s p=(65533,1))
def ch(s:ByteArray)(p:Nat):Int:=if bad s p then -1 else (Utf8.decode s p).1
def bt(s:ByteArray)(i:Nat):Nat:=(s.data.toList.getD i 0).toNat
theorem mZ(s:ByteArray)(i:Nat):bt s i<256:=UInt8.toNat_lt _
theorem eT(s:ByteArray):s.data.toList.length=s.size:=(Lib.size_eq s).symm
theorem jR(s:ByteArray)(p:Nat):Utf8.decode s p=Lib.decodeN (s.size-p) (bt s p) (bt s (p+1)) (bt s (p+2)) (bt s (p+3)):=by
 rw [Lib.decode_N,eT];rfl
theorem aH9(s:ByteArray)(p:Nat):1<=wd s p:=Lib.width_pos s p
theorem lO(n b0 b1 b2 b3:Nat):Lib.decodeN n b0 b1 b2 b3=(65533,1)\/(b0<128/\Lib.decodeN n b0 b1 b2 b3=(b0,1)) \/
  (1<n/\b0/32=6/\b1/64=2/\128<=b0%32*64+b1%64/\Lib.decodeN n b0 b1 b2 b3=(b0%32*64+b1%64,2)) \/
  (2<n/\b0/16=14/\b1/64=2/\b2/64=2/\2048<=b0%16*4096+b1%64*64+b2%64/\(b0%16*4096+b1%64*64+b2%64<55296\/57344<=b0%16*4096+b1%64*64+b2%64)/\Lib.decodeN n b0 b1 b2 b3=(b0%16*4096+b1%64*64+b2%64,3)) \/
  (3<n/\b0/8=30/\b1/64=2/\b2/64=2/\b3/64=2/\65536<=b0%8*262144+b1%64*4096+b2%64*64+b3%64/\b0%8*262144+b1%64*4096+b2%64*64+b3%64<=1114111/\Lib.decodeN n b0 b1 b2 b3=(b0%8*262144+b1%64*4096+b2%64*64+b3%64,4)):=by
 unfold Lib.decodeN
 by_cases h0:b0<128
 ·rw [if_pos h0];exact .inr (.inl ⟨h0,rfl⟩)
 rw [if_neg h0]
 split
 ·rename_i h
  split
  ·rename_i g
   exact .inr (.inr (.inl ⟨h.2.1,h.1,h.2.2,g,rfl⟩))
  ·exact .inl rfl
 split
 ·rename_i h
  split
  ·rename_i g
   exact .inr (.inr (.inr (.inl ⟨h.2.2.1,h.1,h.2.1.2,h.2.2.2,g.1,by omega,rfl⟩)))
  ·exact .inl rfl
 split
 ·rename_i h
  split
  ·rename_i g
   exact .inr (.inr (.inr (.inr ⟨h.2.2.2.1,h.1,h.2.1.2,h.2.2.1.2,h.2.2.2.2,g.1,by omega,rfl⟩)))
  ·exact .inl rfl
 exact .inl rfl
theorem aI0(s:ByteArray)(p:Nat)(h:p<s.size):wd s p<=4/\p+wd s p<=s.size:=by
 unfold wd
 rw [jR]
 rcases lO (s.size-p) (bt s p) (bt s (p+1)) (bt s (p+2)) (bt s (p+3)) with e | ⟨_,e⟩ | ⟨_,_,_,_,e⟩ | ⟨_,_,_,_,_,_,e⟩ | ⟨_,_,_,_,_,_,_,e⟩
 all_goals (rw [e];simp only;omega)
theorem aT1{s:ByteArray}{p:Nat}(h:bad s p=true):ch s p=-1/\wd s p=1/\(Utf8.decode s p).1=65533:=by
 have e:Utf8.decode s p=(65533,1):=by simpa [bad] using h
 simp [ch,h,wd,e]
theorem oX{s:ByteArray}{p:Nat}(h:bad s p=false):ch s p=(Utf8.decode s p).1:=by simp [ch,h]
def bD8(s:ByteArray):Nat->Nat->List (Nat×Int)
 | 0,_=>[]
 | f+1,p=>if p<s.size then (p,ch s p) :: bD8 s f (p+wd s p) else []
def us(s:ByteArray):List (Nat×Int):=bD8 s s.size 0
end
section
open Go
def sl(s:ByteArray)(p n:Nat):List UInt8:=(s.data.toList.drop p).take n
theorem bP3(s:ByteArray)(p:Nat):Lib.decodeL (s.data.toList.drop p)=Utf8.decode s p:=by
 rw [Lib.decodeL_N,Lib.decode_N,aAR]
 simp only [aBE,aBV,aAJ]
theorem yI(s:ByteArray)(p:Nat)(hp:p<s.size)(hb:bad s p=false):Lib.encodeRune ((Utf8.decode s p).1:Int)=sl s p (wd s p):=by
 have hne:s.data.toList.drop p≠[]:=by
  intro e
  have:=congrArg List.length e
  rw [aAR,eT] at this
  simp at this;omega
 have:=Lib.encode_decode (s.data.toList.drop p) hne (by
  rw [bP3]
  rintro ⟨h1,h2⟩
  have:bad s p=true:=by
   unfold bad
   rw [aBD]
   exact Prod.ext h1 h2
  rw [hb] at this;cases this)
 rw [bP3] at this
 exact this
theorem nU(s:ByteArray)(p:Nat):Lib.validRune ((Utf8.decode s p).1:Int)=true:=by
 have q0:=mZ s p
 rw [jR]
 unfold Lib.validRune
 rw [aBD]
 rcases lO (s.size-p) (bt s p) (bt s (p+1)) (bt s (p+2)) (bt s (p+3)) with k | ⟨_,k⟩ | ⟨_,_,_,_,k⟩ | ⟨_,_,_,_,_,_,k⟩ | ⟨_,_,_,_,_,_,_,k⟩
 all_goals (rw [k];simp only;omega)
theorem kU{s:ByteArray}{p n i:Nat}{l:List UInt8}(h:sl s p n=l)(hi:i<l.length):bt s (p+i)=(l[i]).toNat/\i<s.size-p:=by
 have hl:i<((s.data.toList.drop p).take n).length:=by rw [show (s.data.toList.drop p).take n=l from h];exact hi
 have hl':=hl
 rw [aAG,aAR,eT] at hl'
 have e:l[i]?=s.data.toList[p+i]?:=by
  rw [<- h,sl,List.getElem?_take_of_lt (by omega),aBV]
 rw [g9 hi] at e
 refine⟨?_,by omega⟩
 unfold bt
 rw [aBE,<- e]
 rfl
theorem lN{s:ByteArray}{p:Nat}{c:Int}(hc:0<=c/\c<=1114111/\(c<55296\/57343<c))(h:sl s p (Lib.encodeRune c).length=Lib.encodeRune c):((Utf8.decode s p).1:Int)=c/\wd s p=(Lib.encodeRune c).length/\bad s p=false:=by
 obtain⟨r0,r1,r2⟩:=hc
 have key:∀ (m:Nat),Utf8.decode s p=(c.toNat,m)->(c.toNat,m)≠((65533,1):Nat×Nat)->((Utf8.decode s p).1:Int)=c/\wd s p=m/\bad s p=false:=fun m e hne=>by
  refine⟨by rw [e];simp only;omega,by unfold wd;rw [e],?_⟩
  unfold bad
  rw [e]
  simpa using hne
 by_cases h1:c<=127
 ·have hE:Lib.encodeRune c=[c].map fun x=>x.toNat.toUInt8:=by rw [Lib.encodeRune,Lib.encodeRuneZ_one r0 h1]
  rw [hE] at h ⊢
  obtain⟨b0,s0⟩:=kU h (i:=0) (by simp)
  simp at b0
  refine key 1 ?_ (by simp;omega)
  rw [jR]
  have:bt s p=c.toNat:=by omega
  rw [this]
  unfold Lib.decodeN
  rw [if_pos (by omega)]
 by_cases h2:c<=2047
 ·have hE:Lib.encodeRune c=[192+c/64,128+c%64].map fun x=>x.toNat.toUInt8:=by rw [Lib.encodeRune,Lib.encodeRuneZ_two (by omega) h2]
  rw [hE] at h ⊢
  obtain⟨b0,s0⟩:=kU h (i:=0) (by simp)
  obtain⟨b1,s1⟩:=kU h (i:=1) (by simp)
  simp at b0 b1
  refine key 2 ?_ (by simp)
  rw [jR]
  have e0:bt s p=192+c.toNat/64:=by omega
  have e1:bt s (p+1)=128+c.toNat%64:=by omega
  have hl:c.toNat<=2047:=by omega
  have hg:128<=c.toNat:=by omega
  rw [e0,e1]
  generalize c.toNat=m at *
  unfold Lib.decodeN
  rw [if_neg (by omega),if_pos (by omega),if_pos (by omega)]
  apply Prod.ext <;> simp only <;> omega
 by_cases h3:c<=65535
 ·have hE:Lib.encodeRune c=[224+c/4096,128+c/64%64,128+c%64].map fun x=>x.toNat.toUInt8:=by rw [Lib.encodeRune,Lib.encodeRuneZ_three (by omega)]
  rw [hE] at h ⊢
  obtain⟨b0,s0⟩:=kU h (i:=0) (by simp)
  obtain⟨b1,s1⟩:=kU h (i:=1) (by simp)
  obtain⟨b2,s2⟩:=kU h (i:=2) (by simp)
  simp at b0 b1 b2
  refine key 3 ?_ (by simp)
  rw [jR]
  have e0:bt s p=224+c.toNat/4096:=by omega
  have e1:bt s (p+1)=128+c.toNat/64%64:=by omega
  have e2:bt s (p+2)=128+c.toNat%64:=by omega
  have hl:c.toNat<=65535:=by omega
  have hg:2048<=c.toNat:=by omega
  have hv:c.toNat<55296\/57344<=c.toNat:=by omega
  rw [e0,e1,e2]
  generalize c.toNat=m at *
  unfold Lib.decodeN
  rw [if_neg (by omega),if_neg (by omega),if_pos (by omega),if_pos (by omega)]
  apply Prod.ext <;> simp only <;> omega
 ·have hE:Lib.encodeRune c=[240+c/262144,128+c/4096%64,128+c/64%64,128+c%64].map fun x=>x.toNat.toUInt8:=by rw [Lib.encodeRune,Lib.encodeRuneZ_four (by omega) (by omega)]
  rw [hE] at h ⊢
  obtain⟨b0,s0⟩:=kU h (i:=0) (by simp)
  obtain⟨b1,s1⟩:=kU h (i:=1) (by simp)
  obtain⟨b2,s2⟩:=kU h (i:=2) (by simp)
  obtain⟨b3,s3⟩:=kU h (i:=3) (by simp)
  simp at b0 b1 b2 b3
  refine key 4 ?_ (by simp)
  rw [jR]
  have e0:bt s p=240+c.toNat/262144:=by omega
  have e1:bt s (p+1)=128+c.toNat/4096%64:=by omega
  have e2:bt s (p+2)=128+c.toNat/64%64:=by omega
  have e3:bt s (p+3)=128+c.toNat%64:=by omega
  have hl:c.toNat<=1114111:=by omega
  have hg:65536<=c.toNat:=by omega
  rw [e0,e1,e2,e3]
  generalize c.toNat=m at *
  unfold Lib.decodeN
  rw [if_neg (by omega),if_neg (by omega),if_neg (by omega),if_pos (by omega),if_pos (by omega)]
  apply Prod.ext <;> simp only <;> omega
end
section
structure Ln where
 s:ByteArray
 c:Bool
 o:Bool
 u:Nat->Bool
structure Cf where
 p:Nat
 g:List (Int×Int)
def uni(c:Bool)(s:ByteArray)(p:Nat):Int×Nat:=if c then (ch s p,wd s p) else ((bt s p:Int),1)
def kR(l:List (Int×Int))(x:Int):Bool:=l.any fun r=>decide (r.1<=x)&&decide (x<=r.2)
theorem aV3(c:Bool)(s:ByteArray)(p:Nat):1<=(uni c s p).2:=by
 unfold uni
 split
 ·exact aH9 s p
 ·exact t8 1
theorem aI3{c:Bool}{s:ByteArray}{p:Nat}(h:p<s.size):p+(uni c s p).2<=s.size/\(uni c s p).2<=4:=by
 unfold uni
 split
 ·exact⟨(aI0 s p h).2,(aI0 s p h).1⟩
 ·exact⟨h,by simp⟩
def cW(L:Ln)(f:Fl)(i:Nat):Option Nat:=
 if f.k=2 then (if i<L.s.size/\0<=(uni L.c L.s i).1/\kR f.rs (uni L.c L.s i).1=true then some (i+(uni L.c L.s i).2) else none)
 else if f.k=3 then (if i=0 then some i else none)
 else if f.k=4 then (if i=L.s.size then some i else none)
 else some i
def smB(b:Nat):Nat:=if 65<=b/\b<=90 then b+32 else b
def alk(o:Bool)(a b:Nat):Bool:=a==b ||(o&&smB a==smB b)
def fE(L:Ln)(q:Int×Int)(i:Nat):Option Nat:=
 if q.1<0\/L.s.size<i+(q.2-q.1).toNat then none
 else if ∀ k,k<(q.2-q.1).toNat->alk L.o (bt L.s (q.1.toNat+k)) (bt L.s (i+k))=true then some (i+(q.2-q.1).toNat) else none
def vE(g:List (Int×Int))(n:Int):Int×Int:=g.getD n.toNat (-1,-1)
def kep(L:Ln)(n:Int):Bool:=decide (n<10)&&L.u n.toNat
def eI(L:Ln)(n:Int)(x z:Cf):Cf:=⟨z.p,if kep L n then z.g.set n.toNat ((x.p:Int),(z.p:Int)) else z.g⟩
def Tn(R:Cf->Cf->Prop)(mn:Nat):Nat->Cf->Cf->Prop
 | 0,x,y=>y=x
 | k+1,x,y=>∃ z,Tn R mn k x z/\R z y/\(mn<=k->z.p<y.p)
def Rp(R:Cf->Cf->Prop)(mn mx:Int)(x y:Cf):Prop:=∃ k:Nat,mn.toNat<=k/\(mx=-1\/(k:Int)<=mx)/\Tn R mn.toNat k x y
mutual
def Mt(L:Ln):Tr->Cf->Cf->Prop
 | .mk f ks,x,y=>
  if f.k=5 then MtC L ks x y
  else if f.k=6 then MtA L ks x y
  else if f.k=7 then ∃ z,MtA L ks x z/\y=eI L f.n x z
  else if f.k=8 then fE L (vE x.g f.n) x.p=some y.p/\y.g=x.g
  else if f.k=9 then Rp (fun x y=>MtA L ks x y) f.mn f.mx x y
  else cW L f x.p=some y.p/\y.g=x.g
def MtC(L:Ln):List Tr->Cf->Cf->Prop
 | [],x,y=>y=x
 | t :: ts,x,y=>∃ z,Mt L t x z/\MtC L ts z y
def MtA(L:Ln):List Tr->Cf->Cf->Prop
 | [],_,_=>False
 | t :: ts,x,y=>Mt L t x y\/MtA L ts x y
end
variable {L:Ln}
theorem cH(t:Tr)(x y:Cf):Mt L t x y ↔
  if t.f.k=5 then MtC L t.ks x y
  else if t.f.k=6 then MtA L t.ks x y
  else if t.f.k=7 then ∃ z,MtA L t.ks x z/\y=eI L t.f.n x z
  else if t.f.k=8 then fE L (vE x.g t.f.n) x.p=some y.p/\y.g=x.g
  else if t.f.k=9 then Rp (fun x y=>MtA L t.ks x y) t.f.mn t.f.mx x y
  else cW L t.f x.p=some y.p/\y.g=x.g:=by
 cases t with
 | mk f ks=>rw [Mt];rfl
theorem cE(x y:Cf):MtC L [] x y↔y=x:=by rw [MtC]
theorem bO(t:Tr)(ts:List Tr)(x y:Cf):MtC L (t :: ts) x y ↔ ∃ z,Mt L t x z/\MtC L ts z y:=by rw [MtC]
theorem cF(ks:List Tr)(x y:Cf):MtA L ks x y ↔ ∃ t∈ks,Mt L t x y:=by
 induction ks with
 | nil=>rw [MtA];simp
 | cons t ts ih=>rw [MtA,ih];simp
theorem uP(a:List Tr)(t:Tr):∀ (x y:Cf),MtC L (a++[t]) x y ↔ ∃ z,MtC L a x z/\Mt L t z y:=by
 induction a with
 | nil=>
  intro x y
  rw [aAI,bO]
  constructor
  ·rintro ⟨z,h1,h2⟩
   rw [cE] at h2
   subst h2
   exact⟨x,(cE x x).2 rfl,h1⟩
  ·rintro ⟨z,h1,h2⟩
   rw [cE] at h1
   subst h1
   exact⟨y,h2,(cE y y).2 rfl⟩
 | cons u a ih=>
  intro x y
  rw [t4,bO]
  constructor
  ·rintro ⟨z,h1,h2⟩
   obtain⟨v,h3,h4⟩:=(ih z y).1 h2
   exact⟨v,(bO u a x v).2 ⟨z,h1,h3⟩,h4⟩
  ·rintro ⟨v,h3,h4⟩
   obtain⟨z,h1,h2⟩:=(bO u a x v).1 h3
   exact⟨z,h1,(ih z y).2 ⟨v,h2,h4⟩⟩
theorem uQ(a:List Tr)(t:Tr)(x y:Cf):MtA L (a++[t]) x y↔MtA L a x y\/Mt L t x y:=by
 rw [cF,cF]
 constructor
 ·rintro ⟨u,hu,h⟩
  rcases o3.1 hu with e | e
  ·exact .inl ⟨u,e,h⟩
  ·rw [s9.1 e] at h;exact .inr h
 ·rintro (⟨u,hu,h⟩ | h)
  ·exact⟨u,o3.2 (.inl hu),h⟩
  ·exact⟨t,by simp,h⟩
structure Vf(L:Ln)(x:Cf):Prop where
 p:x.p<=L.s.size
 g:x.g.length=10
 q:∀ (i:Nat) (q:Int×Int),x.g[i]?=some q->q=(-1,-1)\/(0<=q.1/\q.1<=q.2/\q.2<=(L.s.size:Int))
theorem uU{f:Fl}{i j:Nat}(h:cW L f i=some j)(hi:i<=L.s.size):i<=j/\j<=L.s.size:=by
 unfold cW at h
 split at h
 ·split at h
  ·rename_i h1
   have:=aAE h
   have:=(aI3 (c:=L.c) h1.1).1
   omega
  ·cases h
 ·split at h
  ·split at h
   ·have:=aAE h;omega
   ·cases h
  ·split at h
   ·split at h
    ·have:=aAE h;omega
    ·cases h
   ·have:=aAE h;omega
theorem aU1{q:Int×Int}{i j:Nat}(h:fE L q i=some j):i<=j/\j<=L.s.size:=by
 unfold fE at h
 split at h
 ·cases h
 ·split at h
  ·have:=aAE h;omega
  ·cases h
theorem yC{n:Int}{x z:Cf}(hz:Vf L z)(h:x.p<=z.p):Vf L (eI L n x z):=by
 refine⟨hz.p,?_,fun i q hq=>?_⟩
 ·unfold eI
  simp only
  split
  ·rw [aAQ];exact hz.g
  ·exact hz.g
 ·unfold eI at hq
  simp only at hq
  split at hq
  ·rw [aAZ] at hq
   split at hq
   ·split at hq
    ·have:=aAE hq
     subst this
     have:=hz.p
     exact .inr ⟨by simp only;omega,by simp only;omega,by simp only;omega⟩
    ·cases hq
   ·exact hz.q i q hq
  ·exact hz.q i q hq
theorem tP{R:Cf->Cf->Prop}{mn:Nat}(hR:∀ x y,R x y->Vf L x->Vf L y/\x.p<=y.p):∀ (k:Nat) (x y:Cf),Tn R mn k x y->Vf L x->Vf L y/\x.p<=y.p
 | 0,x,y,h,hx=>by
  have:y=x:=h
  subst this
  exact⟨hx,t8 _⟩
 | k+1,x,y,h,hx=>by
  obtain⟨z,h1,h2,-⟩:=h
  obtain⟨a,b⟩:=tP hR k x z h1 hx
  obtain⟨c,d⟩:=hR z y h2 a
  exact⟨c,o0 b d⟩
theorem dV(t:Tr):∀ x y,Mt L t x y->Vf L x->Vf L y/\x.p<=y.p:=by
 refine Tr.ind (P:=fun t=>∀ x y,Mt L t x y->Vf L x->Vf L y/\x.p<=y.p) (fun t ih x y h hx=>?_) t
 have hA:∀ x y,MtA L t.ks x y->Vf L x->Vf L y/\x.p<=y.p:=fun x y h hx=>by
  obtain⟨u,hu,h⟩:=(cF _ _ _).1 h
  exact ih u hu x y h hx
 have hC:∀ ks:List Tr,(∀ u∈ks,u∈t.ks)->∀ x y,MtC L ks x y->Vf L x->Vf L y/\x.p<=y.p:=by
  intro ks
  induction ks with
  | nil=>
   intro _ x y h hx
   rw [cE] at h
   subst h
   exact⟨hx,t8 _⟩
  | cons u us ih2=>
   intro hs x y h hx
   obtain⟨z,h1,h2⟩:=(bO _ _ _ _).1 h
   obtain⟨a,b⟩:=ih u (hs u (n9 ..)) x z h1 hx
   obtain⟨c,d⟩:=ih2 (fun v hv=>hs v (m9 _ hv)) z y h2 a
   exact⟨c,o0 b d⟩
 have hl:∀ {j:Nat},x.p<=j/\j<=L.s.size->y.p=j->y.g=x.g->Vf L y/\x.p<=y.p:=fun {j} h1 h2 h3=>by
  refine⟨⟨by rw [h2];exact h1.2,by rw [h3];exact hx.g,by rw [h3];exact hx.q⟩,by rw [h2];exact h1.1⟩
 rw [cH] at h
 split at h
 ·exact hC t.ks (fun _ h=>h) x y h hx
 ·split at h
  ·exact hA x y h hx
  ·split at h
   ·obtain⟨z,h1,rfl⟩:=h
    obtain⟨a,b⟩:=hA x z h1 hx
    exact⟨yC a b,b⟩
   ·split at h
    ·exact hl (aU1 h.1) rfl h.2
    ·split at h
     ·obtain⟨k,-,-,h3⟩:=h
      exact tP hA k x y h3 hx
     ·exact hl (uU h.1 hx.p) rfl h.2
def PlT(L:Ln)(t:Tr):Prop:=bF (fun u=>u.f.k≠8/\(u.f.k=7->kep L u.f.n=false)) t
def Pz(L:Ln)(t:Tr)(i j:Nat):Prop:=Mt L t ⟨i,[]⟩ ⟨j,[]⟩
def Pn(R:Cf->Cf->Prop):Prop:=∀ x y,R x y->y.g=x.g/\∀ g,R ⟨x.p,g⟩ ⟨y.p,g⟩
theorem bE0{R:Cf->Cf->Prop}{mn:Nat}(hR:Pn R):∀ k,Pn (Tn R mn k)
 | 0,x,y,h=>by
  have:y=x:=h
  subst this
  exact⟨rfl,fun g=>rfl⟩
 | k+1,x,y,h=>by
  obtain⟨z,h1,h2,h3⟩:=h
  obtain⟨a,b⟩:=bE0 hR k x z h1
  obtain⟨c,d⟩:=hR z y h2
  exact⟨c.trans a,fun g=>⟨⟨z.p,g⟩,b g,d g,h3⟩⟩
theorem zJ(t:Tr):PlT L t->Pn (Mt L t):=by
 refine Tr.ind (P:=fun t=>PlT L t->Pn (Mt L t)) (fun t ih hp x y h=>?_) t
 have hk:=fun u hu=>ih u hu (cB hp hu)
 have h0:=((aI t).1 hp).1
 have hA:Pn (fun x y=>MtA L t.ks x y):=fun x y h=>by
  obtain⟨u,hu,h⟩:=(cF _ _ _).1 h
  obtain⟨a,b⟩:=hk u hu x y h
  exact⟨a,fun g=>(cF _ _ _).2 ⟨u,hu,b g⟩⟩
 have hC:∀ ks:List Tr,(∀ u∈ks,u∈t.ks)->Pn (fun x y=>MtC L ks x y):=by
  intro ks
  induction ks with
  | nil=>
   intro _ x y h
   have h:y=x:=(cE x y).1 h
   subst h
   exact⟨rfl,fun g=>(cE _ _).2 rfl⟩
  | cons u us ih2=>
   intro hs x y h
   obtain⟨z,h1,h2⟩:=(bO _ _ _ _).1 h
   obtain⟨a,b⟩:=hk u (hs u (n9 ..)) x z h1
   obtain⟨c,d⟩:=ih2 (fun v hv=>hs v (m9 _ hv)) z y h2
   exact⟨c.trans a,fun g=>(bO _ _ _ _).2 ⟨⟨z.p,g⟩,b g,d g⟩⟩
 rw [cH] at h
 by_cases k5:t.f.k=5
 ·rw [if_pos k5] at h
  obtain⟨a,b⟩:=hC t.ks (fun _ h=>h) x y h
  exact⟨a,fun g=>(cH t _ _).2 (by rw [if_pos k5];exact b g)⟩
 rw [if_neg k5] at h
 by_cases k6:t.f.k=6
 ·rw [if_pos k6] at h
  obtain⟨a,b⟩:=hA x y h
  exact⟨a,fun g=>(cH t _ _).2 (by rw [if_neg k5,if_pos k6];exact b g)⟩
 rw [if_neg k6] at h
 by_cases k7:t.f.k=7
 ·rw [if_pos k7] at h
  obtain⟨z,h1,h2⟩:=h
  obtain⟨a,b⟩:=hA x z h1
  have hn:=h0.2 k7
  have e:∀ x z,eI L t.f.n x z=z:=fun x z=>by unfold eI;rw [hn];rfl
  rw [e] at h2
  subst h2
  exact⟨a,fun g=>(cH t _ _).2 (by rw [if_neg k5,if_neg k6,if_pos k7];exact⟨⟨y.p,g⟩,b g,(e _ _).symm⟩)⟩
 rw [if_neg k7] at h
 rw [if_neg h0.1] at h
 by_cases k9:t.f.k=9
 ·rw [if_pos k9] at h
  obtain⟨k,h1,h2,h3⟩:=h
  obtain⟨a,b⟩:=bE0 hA k x y h3
  exact⟨a,fun g=>(cH t _ _).2 (by rw [if_neg k5,if_neg k6,if_neg k7,if_neg h0.1,if_pos k9];exact⟨k,h1,h2,b g⟩)⟩
 rw [if_neg k9] at h
 exact⟨h.2,fun g=>(cH t _ _).2 (by rw [if_neg k5,if_neg k6,if_neg k7,if_neg h0.1,if_neg k9];exact⟨h.1,rfl⟩)⟩
theorem uO{t:Tr}(hp:PlT L t)(x y:Cf):Mt L t x y↔y.g=x.g/\Pz L t x.p y.p:=by
 constructor
 ·intro h
  obtain⟨a,b⟩:=zJ t hp x y h
  exact⟨a,b []⟩
 ·rintro ⟨a,b⟩
  have:=(zJ t hp _ _ b).2 x.g
  obtain⟨yp,yg⟩:=y
  simp only at a this ⊢
  subst a
  exact this
def cf0(i:Nat):Cf:=⟨i,List.replicate 10 (-1,-1)⟩
theorem nW{i:Nat}(h:i<=L.s.size):Vf L (cf0 i):=by
 refine⟨h,by simp [cf0],fun k q hq=>.inl ?_⟩
 have:=n8 hq
 exact(List.mem_replicate.1 this).2
theorem bE3{t:Tr}(hp:PlT L t){i j:Nat}(hi:i<=L.s.size)(h:Pz L t i j):i<=j/\j<=L.s.size:=by
 have:=(zJ t hp _ _ h).2 (cf0 i).g
 obtain⟨a,b⟩:=dV t (cf0 i) ⟨j,(cf0 i).g⟩ this (nW hi)
 exact⟨b,a.p⟩
end
section
theorem bE1{R:Cf->Cf->Prop}{mn:Nat}(hR:∀ x y,R x y->x.p<=y.p\/True):∀ (k:Nat) (x y:Cf),Tn R mn k x y->mn<=k->k-mn<=y.p\/k=mn
 | 0,x,y,h,hk=>by omega
 | k+1,x,y,h,hk=>by
  obtain⟨z,h1,h2,h3⟩:=h
  by_cases e:mn<=k
  ·have h4:=h3 e
   rcases bE1 hR k x z h1 e with q | q
   ·left;omega
   ·left;omega
  ·right;omega
theorem aI9{R:Cf->Cf->Prop}{mn k:Nat}{x y:Cf}(h:Tn R mn k x y):k-mn<=y.p:=by
 by_cases e:mn<=k
 ·rcases bE1 (R:=R) (fun _ _ _=>.inr trivial) k x y h e with q | q
  ·exact q
  ·omega
 ·omega
theorem wK{R:Cf->Cf->Prop}{mn:Nat}{x:Cf}(t:Nat):∀ (k:Nat) (y:Cf),t<=k->Tn R mn k x y->∃ z,Tn R mn t x z
 | 0,y,hk,h=>by
  have e:t=0:=by omega
  subst e
  exact⟨y,h⟩
 | k+1,y,hk,h=>by
  by_cases e:t=k+1
  ·subst e;exact⟨y,h⟩
  ·obtain⟨z,h1,-,-⟩:=h
   exact wK t k z (by omega) h1
structure TS(R:Cf->Cf->Prop)(mn:Nat)(mx:Int)(x:Cf)(t:Nat)(O N:Cf->Prop):Prop where
 n:∀ y,N y->Tn R mn t x y/\(mx=-1\/(t:Int)<=mx)
 o:∀ y,O y->Rp R (mn:Int) mx x y
 e:t<=mn->∀ y,¬ O y
def TC(R:Cf->Cf->Prop)(mn:Nat)(mx:Int)(x:Cf)(t:Nat)(O N:Cf->Prop):Prop:=
 (mx≠-1->(∀ y,Tn R mn t x y->(t:Int)<=mx->N y)/\∀ (k:Nat) (y:Cf),k<t->mn<=k->(k:Int)<=mx->Tn R mn k x y->O y) /\
 (mx=-1->(t<=mn->∀ y,Tn R mn t x y->N y)/\(mn<=t->(∀ y,Tn R mn mn x y->O y\/N y)/\∀ y z,O y->R y z->y.p<z.p->O z\/N z))
variable {R:Cf->Cf->Prop} {mn:Nat} {mx:Int} {x:Cf} {t:Nat} {O N:Cf->Prop}
theorem yP(hm:mx=-1\/(mn:Int)<=mx):TS R mn mx x 0 (fun _=>False) (fun y=>y=x):=
 ⟨fun y h=>⟨h,by omega⟩,fun _ h=>h.elim,fun _ _ h=>h⟩
theorem yV:TC R mn mx x 0 (fun _=>False) (fun y=>y=x):=
 ⟨fun _=>⟨fun y h _=>h,fun k y h=>by omega⟩,fun _=>⟨fun _ y h=>h,fun h=>⟨fun y hy=>.inr (by
  have:mn=0:=by omega
  subst this
  exact hy),fun y z h=>h.elim⟩⟩⟩
theorem oJ(h:TS R mn mx x t O N){O' N':Cf->Prop}(hO:∀ y,O' y->O y\/(mn<=t/\N y))(hN:∀ z,N' z->(t:Int)≠mx/\∃ y,N y/\R y z/\(mn<=t->y.p<z.p)):TS R mn mx x (t+1) O' N':=by
 refine⟨fun z hz=>?_,fun y hy=>?_,fun ht y hy=>?_⟩
 ·obtain⟨h1,y,h2,h3,h4⟩:=hN z hz
  obtain⟨a,b⟩:=h.n y h2
  exact⟨⟨y,a,h3,h4⟩,by omega⟩
 ·rcases hO y hy with q | ⟨q,r⟩
  ·exact h.o y q
  ·obtain⟨a,b⟩:=h.n y r
   exact⟨t,by simpa using q,b,by simpa using a⟩
 ·rcases hO y hy with q | ⟨q,r⟩
  ·exact h.e (by omega) y q
  ·omega
theorem oM(hs:TS R mn mx x t O N)(h:TC R mn mx x t O N){O' N':Cf->Prop}(hO:∀ y,O y->O' y)(hO2:mn<=t->∀ y,N y->O' y)(hO3:∀ y,O' y->O y\/(mn<=t/\N y))
  (hN:∀ y z,N y->R y z->(mn<=t->y.p<z.p)->(t:Int)≠mx->N' z\/(mx=-1/\mn<=t/\(O' z\/O y))):TC R mn mx x (t+1) O' N':=by
 refine⟨fun hm=>?_,fun hm=>?_⟩
 ·obtain⟨h1,h2⟩:=h.1 hm
  refine⟨fun z hz hzm=>?_,fun k y hk a b c=>?_⟩
  ·obtain⟨y,y1,y2,y3⟩:=hz
   rcases hN y z (h1 y y1 (by omega)) y2 y3 (by omega) with q | ⟨q,-⟩
   ·exact q
   ·exact absurd q hm
  ·by_cases e:k=t
   ·subst e
    exact hO2 a y (h1 y c b)
   ·exact hO y (h2 k y (by omega) a b c)
 ·obtain⟨h1,h2⟩:=h.2 hm
  refine⟨fun ht z hz=>?_,fun ht=>?_⟩
  ·obtain⟨y,y1,y2,y3⟩:=hz
   rcases hN y z (h1 (by omega) y y1) y2 y3 (by omega) with q | ⟨-,q,-⟩
   ·exact q
   ·omega
  ·by_cases e:mn<=t
   ·obtain⟨a,b⟩:=h2 e
    refine⟨fun y hy=>.inl ?_,fun y z hy hr hp=>?_⟩
    ·rcases a y hy with q | q
     ·exact hO y q
     ·exact hO2 e y q
    ·have hb:O y->O' z\/N' z:=fun q=>by
      rcases b y z q hr hp with r | r
      ·exact .inl (hO z r)
      ·exact .inl (hO2 e z r)
     rcases hO3 y hy with q | ⟨-,q⟩
     ·exact hb q
     ·rcases hN y z q hr (fun _=>hp) (by omega) with r | ⟨-,-,r⟩
      ·exact .inr r
      ·rcases r with r | r
       ·exact .inl r
       ·exact hb r
   ·have e':t+1=mn:=by omega
    refine⟨fun y hy=>.inr ?_,fun y z hy=>?_⟩
    ·rw [<- e'] at hy
     obtain⟨z,z1,z2,z3⟩:=hy
     rw [e'] at z1 z3
     rcases hN z y (h1 (by omega) z (by simpa using z1)) z2 (fun q=>absurd q e) (by omega) with q | ⟨-,q,-⟩
     ·exact q
     ·exact absurd q e
    ·rcases hO3 y hy with q | ⟨q,-⟩
     ·exact absurd q (hs.e (by omega) y)
     ·exact absurd q e
theorem aJ6(hs:TS R mn mx x t O N)(h:TC R mn mx x t O N)(hN:∀ y,¬ N y)(y:Cf):O y↔Rp R (mn:Int) mx x y:=by
 refine⟨hs.o y,?_⟩
 rintro ⟨k,h1,h2,h3⟩
 rw [Int.toNat_natCast] at h1 h3
 by_cases hm:mx=-1
 ·obtain⟨a,b⟩:=h.2 hm
  by_cases e:mn<=t
  ·obtain⟨p,q⟩:=b e
   have:∀ (k:Nat) (y:Cf),mn<=k->Tn R mn k x y->O y:=by
    intro k
    induction k with
    | zero=>
     intro y hk hy
     have:mn=0:=by omega
     subst this
     exact(p y hy).resolve_right (hN y)
    | succ k ih=>
     intro y hk hy
     by_cases e2:mn<=k
     ·obtain⟨z,z1,z2,z3⟩:=hy
      exact(q z y (ih z e2 z1) z2 (z3 e2)).resolve_right (hN y)
     ·have:mn=k+1:=by omega
      subst this
      exact(p y hy).resolve_right (hN y)
   exact this k y h1 h3
  ·obtain⟨z,hz⟩:=wK t k y (by omega) h3
   exact absurd (a (by omega) z hz) (hN z)
 ·obtain⟨a,b⟩:=h.1 hm
  have h2':(k:Int)<=mx:=by omega
  by_cases e:k<t
  ·exact b k y e h1 h2' h3
  ·obtain⟨z,hz⟩:=wK t k y (by omega) h3
   exact absurd (a z hz (by omega)) (hN z)
theorem aW0(hs:TS R mn mx x t O N)(h:TC R mn mx x t O N)(ht:(t:Int)=mx)(hmn:mn<=t)(y:Cf):(O y\/N y)↔Rp R (mn:Int) mx x y:=by
 constructor
 ·rintro (q | q)
  ·exact hs.o y q
  ·obtain⟨a,b⟩:=hs.n y q
   exact⟨t,by simpa using hmn,b,by simpa using a⟩
 ·rintro ⟨k,h1,h2,h3⟩
  rw [Int.toNat_natCast] at h1 h3
  obtain⟨a,b⟩:=h.1 (by omega)
  by_cases e:k<t
  ·exact .inl (b k y e h1 (by omega) h3)
  ·have:k=t:=by omega
   subst this
   exact .inr (a y h3 (by omega))
end
end Go.Proofs.YtlamifbjklpdbaaGreat
