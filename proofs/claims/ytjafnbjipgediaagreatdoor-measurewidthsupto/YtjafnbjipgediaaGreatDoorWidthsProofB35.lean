/-
  Parts of the proof.
-/
import Derived.Test.YtjafnbjipgediaaGreatDoorWidthsProofB17
import Derived.Test.YtjafnbjipgediaaGreatDoorWidthsProofB34
import Derived.Test.YtjafnbjipgediaaGreatDoorWidthsProofB19
import Derived.Test.YtjafnbjipgediaaGreatDoorWidthsProofB7
set_option maxRecDepth 100000
set_option maxHeartbeats 8000000
namespace Go.Proofs.YtjafnbjipgediaaGreatDoor
open Go Go.RowKit
theorem aJ4(par:Tr)(p:Way):∀ (ks:List Tr) (i j:Nat) (u:Tr),ks[j]?=some u->(pps par p i ks)[szs (ks.take j)]?=some ((par,i+j) :: p,u)
 | [],i,j,u,h=>by simp at h
 | v :: ks,i,0,u,h=>by
  simp at h
  subst h
  rw [List.take_zero,eU,bF,bT]
  rfl
 | v :: ks,i,j+1,u,h=>by
  rw [List.getElem?_cons_succ] at h
  rw [List.take_succ_cons,eV,bF,List.getElem?_append_right (by rw [dL];omega),dL,Nat.add_sub_cancel_left,aJ4 par p ks (i+1) j u h,show i+1+j=i+(j+1) by omega]
theorem aZ7{t:Tr}{i:Nat}{x:El}(h:(pp [] t)[i]?=some x){j:Nat}{u:Tr}(hu:x.2.ks[j]?=some u):(pp [] t)[i+1+szs (x.2.ks.take j)]?=some ((x.2,j) :: x.1,u)/\i+1+szs (x.2.ks.take j)+u.sz<=i+x.2.sz:=by
 obtain⟨rest,hr⟩:=seg t [] i x h
 have h1:=bP hu
 have h2:=nL x.2.ks (j+1)
 have h3:=iJ x.2
 refine⟨?_,by omega⟩
 have e:((pp [] t).drop i)[1+szs (x.2.ks.take j)]?=some ((x.2,j) :: x.1,u):=by
  rw [hr,List.getElem?_append_left (by rw [dL];have:=dK u;omega),bT,show 1+szs (x.2.ks.take j)=szs (x.2.ks.take j)+1 by omega,List.getElem?_cons_succ,aJ4 _ _ _ _ _ _ hu,Nat.zero_add]
 rw [List.getElem?_drop,<- Nat.add_assoc] at e
 exact e
theorem pL{L:List El}{i:Nat}{x:El}(h:L[i]?=some x):L=L.take i ++ x :: L.drop (i+1):=by
 have hi:=(List.getElem?_eq_some_iff.1 h).1
 have:=List.take_append_drop i L
 rw [List.drop_eq_getElem_cons hi,(List.getElem?_eq_some_iff.1 h).2] at this
 exact this.symm
theorem tQ{t:Tr}(hg:GpL 0 (pp [] t)){j:Nat}{y:El}(h:(pp [] t)[j]?=some y)(hk:y.2.f.k=7):y.2.f.n=(bZ ((pp [] t).take j):Int)+1:=by
 have:=(hg _ _ _ (pL h)).1 hk
 simpa using this
theorem sG{L:List El}{j i:Nat}{y:El}(h:L[j]?=some y)(hk:y.2.f.k=7)(hi:j < i):bZ (L.take j) < bZ (L.take i):=by
 have e:L.take i=L.take j ++ y :: (L.take i).drop (j+1):=by
  have hjl:=(List.getElem?_eq_some_iff.1 h).1
  have:=pL (L:=L.take i) (i:=j) (x:=y) (by rw [List.getElem?_take,if_pos hi];exact h)
  rwa [List.take_take,Nat.min_eq_left (by omega)] at this
 rw [e,eP,nS,if_pos hk]
 omega
theorem aS9{t:Tr}(hg:GpL 0 (pp [] t)){j j':Nat}{y y':El}(h:(pp [] t)[j]?=some y)(hk:y.2.f.k=7)(h':(pp [] t)[j']?=some y')(hk':y'.2.f.k=7)(hn:y.2.f.n=y'.2.f.n):j=j':=by
 have a:=tQ hg h hk
 have b:=tQ hg h' hk'
 rcases Nat.lt_trichotomy j j' with q | q | q
 ·have:=sG h hk q;omega
 ·exact q
 ·have:=sG h' hk' q;omega
theorem aU6{t:Tr}(hg:GpL 0 (pp [] t)){i:Nat}{x:El}(h:(pp [] t)[i]?=some x)(hk:x.2.f.k=8):∃ j y,(pp [] t)[j]?=some y/\y.2.f.k=7/\y.2.f.n=x.2.f.n/\j+y.2.sz<=i:=by
 obtain⟨h1,h2,h3⟩:=(hg _ _ _ (pL h)).2 hk
 have hil:=(List.getElem?_eq_some_iff.1 h).1
 obtain⟨N,hN⟩:∃ N:Nat,x.2.f.n=(N:Int)+1:=⟨(x.2.f.n - 1).toNat,by omega⟩
 have hlt:N < (fV 0 ((pp [] t).take i)).length:=by rw [jW];simp at h2;omega
 obtain⟨j,hj⟩:∃ j,(fV 0 ((pp [] t).take i))[N]?=some j:=⟨_,List.getElem?_eq_getElem hlt⟩
 obtain⟨-,y,y1,y2,y3⟩:=mQ _ 0 N j hj
 rw [Nat.sub_zero] at y1 y3
 have hji:j < i:=by have:=(List.getElem?_eq_some_iff.1 y1).1;rw [List.length_take] at this;omega
 have hy:(pp [] t)[j]?=some y:=by rw [List.getElem?_take,if_pos hji] at y1;exact y1
 have hn:y.2.f.n=x.2.f.n:=by
  rw [tQ hg hy y2,hN,<- y3,List.take_take,Nat.min_eq_left (by omega)]
 refine⟨j,y,hy,y2,hn,?_⟩
 rcases Nat.lt_or_ge i (j+y.2.sz) with q | q
 ·exfalso
  obtain⟨s,k,e⟩:=aG8 h hy hji q
  have:dP x.1 x.2.f.n=true:=by
   unfold dP
   rw [e,List.any_append,List.any_cons]
   simp [y2,hn]
  rw [h3] at this
  cases this
 ·exact q
section
attribute [local go_sem] Oper.semAt_some bB
def ceQ(xs:List (Int × Int)):List Value:=xs.flatMap fun x=>[.int .i64 x.1,.int .i64 x.2]
def KW(V:World)(b:Nat)(f:Fl)(c o:Bool)(G:Int->Int × Int):Prop:=
 ∃ cs:List Value,V.heap[b]?=some (.cells cs.toArray 106 (0,0))/\cs.length=287/\(∀ (i:Nat) (v:Value),(f.cells ++ [.bool c,.bool o])[i]?=some v->cs[i]?=some v) /\
  ∀ i:Nat,i < 31->∃ h:Bool,cs[8+i]?=some (.bool h)/\(h=true->cs[39+i * 2]?=some (.int .i64 (G (i:Int)).1)/\cs[39+i * 2+1]?=some (.int .i64 (G (i:Int)).2))
variable {f:Fl} {c o:Bool} {G:Int->Int × Int}
theorem KW.same{V V':World}{b:Nat}(h:KW V b f c o G)(e:V'.heap[b]?=V.heap[b]?):KW V' b f c o G:=by
 obtain⟨cs,h1,h2⟩:=h
 exact⟨cs,e.trans h1,h2⟩
theorem KW.lt{V:World}{b:Nat}(h:KW V b f c o G):b < V.heap.size:=by
 obtain⟨cs,h1,-⟩:=h
 exact aB h1
theorem KW.frz{V:World}{b:Nat}(h:KW V b f c o G)(i:Nat):V.frozen? ⟨b,i,none⟩=false:=by
 obtain⟨cs,h1,-⟩:=h
 exact aF h1 i
theorem KW.any{V:World}{b:Nat}(h:KW V b f c o G){i:Nat}(hi:i < 287):∃ v,V.cell? ⟨b,i,none⟩=some v:=by
 obtain⟨cs,h1,h2,-⟩:=h
 exact⟨cs[i],aA h1 (by simp)⟩
theorem KW.head{V:World}{b:Nat}(h:KW V b f c o G){i:Nat}{v:Value}(hi:(f.cells ++ [.bool c,.bool o])[i]?=some v):V.cell? ⟨b,i,none⟩=some v:=by
 obtain⟨cs,h1,h2,h3,-⟩:=h
 exact aA h1 (by simpa using h3 i v hi)
theorem KW.has{V:World}{b:Nat}(h:KW V b f c o G){i:Nat}(hi:i < 31):∃ h:Bool,V.cell? ⟨b,8+i,none⟩=some (.bool h)/\(h=true->V.cell? ⟨b,39+i * 2,none⟩=some (.int .i64 (G (i:Int)).1)/\V.cell? ⟨b,39+i * 2+1,none⟩=some (.int .i64 (G (i:Int)).2)):=by
 obtain⟨cs,h1,h2,h3,h4⟩:=h
 obtain⟨h,a1,a2⟩:=h4 i hi
 exact⟨h,aA h1 (by simpa using a1),fun e=>⟨aA h1 (by simpa using (a2 e).1),aA h1 (by simpa using (a2 e).2)⟩⟩
theorem nB{w:World}{b i j:Nat}(v:Value)(h:i≠j):(w.setCell ⟨b,i,none⟩ v).cell? ⟨b,j,none⟩=w.cell? ⟨b,j,none⟩:=by
 simp only [World.setCell,World.cell?,Array.getElem?_modify]
 cases hb:w.heap[b]? with
 | none=>simp
 | some ob=>cases ob <;> simp [h]
theorem nW(f:Fl):f.cells.length=6:=by simp [Fl.cells]
theorem KW.putW{V:World}{b:Nat}(h:KW V b f c o G){i:Nat}(hi:i < 31){x:Int × Int}(hx:G (i:Int)=x) :
  KW ((V.setCell ⟨b,39+i * 2,none⟩ (.int .i64 x.1)).setCell ⟨b,39+i * 2+1,none⟩ (.int .i64 x.2)) b f c o G/\(((V.setCell ⟨b,39+i * 2,none⟩ (.int .i64 x.1)).setCell ⟨b,39+i * 2+1,none⟩ (.int .i64 x.2)).cell? ⟨b,39+i * 2,none⟩=some (.int .i64 x.1)/\((V.setCell ⟨b,39+i * 2,none⟩ (.int .i64 x.1)).setCell ⟨b,39+i * 2+1,none⟩ (.int .i64 x.2)).cell? ⟨b,39+i * 2+1,none⟩=some (.int .i64 x.2)):=by
 obtain⟨cs,h1,h2,h3,h4⟩:=h
 have g1:=aO (aO h1 (39+i * 2) (.int .i64 x.1)) (39+i * 2+1) (.int .i64 x.2)
 rw [List.setIfInBounds_toArray,List.setIfInBounds_toArray] at g1
 refine⟨⟨_,g1,by simp [h2],fun k v hk=>?_,fun k hk=>?_⟩,aA g1 (by simp [List.getElem?_set,h2];omega),aA g1 (by simp [List.getElem?_set,h2];omega)⟩
 ·have hk8:k < 8:=by have:=(List.getElem?_eq_some_iff.1 hk).1;rw [List.length_append,nW] at this;simpa using this
  rw [List.getElem?_set_ne (by omega),List.getElem?_set_ne (by omega)]
  exact h3 k v hk
 ·obtain⟨h,a1,a2⟩:=h4 k hk
  refine⟨h,by rw [List.getElem?_set_ne (by omega),List.getElem?_set_ne (by omega)];exact a1,fun e=>?_⟩
  by_cases hik:k=i
  ·subst hik
   rw [hx]
   exact⟨by simp [List.getElem?_set,h2];omega,by simp [List.getElem?_set,h2];omega⟩
  ·rw [List.getElem?_set_ne (by omega),List.getElem?_set_ne (by omega),List.getElem?_set_ne (by omega),List.getElem?_set_ne (by omega)]
   exact a2 e
theorem KW.putH{V:World}{b:Nat}(h:KW V b f c o G){i:Nat}(hi:i < 31)(hv:V.cell? ⟨b,39+i * 2,none⟩=some (.int .i64 (G (i:Int)).1)/\V.cell? ⟨b,39+i * 2+1,none⟩=some (.int .i64 (G (i:Int)).2)):KW (V.setCell ⟨b,8+i,none⟩ (.bool true)) b f c o G:=by
 obtain⟨cs,h1,h2,h3,h4⟩:=h
 have g1:=aO h1 (8+i) (.bool true)
 rw [List.setIfInBounds_toArray] at g1
 have hv':cs[39+i * 2]?=some (.int .i64 (G (i:Int)).1)/\cs[39+i * 2+1]?=some (.int .i64 (G (i:Int)).2):=by
  have a:=hv.1
  have b:=hv.2
  simp [World.cell?,h1] at a b
  exact⟨a,b⟩
 refine⟨_,g1,by simp [h2],fun k v hk=>?_,fun k hk=>?_⟩
 ·have hk8:k < 8:=by have:=(List.getElem?_eq_some_iff.1 hk).1;rw [List.length_append,nW] at this;simpa using this
  rw [List.getElem?_set_ne (by omega)]
  exact h3 k v hk
 ·by_cases hik:k=i
  ·subst hik
   refine⟨true,by simp [List.getElem?_set,h2];omega,fun _=>?_⟩
   rw [List.getElem?_set_ne (by omega),List.getElem?_set_ne (by omega)]
   exact hv'
  ·obtain⟨h,a1,a2⟩:=h4 k hk
   refine⟨h,by rw [List.getElem?_set_ne (by omega)];exact a1,fun e=>?_⟩
   rw [List.getElem?_set_ne (by omega),List.getElem?_set_ne (by omega)]
   exact a2 e
structure KS(B b:Nat)(t:Tr)(c o:Bool)(G:Int->Int × Int)(V:World):Prop where
 tb:TB V t
 ft:Foot (fun k=>k < B) t
 lt:B<=b
 kw:KW V b t.f c o G
variable {B b:Nat} {t:Tr}
theorem KS.fr{V V':World}(h:KS B b t c o G V)(hf:Fr (fun k=>k=b) V V')(hk:KW V' b t.f c o G):KS B b t c o G V':=
 ⟨h.tb.ckN h.ft (hf.ckeep (fun k e z=>by have:=h.lt;omega)),h.ft,h.lt,hk⟩
theorem KS.below{V V':World}(h:KS B b t c o G V)(hb:Below V.heap.size V V'):KS B b t c o G V':=
 ⟨h.tb.kept hb,h.ft,h.lt,h.kw.same (hb.block _ h.kw.lt)⟩
theorem wE{S S':Nat->Prop}{w V V':World}(h:Fr S w V)(k:Fr S' V V')(hs:∀ z,S' z->S z\/w.heap.size<=z):Fr S w V':=
 ⟨k.os.trans h.os,k.tape.trans h.tape,k.output.trans h.output,Nat.le_trans h.size k.size,fun z hz hn=>(k.block z (Nat.lt_of_lt_of_le hz h.size) (fun q=>by rcases hs z q with e | e;exact hn e;omega)).trans (h.block z hz hn)⟩
structure WI(w:World)(B b:Nat)(t:Tr)(c o:Bool)(G:Int->Int × Int)(f:Fl)(xs:List (Int × Int))(q:Option Addr)(cc:Nat)(V:World):Prop where
 ks:KS B b t c o G V
 fr:Fr (fun k=>k=b) w V
 bw:b < w.heap.size
 nb:BoxN V w.heap.size f
 rz:V.heap[w.heap.size+1]?=some (.cells #[.int .i64 0,.int .i64 0] 102 (0,0))
 row:V.ownsRow w.heap.size 102 2 (.slice q xs.length cc) xs.length (ceQ xs)
 old:∀ k,(Value.slice q xs.length cc).ownBlock=some k->w.heap.size+1 < k
variable {w V V':World} {xs:List (Int × Int)} {q:Option Addr} {cc:Nat}
theorem WI.call(h:WI w B b t c o G f xs q cc V)(hf:Fr (fun k=>k=b) V V')(hk:KW V' b t.f c o G):WI w B b t c o G f xs q cc V':=
 ⟨h.ks.fr hf hk,wE h.fr hf (fun _ e=>.inl e),h.bw,dX hf h.nb (by have:=h.bw;omega),dX hf h.rz (by have:=h.bw;omega),aL h.row hf (fun k hk e=>by have:=(aH h.row hk).1;have:=h.bw;omega),h.old⟩
theorem WI.below(h:WI w B b t c o G f xs q cc V)(hb:Below V.heap.size V V'):WI w B b t c o G f xs q cc V':=
 ⟨h.ks.below hb,wE h.fr (Fr.of_below (S:=fun _=>False) hb) (fun _ e=>e.elim),h.bw,(hb.block _ (aB h.nb)).trans h.nb,(hb.block _ (aB h.rz)).trans h.rz,aL h.row (Fr.of_below (S:=fun _=>False) hb) (fun _ _ q=>q),h.old⟩
theorem aN6(xs:List (Int × Int))(x:Int × Int):ceQ (xs ++ [x])=ceQ xs ++ [.int .i64 x.1,.int .i64 x.2]:=by simp [ceQ]
theorem WI.snoc{w6:World}{x:Int × Int}{q6:Option Addr}{c6:Nat}(h:WI w B b t c o G f xs q cc V)
  (o6:w6.ownsRow w.heap.size 102 2 (.slice q6 (xs.length+1) c6) (xs.length+1) (ceQ xs ++ [.int .i64 x.1,.int .i64 x.2])) (hg:V.grownBy w6 (Value.slice q xs.length cc).ownBlock)
  (hv:(Value.slice q6 (xs.length+1) c6).ownBlock=(Value.slice q xs.length cc).ownBlock\/(Value.slice q6 (xs.length+1) c6).ownBlock=some V.heap.size):WI w B b t c o G f (xs ++ [x]) q6 c6 w6:=by
 have F6:Fr (fun z=>(Value.slice q xs.length cc).ownBlock=some z) V w6:=(Fr.refl _ V).grown hg fun k hk=>hk
 have lo:∀ k,(Value.slice q xs.length cc).ownBlock=some k->w.heap.size+1 < k:=h.old
 have nb:∀ k,k<=w.heap.size+1->¬ (Value.slice q xs.length cc).ownBlock=some k:=fun k hk e=>by have:=lo k e;omega
 have hbw:=h.bw
 refine⟨⟨h.ks.tb.ckN h.ks.ft (F6.ckeep fun k e z=>?_),h.ks.ft,h.ks.lt,h.ks.kw.same (F6.block _ h.ks.kw.lt (nb _ (by omega)))⟩,wE h.fr F6 (fun z e=>.inr (by have:=lo z e;omega)),hbw,dX F6 h.nb (nb _ (by omega)),dX F6 h.rz (nb _ (by omega)),?_,?_⟩
 ·have:=lo k e;have:=h.ks.lt;omega
 ·rw [List.length_append,aN6];exact o6
 ·rw [List.length_append]
  intro k hk
  rcases hv with e | e
  ·exact lo k (e.symm.trans hk)
  ·have:=Option.some.inj (e.symm.trans hk)
   have:=aB h.rz
   omega
theorem WI.end(h:WI w B b t c o G f xs q cc V)(x:Int × Int):(bH V (w.heap.size+1) 0 [.int .i64 x.1,.int .i64 x.2]).heap[w.heap.size+1]?=some (.cells #[.int .i64 x.1,.int .i64 x.2] 102 (0,0))/\KW (bH V (w.heap.size+1) 0 [.int .i64 x.1,.int .i64 x.2]) b t.f c o G/\Fr (fun k=>k=b) w (bH V (w.heap.size+1) 0 [.int .i64 x.1,.int .i64 x.2]):=
 ⟨aY h.rz [.int .i64 x.1,.int .i64 x.2] rfl,h.ks.kw.same ((aV _ _ 0 V).block _ h.ks.kw.lt (by have:=h.bw;omega)),wE h.fr (aV _ _ 0 V) (fun z e=>.inr (by omega))⟩
structure W2(w:World)(B b:Nat)(t:Tr)(c o:Bool)(G:Int->Int × Int)(f:Fl)(xs:List (Int × Int))(q:Option Addr)(cc:Nat)(bw:Nat)(y:Int × Int)(V:World):Prop where
 wi:WI w B b t c o G f xs q cc V
 y:V.heap[bw]?=some (.cells #[.int .i64 y.1,.int .i64 y.2] 102 (0,0))
 lt:w.heap.size+1 < bw
 ne:(Value.slice q xs.length cc).ownBlock≠some bw
theorem WI.box(h:WI w B b t c o G f xs q cc V)(y:Int × Int):W2 w B b t c o G f xs q cc V.heap.size y (V.alloc (.cells #[.int .i64 y.1,.int .i64 y.2] 102)):=
 ⟨h.below (bz9),aE V _,aB h.rz,fun e=>by have:=(aH h.row e).2.1;omega⟩
theorem W2.below{bw:Nat}{y:Int × Int}(h:W2 w B b t c o G f xs q cc bw y V)(hb:Below V.heap.size V V'):W2 w B b t c o G f xs q cc bw y V':=
 ⟨h.wi.below hb,(hb.block _ (aB h.y)).trans h.y,h.lt,h.ne⟩
theorem WI.frn{bo:Nat}(h:WI w B b t c o G f xs q cc V)(F:Fr (fun z=>z=bo) V V')(hlt:w.heap.size+1 < bo)(hne:(Value.slice q xs.length cc).ownBlock≠some bo):WI w B b t c o G f xs q cc V':=by
 have hb:=h.bw
 exact⟨⟨h.ks.tb.ckN h.ks.ft (F.ckeep fun k e z=>by have:=h.ks.lt;omega),h.ks.ft,h.ks.lt,h.ks.kw.same (F.block _ h.ks.kw.lt (by omega))⟩,wE h.fr F (fun z e=>.inr (by omega)),hb,dX F h.nb (by omega),dX F h.rz (by omega),aL h.row F (fun k hk e=>hne (e ▸ hk)),h.old⟩
theorem WI.own(h:WI w B b t c o G f xs q cc V):(Value.slice q xs.length cc).ownBlock≠some V.heap.size:=fun e=>by have:=(aH h.row e).2.1;omega
theorem W2.other{bw:Nat}{y:Int × Int}(h:W2 w B b t c o G f xs q cc bw y V)(i:Nat)(v:Value):WI w B b t c o G f xs q cc (V.setCell ⟨bw,i,none⟩ v):=
 h.wi.frn ((Fr.refl (fun z=>z=bw) V).setCell (p:=⟨bw,i,none⟩) rfl v) h.lt h.ne
theorem W2.set0{bw:Nat}{y:Int × Int}(h:W2 w B b t c o G f xs q cc bw y V)(v:Int):W2 w B b t c o G f xs q cc bw (v,y.2) (V.setCell ⟨bw,0,none⟩ (.int .i64 v)):=
 ⟨h.other 0 _,aO h.y 0 _,h.lt,h.ne⟩
theorem W2.set1{bw:Nat}{y:Int × Int}(h:W2 w B b t c o G f xs q cc bw y V)(v:Int):W2 w B b t c o G f xs q cc bw (y.1,v) (V.setCell ⟨bw,1,none⟩ (.int .i64 v)):=
 ⟨h.other 1 _,aO h.y 1 _,h.lt,h.ne⟩
theorem WI.at(h:WI w B b t c o G f xs q cc V){i:Nat}{x:Int × Int}(hx:xs[i]?=some x):∃ g,q=some ⟨g,0,none⟩/\g < V.heap.size/\V.cell? ⟨g,i * 2,none⟩=some (.int .i64 x.1)/\V.cell? ⟨g,i * 2+1,none⟩=some (.int .i64 x.2):=by
 have hi:=(List.getElem?_eq_some_iff.1 hx).1
 obtain⟨gb,cb,e⟩:=aM h.row (by omega)
 injection e with e1 e2 e3
 subst e1 e3
 have p:=fun j hj=>iA (fun x:Int × Int=>[Value.int .i64 x.1,.int .i64 x.2]) 2 (fun _=>rfl) xs i x hx j hj
 exact⟨gb,rfl,(aH h.row rfl).2.1,aR h.row (p 0 (by decide)),aR h.row (p 1 (by decide))⟩
theorem eG{R:Ending->World->Prop}{a:Act}{W:World}{b:Nat}{x:Int × Int}(h:W.heap[b]?=some (.cells #[.int .i64 x.1,.int .i64 x.2] 102 (0,0)))(ha:a.tmps[4]?.getD undef=.pointer (some ⟨b,0,none⟩))(hd:a.defers=[])(hR:R (.returned (.agg #[.int .i64 x.1,.int .i64 x.2])) W):bodyPost Tryz.prog Tryz.f60 R .ret a W:=by
 refine bodyPost_ret (v:=.agg #[.int .i64 x.1,.int .i64 x.2]) ?_ hd hR
 have z0:=aA h (i:=0) rfl;have z1:=aA h (i:=1) rfl
 simp [results,Tryz.results60,go_sem,ha,z0,z1]
theorem zR(n:Int)(w:World):Calls Tryz.prog 109 #[.int .i64 n] w fun e w'=>e=.returned (.int .i64 (lst n))/\w'=w:=by
 have hm:∀ t ty w,(Builtin.min_ t ty #[.int .i64 n,.int .i64 1000000]).run Tryz.prog w=.ok (.int .i64 (lst n)) w:=fun t ty w=>jA _ t ty w _ _
 go_enter Tryz.func109,Tryz.ntmps109
 go_wp2
 go_ret
 exact⟨rfl,rfl⟩
theorem qC(n:Int)(w:World):Calls Tryz.prog 110 #[.int .i64 n] w fun e w'=>e=.returned (.int .i64 (mst n))/\w'=w:=by
 by_cases h:1000000 < n
 ·have hv:Hid (mst n=-1):=if_pos h
  go_enter Tryz.func110,Tryz.ntmps110
  go_wp2
  go_ret
  exact⟨by rw [hv.out];rfl,rfl⟩
 ·have hv:Hid (mst n=n):=if_neg h
  go_enter Tryz.func110,Tryz.ntmps110
  go_wp2
  go_ret
  exact⟨by rw [hv.out];rfl,rfl⟩
theorem aP6:(Tryz.prog.info? 102).map (fun i=>(i.zero,i.size,i.bytes))=some (some (.agg #[.int .i64 0,.int .i64 0]),2,16):=by kernel_rfl
theorem aP2:Tryz.prog.underlying 170=some (.slice 102):=by kernel_rfl
def WP(b:Nat)(t:Tr)(c o:Bool)(G:Int->Int × Int)(v:Int × Int)(W:World)(e:Ending)(w':World):Prop:=e=.returned (.agg #[.int .i64 v.1,.int .i64 v.2])/\KW w' b t.f c o G/\Fr (fun k=>k=b) W w'
end
end Go.Proofs.YtjafnbjipgediaaGreatDoor
