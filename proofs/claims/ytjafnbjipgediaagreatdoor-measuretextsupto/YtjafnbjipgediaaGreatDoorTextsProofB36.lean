/-
  Parts of the proof.
-/
import Derived.Test.YtjafnbjipgediaaGreatDoorTextsProofB35
namespace Go.Proofs.YtjafnbjipgediaaGreatDoor
open Go Go.RowKit
section
def cS(x:BitVec 256 × Bool):List Value:=[.int .u64 (aC x.1 0),.int .u64 (aC x.1 1),.int .u64 (aC x.1 2),.int .u64 (aC x.1 3)]
theorem bN3(x:BitVec 256 × Bool):(cS x).length=4:=rfl
def KF(V:World)(b:Nat)(f:Fl)(c o:Bool)(G:Int->BitVec 256 × Bool):Prop:=
 ∃ cs:List Value,V.heap[b]?=some (.cells cs.toArray 106 (0,0))/\cs.length=287/\(∀ (i:Nat) (v:Value),(f.cells ++ [.bool c,.bool o])[i]?=some v->cs[i]?=some v) /\
  ∀ i:Nat,i < 31->∃ h:Bool,cs[101+i]?=some (.bool h)/\(h=true->(∀ j:Nat,j < 4->cs[132+i * 4+j]?=(cS (G (i:Int)))[j]?)/\cs[256+i]?=some (.bool (G (i:Int)).2))
variable {f:Fl} {c o:Bool} {G:Int->BitVec 256 × Bool}
theorem KF.same{V V':World}{b:Nat}(h:KF V b f c o G)(e:V'.heap[b]?=V.heap[b]?):KF V' b f c o G:=by
 obtain⟨cs,h1,h2⟩:=h
 exact⟨cs,e.trans h1,h2⟩
theorem KF.lt{V:World}{b:Nat}(h:KF V b f c o G):b < V.heap.size:=by
 obtain⟨cs,h1,-⟩:=h
 exact aB h1
theorem KF.frz{V:World}{b:Nat}(h:KF V b f c o G)(i:Nat):V.frozen? ⟨b,i,none⟩=false:=by
 obtain⟨cs,h1,-⟩:=h
 exact aG h1 i
theorem KF.any{V:World}{b:Nat}(h:KF V b f c o G){i:Nat}(hi:i < 287):∃ v,V.cell? ⟨b,i,none⟩=some v:=by
 obtain⟨cs,h1,h2,-⟩:=h
 exact⟨cs[i],aA h1 (by simp)⟩
theorem KF.head{V:World}{b:Nat}(h:KF V b f c o G){i:Nat}{v:Value}(hi:(f.cells ++ [.bool c,.bool o])[i]?=some v):V.cell? ⟨b,i,none⟩=some v:=by
 obtain⟨cs,h1,h2,h3,-⟩:=h
 exact aA h1 (by simpa using h3 i v hi)
theorem KF.has{V:World}{b:Nat}(h:KF V b f c o G){i:Nat}(hi:i < 31):∃ h:Bool,V.cell? ⟨b,101+i,none⟩=some (.bool h)/\(h=true->(∀ (j:Nat) (v:Value),(cS (G (i:Int)))[j]?=some v->V.cell? ⟨b,132+i * 4+j,none⟩=some v)/\V.cell? ⟨b,256+i,none⟩=some (.bool (G (i:Int)).2)):=by
 obtain⟨cs,h1,h2,h3,h4⟩:=h
 obtain⟨h,a1,a2⟩:=h4 i hi
 refine⟨h,aA h1 (by simpa using a1),fun e=>⟨fun j v hj=>aA h1 ?_,aA h1 (by simpa using (a2 e).2)⟩⟩
 have hj4:j < 4:=by have:=(List.getElem?_eq_some_iff.1 hj).1;rwa [bN3] at this
 rw [List.getElem?_toArray,(a2 e).1 j hj4]
 exact hj
theorem aL4:∀ i:Nat,i < 31->Tryz.zeroCells106[101+i]?=some (.bool false)
 | 0,_=>by kernel_rfl
 | 1,_=>by kernel_rfl
 | 2,_=>by kernel_rfl
 | 3,_=>by kernel_rfl
 | 4,_=>by kernel_rfl
 | 5,_=>by kernel_rfl
 | 6,_=>by kernel_rfl
 | 7,_=>by kernel_rfl
 | 8,_=>by kernel_rfl
 | 9,_=>by kernel_rfl
 | 10,_=>by kernel_rfl
 | 11,_=>by kernel_rfl
 | 12,_=>by kernel_rfl
 | 13,_=>by kernel_rfl
 | 14,_=>by kernel_rfl
 | 15,_=>by kernel_rfl
 | 16,_=>by kernel_rfl
 | 17,_=>by kernel_rfl
 | 18,_=>by kernel_rfl
 | 19,_=>by kernel_rfl
 | 20,_=>by kernel_rfl
 | 21,_=>by kernel_rfl
 | 22,_=>by kernel_rfl
 | 23,_=>by kernel_rfl
 | 24,_=>by kernel_rfl
 | 25,_=>by kernel_rfl
 | 26,_=>by kernel_rfl
 | 27,_=>by kernel_rfl
 | 28,_=>by kernel_rfl
 | 29,_=>by kernel_rfl
 | 30,_=>by kernel_rfl
 | i+31,h=>absurd h (by omega)
theorem bL8(V:World)(f:Fl)(c o:Bool)(G:Int->BitVec 256 × Bool):KF (V.alloc (.cells (KC f c o) 106)) V.heap.size f c o G:=by
 refine⟨(KC f c o).toList,?_,by rw [Array.length_toList,bE2],fun i v h=>?_,fun i hi=>⟨false,?_,fun e=>by cases e⟩⟩
 ·rw [Array.toArray_toList];exact aE V _
 ·rw [Array.getElem?_toList];exact bE3 f c o i v h
 ·rw [Array.getElem?_toList,bL9 f c o _ (by omega)];exact aL4 i hi
structure KSF(B b:Nat)(t:Tr)(c o:Bool)(G:Int->BitVec 256 × Bool)(V:World):Prop where
 tb:TB V t
 ft:Foot (fun k=>k < B) t
 lt:B<=b
 kw:KF V b t.f c o G
variable {B b:Nat} {t:Tr}
theorem KSF.fr{V V':World}(h:KSF B b t c o G V)(hf:Fr (fun k=>k=b) V V')(hk:KF V' b t.f c o G):KSF B b t c o G V':=
 ⟨h.tb.ckN h.ft (hf.ckeep (fun k e z=>by have:=h.lt;omega)),h.ft,h.lt,hk⟩
theorem KSF.below{V V':World}(h:KSF B b t c o G V)(hb:Below V.heap.size V V'):KSF B b t c o G V':=
 ⟨h.tb.kept hb,h.ft,h.lt,h.kw.same (hb.block _ h.kw.lt)⟩
structure FI(w:World)(B b:Nat)(t:Tr)(c o:Bool)(G:Int->BitVec 256 × Bool)(f:Fl)(S:BitVec 256)(V:World):Prop where
 ks:KSF B b t c o G V
 fr:Fr (fun k=>k=b) w V
 bw:b < w.heap.size
 nb:BoxN V w.heap.size f
 rz:V.heap[w.heap.size+1]?=some (.cells #[.int .u64 0,.int .u64 0,.int .u64 0,.int .u64 0] 36 (0,0))
 s:V.heap[w.heap.size+1+1]?=some (.cells #[.int .u64 (aC S 0),.int .u64 (aC S 1),.int .u64 (aC S 2),.int .u64 (aC S 3)] 36 (0,0))
variable {w V V':World} {S:BitVec 256}
theorem FI.call(h:FI w B b t c o G f S V)(hf:Fr (fun k=>k=b) V V')(hk:KF V' b t.f c o G):FI w B b t c o G f S V':=
 ⟨h.ks.fr hf hk,zK h.fr hf (fun _ e=>.inl e),h.bw,cO hf h.nb (by have:=h.bw;omega),cO hf h.rz (by have:=h.bw;omega),cO hf h.s (by have:=h.bw;omega)⟩
theorem FI.below(h:FI w B b t c o G f S V)(hb:Below V.heap.size V V'):FI w B b t c o G f S V':=
 ⟨h.ks.below hb,zK h.fr (Fr.of_below (S:=fun _=>False) hb) (fun _ e=>e.elim),h.bw,(hb.block _ (aB h.nb)).trans h.nb,(hb.block _ (aB h.rz)).trans h.rz,(hb.block _ (aB h.s)).trans h.s⟩
end
section
variable {f:Fl} {c o:Bool} {G:Int->BitVec 256 × Bool} {B b:Nat} {t:Tr} {w V V':World} {S:BitVec 256}
theorem KF.set(h:KF V b f c o G){n:Nat}{v:Value}(hn:131 < n)(hv:∀ i:Nat,i < 31->(∀ j:Nat,j < 4->n=132+i * 4+j->(cS (G (i:Int)))[j]?=some v)/\(n=256+i->v=.bool (G (i:Int)).2)):KF (V.setCell ⟨b,n,none⟩ v) b f c o G:=by
 obtain⟨cs,h1,h2,h3,h4⟩:=h
 have g1:=aO h1 n v
 rw [List.setIfInBounds_toArray] at g1
 refine⟨_,g1,by simp [h2],fun k x hk=>?_,fun k hk=>?_⟩
 ·have hk8:k < 8:=by have:=(List.getElem?_eq_some_iff.1 hk).1;rw [List.length_append,qD] at this;simpa using this
  rw [List.getElem?_set_ne (by omega)]
  exact h3 k x hk
 ·obtain⟨h,a1,a2⟩:=h4 k hk
  refine⟨h,by rw [List.getElem?_set_ne (by omega)];exact a1,fun e=>⟨fun j hj=>?_,?_⟩⟩
  ·by_cases hnj:n=132+k * 4+j
   ·rw [(hv k hk).1 j hj hnj,hnj,List.getElem?_set_self (by omega)]
   ·rw [List.getElem?_set_ne hnj]
    exact(a2 e).1 j hj
  ·by_cases hnj:n=256+k
   ·rw [(hv k hk).2 hnj,hnj,List.getElem?_set_self (by omega)]
   ·rw [List.getElem?_set_ne hnj]
    exact(a2 e).2
theorem KF.putS(h:KF V b f c o G){i:Nat}(hi:i < 31){x:BitVec 256}{y:Bool}(hx:G (i:Int)=(x,y)):KF (bD V b (132+i * 4) [.int .u64 (aC x 0),.int .u64 (aC x 1),.int .u64 (aC x 2),.int .u64 (aC x 3)]) b f c o G:=by
 have st:∀ (W:World) (j:Nat) (v:Value),KF W b f c o G->(cS (G (i:Int)))[j]?=some v->j < 4->KF (W.setCell ⟨b,132+i * 4+j,none⟩ v) b f c o G:=fun W j v hW hv hj=>hW.set (by omega) (fun i' hi'=>⟨fun j' hj' e=>by
  have e1:i'=i:=by omega
  have e2:j'=j:=by omega
  rw [e1,e2]
  exact hv,fun e=>by omega⟩)
 simp only [bD]
 exact st _ 3 _ (st _ 2 _ (st _ 1 _ (st _ 0 _ h (by rw [hx];rfl) (by omega)) (by rw [hx];rfl) (by omega)) (by rw [hx];rfl) (by omega)) (by rw [hx];rfl) (by omega)
theorem KF.putN(h:KF V b f c o G){i:Nat}(hi:i < 31){x:BitVec 256}{y:Bool}(hx:G (i:Int)=(x,y)):KF (V.setCell ⟨b,256+i,none⟩ (.bool y)) b f c o G:=
 h.set (by omega) (fun i' hi'=>⟨fun j hj e=>by omega,fun e=>by
  have e1:i'=i:=by omega
  rw [e1,hx]⟩)
theorem KF.putB(h:KF V b f c o G){i:Nat}(hi:i < 31)(hs:∀ j:Nat,j < 4->V.cell? ⟨b,132+i * 4+j,none⟩=(cS (G (i:Int)))[j]?)(hn:V.cell? ⟨b,256+i,none⟩=some (.bool (G (i:Int)).2)):KF (V.setCell ⟨b,101+i,none⟩ (.bool true)) b f c o G:=by
 obtain⟨cs,h1,h2,h3,h4⟩:=h
 have rd:∀ k,V.cell? ⟨b,k,none⟩=cs[k]?:=fun k=>by simp [World.cell?,h1]
 simp only [rd] at hs hn
 have g1:=aO h1 (101+i) (.bool true)
 rw [List.setIfInBounds_toArray] at g1
 refine⟨_,g1,by simp [h2],fun k v hk=>?_,fun k hk=>?_⟩
 ·have hk8:k < 8:=by have:=(List.getElem?_eq_some_iff.1 hk).1;rw [List.length_append,qD] at this;simpa using this
  rw [List.getElem?_set_ne (by omega)]
  exact h3 k v hk
 ·by_cases hik:k=i
  ·subst hik
   refine⟨true,by rw [List.getElem?_set_self (by omega)],fun _=>⟨fun j hj=>?_,?_⟩⟩
   ·rw [List.getElem?_set_ne (by omega)];exact hs j hj
   ·rw [List.getElem?_set_ne (by omega)];exact hn
  ·obtain⟨h,a1,a2⟩:=h4 k hk
   refine⟨h,by rw [List.getElem?_set_ne (by omega)];exact a1,fun e=>⟨fun j hj=>?_,?_⟩⟩
   ·rw [List.getElem?_set_ne (by omega)];exact(a2 e).1 j hj
   ·rw [List.getElem?_set_ne (by omega)];exact(a2 e).2
theorem KF.laid(h:KF V b f c o G){i:Nat}(hi:i < 31)(x:BitVec 256)(y:Bool) :
  (((bD V b (132+i * 4) [.int .u64 (aC x 0),.int .u64 (aC x 1),.int .u64 (aC x 2),.int .u64 (aC x 3)]).setCell ⟨b,256+i,none⟩ (.bool y)).cell? ⟨b,132+i * 4,none⟩=some (.int .u64 (aC x 0))/\((bD V b (132+i * 4) [.int .u64 (aC x 0),.int .u64 (aC x 1),.int .u64 (aC x 2),.int .u64 (aC x 3)]).setCell ⟨b,256+i,none⟩ (.bool y)).cell? ⟨b,132+i * 4+1,none⟩=some (.int .u64 (aC x 1))/\((bD V b (132+i * 4) [.int .u64 (aC x 0),.int .u64 (aC x 1),.int .u64 (aC x 2),.int .u64 (aC x 3)]).setCell ⟨b,256+i,none⟩ (.bool y)).cell? ⟨b,132+i * 4+1+1,none⟩=some (.int .u64 (aC x 2))/\((bD V b (132+i * 4) [.int .u64 (aC x 0),.int .u64 (aC x 1),.int .u64 (aC x 2),.int .u64 (aC x 3)]).setCell ⟨b,256+i,none⟩ (.bool y)).cell? ⟨b,132+i * 4+1+1+1,none⟩=some (.int .u64 (aC x 3)))/\((bD V b (132+i * 4) [.int .u64 (aC x 0),.int .u64 (aC x 1),.int .u64 (aC x 2),.int .u64 (aC x 3)]).setCell ⟨b,256+i,none⟩ (.bool y)).cell? ⟨b,256+i,none⟩=some (.bool y):=by
 obtain⟨cs,h1,h2,-⟩:=h
 have g:=aO (aO (aO (aO (aO h1 (132+i * 4) (.int .u64 (aC x 0))) (132+i * 4+1) (.int .u64 (aC x 1))) (132+i * 4+1+1) (.int .u64 (aC x 2))) (132+i * 4+1+1+1) (.int .u64 (aC x 3))) (256+i) (.bool y)
 simp only [List.setIfInBounds_toArray] at g
 simp only [bD]
 refine⟨⟨aA g ?_,aA g ?_,aA g ?_,aA g ?_⟩,aA g ?_⟩
 ·rw [List.getElem?_toArray,List.getElem?_set_ne (by omega),List.getElem?_set_ne (by omega),List.getElem?_set_ne (by omega),List.getElem?_set_ne (by omega),List.getElem?_set_self (by rw [h2];omega)]
 ·rw [List.getElem?_toArray,List.getElem?_set_ne (by omega),List.getElem?_set_ne (by omega),List.getElem?_set_ne (by omega),List.getElem?_set_self (by simp only [List.length_set,h2];omega)]
 ·rw [List.getElem?_toArray,List.getElem?_set_ne (by omega),List.getElem?_set_ne (by omega),List.getElem?_set_self (by simp only [List.length_set,h2];omega)]
 ·rw [List.getElem?_toArray,List.getElem?_set_ne (by omega),List.getElem?_set_self (by simp only [List.length_set,h2];omega)]
 ·rw [List.getElem?_toArray,List.getElem?_set_self (by simp only [List.length_set,h2];omega)]
theorem FI.frn{bo:Nat}(h:FI w B b t c o G f S V)(F:Fr (fun z=>z=bo) V V')(hlt:w.heap.size+1+1 < bo):FI w B b t c o G f S V':=by
 have hb:=h.bw
 exact⟨⟨h.ks.tb.ckN h.ks.ft (F.ckeep fun k e z=>by have:=h.ks.lt;omega),h.ks.ft,h.ks.lt,h.ks.kw.same (F.block _ h.ks.kw.lt (by omega))⟩,zK h.fr F (fun z e=>.inr (by omega)),hb,cO F h.nb (by omega),cO F h.rz (by omega),cO F h.s (by omega)⟩
end
end Go.Proofs.YtjafnbjipgediaaGreatDoor
