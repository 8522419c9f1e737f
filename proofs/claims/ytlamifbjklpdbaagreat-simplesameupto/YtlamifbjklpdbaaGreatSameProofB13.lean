/-
  Parts of the proof.
-/
import Derived.Test.YtlamifbjklpdbaaGreatSameProofA0
import Derived.Test.YtlamifbjklpdbaaGreatSameProofB12
set_option linter.unusedSimpArgs false
set_option maxRecDepth 100000
set_option maxHeartbeats 8000000
namespace Go.Proofs.YtlamifbjklpdbaaGreat
open Go Go.RowKit
section
attribute [local go_sem] Oper.semAt_some
variable {H:Gh} {V V':World} {rs rs' rs'':List (Option Nat)} {wk wk':Int} {mu mu':Bool}
def Ten(l:List Cf):Prop:=∀ x∈l,x.g.length=10
theorem zZ{α:Type}(f:α->List Value)(N:Nat):∀ (xs:List α),(∀ x∈xs,(f x).length=N)->∀ (i:Nat) (x:α),xs[i]?=some x->∀ j,j<N->(xs.flatMap f)[i*N+j]?=(f x)[j]?
 | [],_,i,x,h,_,_=>by simp at h
 | y :: ys,hf,0,x,h,j,hj=>by
  simp at h
  subst h
  rw [aAN,Nat.zero_mul,m7,aAH (by rw [hf y (by simp)];exact hj)]
 | y :: ys,hf,i+1,x,h,j,hj=>by
  rw [aAN,aAA (by rw [hf y (by simp),Nat.add_mul];omega),hf y (by simp),show (i+1)*N+j-N=i*N+j by rw [Nat.add_mul];omega]
  exact zZ f N ys (fun x hx=>hf x (m9 _ hx)) i x (by simpa using h) j hj
def CR12(base:Nat)(V:World)(q:Option Addr)(c:Nat)(l:List Cf):Prop:=V.ownsRow base 69 21 (.slice q l.length c) l.length (l.flatMap cfC)
theorem CR12.get{base g c:Nat}{l:List Cf}(h:CR12 base V (some ⟨g,0,none⟩) c l){i:Nat}{x:Cf}(hx:l[i]?=some x):V.rangeAt g (i*21) (cfC x):=fun j v hv=>by
 have hj:j<21:=by have:=(m8.1 hv).1;rw [cN] at this;exact this
 exact aP h ((zZ cfC 21 l (fun x _=>cN x) i x hx j hj).trans hv)
def BoxC(V:World)(b:Nat)(x:Cf):Prop:=V.heap[b]?=some (.cells (cfA x) 69 (0,0))
theorem BoxC.get{b:Nat}{x:Cf}(h:BoxC V b x):V.rangeAt b 0 (cfC x):=fun j v hv=>by
 rw [m7]
 exact aB h (by unfold cfA;simpa using hv)
theorem CR12.at{base:Nat}{q:Option Addr}{c:Nat}{l:List Cf}(h:CR12 base V q c l)(hl:0<l.length):∃ g,q=some ⟨g,0,none⟩/\g<V.heap.size/\base<=g/\∃ cs,V.heap[g]?=some (.cells cs 69 (0,0)):=by
 obtain⟨g,c',e⟩:=aO h hl
 injection e with e1 _ _
 subst e1
 obtain⟨a,b,d⟩:=aF h rfl
 exact⟨g,rfl,b,a,d⟩
theorem CR12.kept{base:Nat}{q:Option Addr}{c:Nat}{l:List Cf}(h:CR12 base V q c l)(hb:Below V.heap.size V V'):CR12 base V' q c l:=aH (S:=fun _=>False) h (Fr.of_below hb) (fun _ _ q=>q)
theorem CR12.nil(base:Nat)(V:World):CR12 base V none 0 []:=aAY _ _ _ _
theorem WM.count(h:WM H V rs wk mu)(hb:V'.heap[H.b]?=some (.cells (H.cells wk' mu') 43 (0,0)))(hf:Fr (fun k=>k=H.b) V V')(hc:mu'=false->0<=wk'/\wk'<=20000):WM H V' rs wk' mu':=by
 have other:∀ {g:Nat} {cs:Array Value} {ty:TypeId},V.heap[g]?=some (.cells cs ty (0,0))->ty≠43->g≠H.b:=fun {g cs ty} hg hty=>bD hg h.hd hty
 refine⟨hb,aH h.z hf (fun k hk e=>?_),aH h.pl hf (fun k hk e=>?_),aH h.rw hf (fun k hk e=>?_),h.ap,fun i k z p q=>?_,h.bb,?_,h.tf,hc⟩
 ·obtain⟨-,-,cur,hc⟩:=aF h.z hk
  exact other hc (by decide) e
 ·obtain⟨-,-,cur,hc⟩:=aF h.pl hk
  exact other hc (by decide) e
 ·obtain⟨-,-,cur,hc⟩:=aF h.rw hk
  exact other hc (by decide) e
 ·refine⟨(h.row i k z p q).1,(h.row i k z p q).2.of fun g cs ty hg hty=>hf.block g (aC hg) (other hg ?_)⟩
  rcases hty with e | e
  ·rw [e];decide
  ·subst e
   obtain⟨cs',hcs⟩:=(h.row_lt p).2
   rw [hcs] at hg
   injection hg with hg
   injection hg with _ hg _
   rw [<- hg];decide
 ·refine h.ta.ckN h.tf ⟨hf.size,fun k cur t fr hk hc=>(hf.block k (aC hc) (fun e=>?_)).trans hc⟩
  have:=h.bb
  omega
structure PuI(H:Gh)(W:World)(rs:List (Option Nat))(wk:Int)(mu:Bool)(base:Nat)(q:Option Addr)(c:Nat)(l:List Cf)(x:Cf)(q':Option Addr)(c':Nat)(l':List Cf)(wk':Int)(mu':Bool)(W':World):Prop where
 cr:CR12 base W' q' c' l'
 wm:WM H W' rs wk' mu'
 is:l'=l\/l'=l++[x]
 has:mu'=false->x∈l'
 mo:mu=true->mu'=true
 wkm:mu'=false->wk<=wk'
 n:l'.length<=20000
 nw:mu'=false->(l'.length:Int)<=wk'
 f:Fr (fun k=>k=H.b\/(Value.slice q l.length c).ownBlock=some k) W W'
 mv:moved (.slice q l.length c) (.slice q' l'.length c') W.heap.size
def PuP(H:Gh)(W:World)(rs:List (Option Nat))(wk:Int)(mu:Bool)(base:Nat)(q:Option Addr)(c:Nat)(l:List Cf)(x:Cf)(e:Ending)(W':World):Prop:=∃ (q':Option Addr) (c':Nat) (l':List Cf) (wk':Int) (mu':Bool),e=.returned (.slice q' l'.length c')/\PuI H W rs wk mu base q c l x q' c' l' wk' mu' W'
def tN:Value:=.agg #[.int .i64 0,.int .i64 0,.int .i64 0,.int .i64 0,.int .i64 0,.int .i64 0,.int .i64 0,.int .i64 0,.int .i64 0,.int .i64 0,.int .i64 0,.int .i64 0,.int .i64 0,.int .i64 0,.int .i64 0,.int .i64 0,.int .i64 0,.int .i64 0,.int .i64 0,.int .i64 0,.int .i64 0]
theorem nK:(Tryz.prog.info? 69).map (fun i=>(i.zero,i.size,i.bytes))=some (some tN,21,168):=by kernel_rfl
theorem CR12.cnt{base:Nat}{q:Option Addr}{c:Nat}{l:List Cf}(h:CR12 base V q c l)(hw:WM H V rs wk mu)(hf:Fr (fun k=>k=H.b) V V'):CR12 base V' q c l:=aH h hf (fun k hk e=>by
 obtain⟨-,-,cur,hc⟩:=aF h hk
 exact bD hc hw.hd (by decide) e)
theorem kY:tN.cells.size=21:=by kernel_rfl
theorem gF{w:World}(hw:WM H w rs wk mu){base:Nat}{q:Option Addr}{c:Nat}{l:List Cf}{x:Cf}(hl:CR12 base w q c l)(hbs:base<=w.heap.size)(hbb:H.base<=base)(ht:Ten l)(hx:x.g.length=10)(hn:l.length<=20000)(hnw:mu=false->(l.length:Int)<=wk) :
  Calls Tryz.prog 51 #[.pointer (some ⟨H.b,0,none⟩),.slice q l.length c,.agg (cfA x)] w (PuP H w rs wk mu base q c l x):=by
 have B0:Hid (Below w.heap.size w (w.alloc (.cells (cfA x) 69))):=bz9
 have X0:Hid (BoxC (w.alloc (.cells (cfA x) 69)) w.heap.size x):=aD w _
 have W0:=aA (hw.below B0.out)
 have L0:=aA (hl.kept B0.out)
 have HT:=aA ht
 have HX:=aA hx
 have HNW:=aA hnw
 have HWK:=aA hw.wk
 clear hw hl ht hx hnw
 go_enter Tryz.func51,Tryz.ntmps51
 go_upto_region 1 with fail
 generalize (w.alloc (.cells (cfA x) 69))=w1 at B0 X0 W0 L0 ⊢
 have c16:=W0.out.cell (i:=16) (v:=.int .i64 wk) rfl
 have c17:=W0.out.cell (i:=17) (v:=.bool mu) rfl
 have f16:=W0.out.frz 16
 have f17:=W0.out.frz 17
 obtain⟨wk1,hk1⟩:∃ k,IntKind.wrap .i64 (wk+1)=k:=⟨_,rfl⟩
 have F1:Hid (Fr (fun k=>k=H.b) w1 (w1.setCell ⟨H.b,16,none⟩ (.int .i64 wk1))):=(Fr.refl (fun k=>k=H.b) w1).setCell (p:=⟨H.b,16,none⟩) rfl _
 have F2:Hid (Fr (fun k=>k=H.b) w1 ((w1.setCell ⟨H.b,16,none⟩ (.int .i64 wk1)).setCell ⟨H.b,17,none⟩ (.bool true))):=F1.out.setCell (p:=⟨H.b,17,none⟩) rfl _
 have H1:Hid ((w1.setCell ⟨H.b,16,none⟩ (.int .i64 wk1)).heap[H.b]?=some (.cells (H.cells wk1 mu) 43 (0,0))):=aJ W0.out.hd 16 (.int .i64 wk1)
 have H2:Hid (((w1.setCell ⟨H.b,16,none⟩ (.int .i64 wk1)).setCell ⟨H.b,17,none⟩ (.bool true)).heap[H.b]?=some (.cells (H.cells wk1 true) 43 (0,0))):=aJ H1.out 17 (.bool true)
 have FB:Hid (∀ V,Fr (fun k=>k=H.b) w1 V->Fr (fun k=>k=H.b\/(Value.slice q l.length c).ownBlock=some k) w V):=fun V hf=>(Fr.of_below B0.out).trans (hf.mono fun k e=>.inl e)
 by_cases hbig:mu=true\/(20000:Int)<wk1
 ·have D2:Hid (PuP H w rs wk mu base q c l x (.returned (.slice q l.length c)) ((w1.setCell ⟨H.b,16,none⟩ (.int .i64 wk1)).setCell ⟨H.b,17,none⟩ (.bool true))):=⟨q,c,l,wk1,true,rfl,L0.out.cnt W0.out F2.out,W0.out.count H2.out F2.out (fun e=>by cases e),.inl rfl,fun e=>(by cases e),fun _=>rfl,fun e=>(by cases e),hn,fun e=>(by cases e),FB.out _ F2.out,moved.refl _ _⟩
  by_cases h2:(20000:Int)<wk1
  ·clear hbig
   go_wp2
   go_ret
   exact D2.out
  ·have hm:mu=true:=hbig.resolve_right h2
   clear hbig D2
   subst hm
   have D1:Hid (PuP H w rs wk true base q c l x (.returned (.slice q l.length c)) (w1.setCell ⟨H.b,16,none⟩ (.int .i64 wk1))):=⟨q,c,l,wk1,true,rfl,L0.out.cnt W0.out F1.out,W0.out.count H1.out F1.out (fun e=>by cases e),.inl rfl,fun e=>(by cases e),fun _=>rfl,fun e=>(by cases e),hn,fun e=>(by cases e),FB.out _ F1.out,moved.refl _ _⟩
   go_wp2
   go_ret
   exact D1.out
 ·have hm:mu=false:=by cases mu <;> simp_all
  subst hm
  have h2:¬ (20000:Int)<wk1:=fun h=>hbig (.inr h)
  have hwk0:=HWK.out rfl
  have hnw0:=HNW.out rfl
  have hk2:wk1=wk+1:=by rw [<- hk1];exact wrap_small _ (by omega) (by omega)
  have W2:Hid (WM H (w1.setCell ⟨H.b,16,none⟩ (.int .i64 wk1)) rs wk1 false):=W0.out.count H1.out F1.out (fun _=>by omega)
  have L2:=aA (L0.out.cnt W0.out F1.out)
  have X2:Hid (BoxC (w1.setCell ⟨H.b,16,none⟩ (.int .i64 wk1)) w.heap.size x):=(F1.out.block _ (aC X0.out) (bD X0.out W0.out.hd (by decide))).trans X0.out
  have hll:(l.length:Int)+1<=wk1:=by omega
  have hkm:wk<=wk1:=by omega
  have hl2:l.length+1<=20000:=by omega
  have F3:=aA (FB.out _ F1.out)
  have HS:Hid (w.heap.size<=(w1.setCell ⟨H.b,16,none⟩ (.int .i64 wk1)).heap.size):=aA (o0 B0.out.size F1.out.size)
  clear hbig hk2 hwk0 hnw0 HNW HWK
  go_upto_region 4 with fail
  generalize (w1.setCell ⟨H.b,16,none⟩ (.int .i64 wk1))=w2 at W2 L2 X2 F3 HS ⊢
  clear c16 c17 f16 f17 hk1 F1 F2 H1 H2 FB W0 L0 X0 B0
  have c17:=W2.out.cell (i:=17) (v:=.bool false) rfl
  go_upto_region 7 with fail
  go_loopw [7] (fun iv wr=>∃ k:Nat,k<=l.length/\iv=.int .i64 (k:Int)/\Below w2.heap.size w2 wr) (fun iv _=>l.length-(intOf iv).toNat)
  case atStart=>exact⟨0,o9 _,rfl,Below.refl _ _⟩
  case round=>
   obtain⟨k,hk,rfl,hbl⟩:=hrel
   have L3:=aA (L2.out.kept hbl)
   have W3:=aA (W2.out.below hbl)
   have F4:=aA (F3.out.then hbl)
   have X3:Hid (BoxC wr w.heap.size x):=(hbl.block _ (aC X2.out)).trans X2.out
   have BL:=aA hbl
   clear hbl
   by_cases hkl:k<l.length
   ·have i0:(k:Int)<(l.length:Int):=by omega
    have hw3:IntKind.wrap .i64 ((k:Int)+1)=(k:Int)+1:=wrap_small _ (by omega) (by omega)
    obtain⟨y,hy⟩:∃ y,l[k]?=some y:=⟨_,g9 hkl⟩
    have HY:=aA hy
    obtain⟨g,rfl,g1,g2,g3⟩:=L3.out.at (by omega)
    have hyt:=HT.out y (n8 hy)
    have RY:=aA (L3.out.get hy)
    have D:=aA ((Below.refl wr.heap.size wr).drew)
    have EQ:=bB6 hyt HX.out
    obtain⟨b,hb⟩:∃ b,cfE y x=b:=⟨_,rfl⟩
    have HB:=aA hb
    rw [hb] at EQ
    clear hy hb hyt
    go_upto_region 9 with fail
    refine wp_region_held_drew (S:=fun w'=>w'.rangeAt g (k*21) (cfC y)/\w'.rangeAt w.heap.size 0 (cfC x)) (by kernel_rfl) ⟨(L3.out.kept D.out).get HY.out,BoxC.get ((D.out.block _ (aC X3.out)).trans X3.out)⟩ ?_
    intro hS0
    refine wpAnyH_take (i:=0) (oi:=_) (v:=?_) rfl (by kernel_rfl) (by kernel_rfl) (by kernel_rfl) (fun _ _ _ h=>h) (Or.inl ⟨by rfl,?_⟩) (by assumption) ?_
    rotate_left
    ·intro wz hSw
     clear hSw
     go_simp
     try with_reducible rfl
    dsimp only [Act.put,i7,g7,g8]
    simp only [f8,i8,i9]
    refine wpAnyH_take (i:=1) (oi:=_) (v:=?_) rfl (by kernel_rfl) (by kernel_rfl) (by kernel_rfl) (fun _ _ _ h=>h) (Or.inl ⟨by rfl,?_⟩) (by assumption) ?_
    rotate_left
    ·intro wz hSw
     clear hSw
     go_simp
     try with_reducible rfl
    dsimp only [Act.put,i7,g7,g8]
    simp only [f8,i8,i9]
    refine wpAnyH_take (i:=2) (oi:=_) (v:=?_) rfl (by kernel_rfl) (by kernel_rfl) (by kernel_rfl) (fun _ _ _ h=>h) (Or.inl ⟨by rfl,?_⟩) (by assumption) ?_
    rotate_left
    ·intro wz hSw
     clear hSw
     go_simp
     try with_reducible rfl
    dsimp only [Act.put,i7,g7,g8]
    simp only [f8,i8,i9]
    refine wpAnyH_take (i:=3) (oi:=_) (v:=_) rfl (by kernel_rfl) (by kernel_rfl) (by kernel_rfl) (fun _ _ _ h=>h) (jE (by rfl) _ rfl g (k*21) rfl y (fun w h=>h.1)) (by assumption) ?_
    dsimp only [Act.put,i7,g7,g8]
    simp only [f8,i8,i9]
    refine wpAnyH_take (i:=4) (oi:=_) (v:=_) rfl (by kernel_rfl) (by kernel_rfl) (by kernel_rfl) (fun _ _ _ h=>h) (jE (by rfl) _ rfl w.heap.size 0 rfl x (fun w h=>h.2)) (by assumption) ?_
    dsimp only [Act.put,i7,g7,g8]
    simp only [f8,i8,i9]
    refine wpAnyH_take (i:=5) (oi:=_) (v:=?_) rfl (by kernel_rfl) (by kernel_rfl) (by kernel_rfl) (fun _ _ _ h=>h) (Or.inl ⟨by rfl,?_⟩) (by assumption) ?_
    rotate_left
    ·intro wz hSw
     clear hSw
     go_simp
     try with_reducible rfl
    dsimp only [Act.put,i7,g7,g8]
    simp only [f8,i8,i9]
    refine wpAnyH_done (by kernel_rfl) ?_ _
    clear hS0
    have B5:=D
    cases b with
    | true=>
     have HE:Hid (y=x):=aA ((aA3 y x).1 HB.out)
     go_wp2
     go_ret
     exact⟨_,c,l,wk1,false,rfl,L3.out.kept B5.out,W3.out.below B5.out,.inl rfl,fun _=>(by rw [<- HE.out];exact n8 HY.out),fun e=>(by cases e),fun _=>hkm,hn,fun _=>by omega,F4.out.then B5.out,moved.refl _ _⟩
    | false=>
     go_wp2
     go_roundw
     case rel=>exact⟨k+1,by omega,by go_num,aG BL.out B5.out lz9⟩
     case measure=>simp only [intOf];omega
   ·have i0:¬ (k:Int)<(l.length:Int):=by omega
    obtain⟨t0,hi,hz0,hz1,hz2⟩:=aR nK
    have Y7:Hid ((wr.alloc (.cells (cfA x) 69)).ownsRow base 69 21 (.slice q l.length c) l.length (l.flatMap cfC)):=aAB L3.out _
    have HNEW:Hid (∀ j u,(cfC x)[j]?=some u->(wr.alloc (.cells (cfA x) 69)).cell? ((⟨wr.heap.size,0,none⟩:Addr).add j)=some u):=fU wr (cfC x) _
    have HB8:Hid (base<=(wr.alloc (.cells (cfA x) 69)).heap.size):=aA (o0 hbs (o0 HS.out (o0 BL.out.size (by simp))))
    have WA:=aA (W3.out.below ((Below.refl _ wr).alloc lz9 (.cells (cfA x) 69)))
    have FA:=aA (F4.out.alloc (.cells (cfA x) 69))
    have RX:=aA X3.out.get
    go_upto_region 11 with fail
    go_wp2_with first |((with_reducible refine fF ?_);refine bN rfl _ rfl w.heap.size 0 rfl x RX.out ?_) |((with_reducible refine tJ ?_);refine iJ rfl _ rfl x rfl ?_) |(at_builtin;refine wpList_append_own_at _ rfl _ _ 63 rfl base 69 t0 tN 21 168 nG hi hz0 hz1 hz2 kY (by decide) (.slice q l.length c) l.length (l.flatMap cfC) rfl Y7.out ⟨wr.heap.size,0,none⟩ 1 1 (cfC x) rfl (cN x) HNEW.out (oY x) (by unfold maxLen;omega) (by omega) HB8.out ?_;intro v' w6 hown' hgrow _ hmv;obtain⟨q6,c6,rfl⟩:=aQ hown';have O6:=aA hown';have G6:=aA hgrow;have M6:=aA hmv;clear hown' hgrow hmv)
    go_ret
    have F6:Fr (fun z=>(Value.slice q l.length c).ownBlock=some z) (wr.alloc (.cells (cfA x) 69)) w6:=(Fr.refl _ _).grown G6.out fun k hk=>hk
    have HNM:∀ k,k<(wr.alloc (.cells (cfA x) 69)).heap.size->(Value.slice q l.length c).ownBlock=some k->H.base<=k/\k≠H.pb/\∃ cs ty,(wr.alloc (.cells (cfA x) 69)).heap[k]?=some (.cells cs ty (0,0))/\¬ sT ty:=fun k _ hk=>by
     obtain⟨h1,h2,cur,h3⟩:=aF Y7.out hk
     refine⟨by omega,?_,cur,_,h3,by unfold sT;decide⟩
     obtain⟨-,-,cur2,h4⟩:=aF WA.out.pl rfl
     exact bD h3 h4 (by decide)
    refine⟨q6,c6,l++[x],wk1,false,by simp,?_,(WA.out.fr F6 HNM),.inr rfl,fun _=>by simp,fun e=>(by cases e),fun _=>hkm,by simp;omega,fun _=>by simp;omega,FA.out.trans (F6.mono fun k e=>.inr e),?_⟩
    rotate_left
    ·rw [show (l++[x]).length=l.length+1 by simp]
     rcases M6.out with e | e
     ·exact .inl e
     ·refine .inr (.inr ⟨_,?_,e⟩)
      exact o0 HS.out (o0 BL.out.size (by simp))
    unfold CR12
    rw [o5,aBM]
    simpa using O6.out
end
section
variable {H:Gh} {V V':World} {rs rs' rs'':List (Option Nat)} {wk wk':Int} {mu mu' mu'':Bool}
theorem yM{P:Program}{ops:Array Oper}{Q:Exit->Act->World->Prop}{d:Option Tmp}{xo yo:Operand}{ty:TypeId}{pos:String}{af:Array Edge}{gd:Option (Nat×Bool)}{rest:List Oper}{a:Act}{w:World}(h:wpList P ops Q (Oper.mk d (.store 69 xo yo) ty pos af gd :: rest) a w):wpList P ops Q (Oper.mk d (.store 69 xo yo) ty pos af gd :: rest) a w:=h
theorem oB(b:Nat):∀ (vs:List Value) (o:Nat) (W:World),Fr (fun k=>k=b) W (W.setCells b o vs)
 | [],_,W=>by unfold World.setCells;exact Fr.refl _ W
 | v :: vs,o,W=>by
  have:=((Fr.refl (fun k=>k=b) W).setCell (p:=⟨b,o,none⟩) rfl v).trans (oB b vs (o+1) (W.setCell ⟨b,o,none⟩ v))
  simpa [World.setCells] using this
theorem jU(x:Cf):(cfA x).size=21:=by unfold cfA;rw [aBT,cN]
theorem vU(x:Cf):(cfA x).toList=cfC x:=by unfold cfA;simp
theorem aX0{b:Nat}:∀ (vs:List Value) (o:Nat) (W:World) (C:Array Value),W.heap[b]?=some (.cells C 69 (0,0))->C.size=21->∃ C',(W.setCells b o vs).heap[b]?=some (.cells C' 69 (0,0))/\C'.size=21:=by
 intro vs
 induction vs with
 | nil=>intro o W C h1 h2;exact⟨C,by unfold World.setCells;exact h1,h2⟩
 | cons v vs ih=>
  intro o W C h1 h2
  have:=ih (o+1) (W.setCell ⟨b,o,none⟩ v) _ (aJ h1 o v) (by simpa using h2)
  simpa [World.setCells] using this
theorem kZ{ops:Array Oper}{rest:List Oper}{op:Oper}{a:Act}{w:World}{Q:Exit->Act->World->Prop}(hgd:op.guard=none)(xo yo:Operand)(ho:op.op=.store 69 xo yo)(b:Nat)(x:Cf)(hx:a.eval xo=.pointer (some ⟨b,0,none⟩))(hy:a.eval yo=.agg (cfA x))
  {C:Array Value} (hb:w.heap[b]?=some (.cells C 69 (0,0))) (hC:C.size=21)
  (h:∀ w',BoxC w' b x->Fr (fun k=>k=b) w w'->wpList Tryz.prog ops Q rest (a.put op.dst undef) w'):wpList Tryz.prog ops Q (op :: rest) a w:=by
 have hth:w.there b 0 (cfA x).size:=fun j hj=>by
  rw [jU] at hj
  rw [m7]
  refine⟨?_,aK hb j⟩
  rw [aB hb (v:=C[j]'(by omega)) (by simp)]
  rfl
 have hr:=World.rangeAt_setCells_same w b 0 (cfC x) (by rw [cN,<- jU x];exact hth)
 obtain⟨C',hC',hsz⟩:∃ C',(w.setCells b 0 (cfC x)).heap[b]?=some (.cells C' 69 (0,0))/\C'.size=21:=aX0 (cfC x) 0 w C hb hC
 have hE:C'=cfA x:=by
  apply Array.ext_getElem?
  intro j
  by_cases hj:j<21
  ·have hj2:j<(cfC x).length:=by rw [cN];exact hj
   have h1:=hr j _ (g9 hj2)
   rw [m7] at h1
   have h2:(w.setCells b 0 (cfC x)).cell? ⟨b,j,none⟩=C'[j]?:=by simp [World.cell?,hC']
   rw [<- h2,h1]
   unfold cfA
   rw [List.getElem?_toArray,g9 hj2]
  ·rw [Array.getElem?_eq_none (by omega),Array.getElem?_eq_none (by rw [jU];omega)]
 have hbox:BoxC (w.setCells b 0 (cfC x)) b x:=by unfold BoxC;rw [hC',hE]
 have hfr:=oB b (cfC x) 0 w
 have hk:=h _ hbox hfr
 rw [<- vU] at hk
 exact wpList_store_mid hgd 69 xo yo ho b 0 (cfA x) hx hy hth (by rw [lW,jU]) (by unfold cfA;exact all_oneCell_toArray (oY x)) hk
theorem BoxC.setp{b:Nat}{x:Cf}(h:BoxC V b x)(j:Nat):BoxC (V.setCell ⟨b,0,none⟩ (.int .i64 (j:Int))) b ⟨j,x.g⟩:=aJ h 0 (.int .i64 (j:Int))
theorem BoxC.p{b:Nat}{x:Cf}(h:BoxC V b x):V.cell? ⟨b,0,none⟩=some (.int .i64 (x.p:Int)):=aB h rfl
theorem BoxC.frz{b:Nat}{x:Cf}(h:BoxC V b x)(j:Nat):V.frozen? ⟨b,j,none⟩=false:=aK h j
theorem BoxC.lt{b:Nat}{x:Cf}(h:BoxC V b x):b<V.heap.size:=aC h
theorem BoxC.kept{b:Nat}{x:Cf}(h:BoxC V b x)(hb:Below V.heap.size V V'):BoxC V' b x:=(hb.block _ (aC h)).trans h
structure ES(H:Gh)(w:World)(rs:List (Option Nat))(wk:Int)(mu:Bool)(V:World)(rs':List (Option Nat))(wk':Int)(mu':Bool):Prop where
 wm:WM H V rs' wk' mu'
 g:Grw w.heap.size rs rs'
 f:Fr (fun k=>wmf H rs k\/False) w V
 mo:mu=true->mu'=true
 wkm:mu'=false->wk<=wk'
variable {w:World}
theorem ES.refl(h:WM H w rs wk mu):ES H w rs wk mu w rs wk mu:=⟨h,Grw.refl _ _,Fr.refl _ _,fun e=>e,fun _=>aAW _⟩
theorem ES.below(h:ES H w rs wk mu V rs' wk' mu')(hb:Below V.heap.size V V'):ES H w rs wk mu V' rs' wk' mu':=⟨h.wm.below hb,h.g,h.f.then hb,h.mo,h.wkm⟩
theorem ES.then{S:Nat->Prop}{wk2:Int}{mu2:Bool}(h:ES H w rs wk mu V rs' wk' mu')(hw:WM H V' rs'' wk2 mu2)(hg:Grw V.heap.size rs' rs'')(hf:Fr (fun k=>wmf H rs' k\/S k) V V')(hS:∀ k,S k->w.heap.size<=k)(hm:mu'=true->mu2=true)(hkm:mu2=false->wk'<=wk2):ES H w rs wk mu V' rs'' wk2 mu2:=
 ⟨hw,h.g.trans hg h.f.size,mS h.f h.g hf (fun i e=>.inr (hS i e)),fun e=>hm (h.mo e),fun e=>Int.le_trans (h.wkm (by
  cases h2:mu' with
  | false=>rfl
  | true=>have:=hm h2;rw [e] at this;cases this)) (hkm e)⟩
theorem ES.put{base:Nat}{q q':Option Addr}{c c':Nat}{l l':List Cf}{x:Cf}{wk2:Int}{mu2:Bool}(h:ES H w rs wk mu V rs' wk' mu')(hl:CR12 base V q c l)(hbs:w.heap.size<=base)(hp:PuI H V rs' wk' mu' base q c l x q' c' l' wk2 mu2 V'):ES H w rs wk mu V' rs' wk2 mu2:=
 h.then (S:=fun k=>(Value.slice q l.length c).ownBlock=some k) hp.wm (Grw.refl _ _) (hp.f.mono fun _ e=>e.imp .inl id) (fun _ hk=>o0 hbs (aF hl hk).1) hp.mo hp.wkm
theorem BoxC.put{b base:Nat}{q q':Option Addr}{c c':Nat}{l l':List Cf}{x y:Cf}{wk2:Int}{mu2:Bool}(h:BoxC V b y)(hw:WM H V rs' wk' mu')(hl:CR12 base V q c l)(hb:b<base)(hp:PuI H V rs' wk' mu' base q c l x q' c' l' wk2 mu2 V'):BoxC V' b y:=
 (hp.f.block b (aC h) (fun e=>by
  rcases e with e | e
  ·exact bD h hw.hd (by decide) e
  ·have:=(aF hl e).1
   omega)).trans h
theorem bK5{b base:Nat}{q q':Option Addr}{c c':Nat}{l l':List Cf}{f:Fl}{x:Cf}{wk2:Int}{mu2:Bool}(h:BoxN V b f)(hw:WM H V rs' wk' mu')(hl:CR12 base V q c l)(hp:PuI H V rs' wk' mu' base q c l x q' c' l' wk2 mu2 V'):BoxN V' b f:=
 (hp.f.block b (aC h) (fun e=>by
  rcases e with e | e
  ·exact bD h hw.hd (by decide) e
  ·obtain⟨-,-,cur,hc⟩:=aF hl e
   exact bD h hc (by decide) rfl)).trans h
theorem aP2{base base':Nat}{q q' k:Option Addr}{c c' kc:Nat}{l l':List Cf}{m:List Nat}{x:Cf}{wk2:Int}{mu2:Bool}(h:Ls12 base' V k kc m)(hw:WM H V rs' wk' mu')(hl:CR12 base V q c l)(hp:PuI H V rs' wk' mu' base q c l x q' c' l' wk2 mu2 V'):Ls12 base' V' k kc m:=
 aH h hp.f (fun g hg e=>by
  obtain⟨-,-,cur,hc⟩:=aF h hg
  rcases e with e | e
  ·exact bD hc hw.hd (by decide) e
  ·obtain⟨-,-,cur',hc'⟩:=aF hl e
   exact bD hc hc' (by decide) rfl)
def EnP(H:Gh)(W:World)(rs:List (Option Nat))(wk:Int)(mu:Bool)(base:Nat)(R:Cf->Prop)(e:Ending)(W':World):Prop:=∃ (q:Option Addr) (c:Nat) (l:List Cf) (rs':List (Option Nat)) (wk':Int) (mu':Bool),
 e=.returned (.slice q l.length c)/\CR12 base W' q c l/\l.length<=20001/\(∀ y∈l,R y)/\(mu'=false->∀ y,R y->y∈l)/\ES H W rs wk mu W' rs' wk' mu'
def EnC(H:Gh)(n:Nat):Prop:=∀ (i:Nat) (x:Cf) (z:Zl) (W:World) (rs:List (Option Nat)) (wk:Int) (mu:Bool),H.Z[i]?=some z->z.1.2.sz<=n->Vf H.L x->WM H W rs wk mu ->
 Calls Tryz.prog 27 #[.pointer (some ⟨H.b,0,none⟩),.int .i64 (i:Int),.agg (cfA x)] W (EnP H W rs wk mu W.heap.size (Mt H.L z.1.2 x))
end
section
attribute [local go_sem] Oper.semAt_some
variable {H:Gh} {V V':World} {rs rs' rs'':List (Option Nat)} {wk wk':Int} {mu mu' mu'':Bool}
structure EI12(H:Gh)(w:World)(rs:List (Option Nat))(wk:Int)(x:Cf)(lq:Option Addr)(lc:Nat)(m:List Nat)(k:Nat)(q:Option Addr)(c:Nat)(out:List Cf)(rs':List (Option Nat))(wk':Int)(mu':Bool)(V:World):Prop where
 es:ES H w rs wk false V rs' wk' mu'
 bx:BoxC V w.heap.size x
 ll:Ls12 H.base V lq lc m
 cr:CR12 (w.heap.size+1) V q c out
 n:out.length<=20000
 nw:mu'=false->(out.length:Int)<=wk'
 s:∀ y∈out,y.g=x.g/\y.p∈m.take k
 c:mu'=false->∀ j∈m.take k,(⟨j,x.g⟩:Cf)∈out
variable {w:World} {x:Cf} {lq q q':Option Addr} {lc k c c':Nat} {m:List Nat} {out l':List Cf}
theorem EI12.below(h:EI12 H w rs wk x lq lc m k q c out rs' wk' mu' V)(hb:Below V.heap.size V V'):EI12 H w rs wk x lq lc m k q c out rs' wk' mu' V':=
 ⟨h.es.below hb,h.bx.kept hb,h.ll.kept hb,h.cr.kept hb,h.n,h.nw,h.s,h.c⟩
theorem EI12.put{j:Nat}{wk2:Int}{mu2:Bool}(h:EI12 H w rs wk x lq lc m k q c out rs' wk' mu' V)(hj:m[k]?=some j)(hp:PuI H V rs' wk' mu' (w.heap.size+1) q c out ⟨j,x.g⟩ q' c' l' wk2 mu2 V'):EI12 H w rs wk x lq lc m (k+1) q' c' l' rs' wk2 mu2 V':=by
 have ht:m.take (k+1)=m.take k++[j]:=by rw [s7,hj];rfl
 refine⟨h.es.put h.cr (by omega) hp,h.bx.put h.es.wm h.cr (by omega) hp,aP2 h.ll h.es.wm h.cr hp,hp.cr,hp.n,hp.nw,fun y hy=>?_,fun e i hi=>?_⟩
 ·rw [ht]
  have old:y∈out->y.g=x.g/\y.p∈m.take k++[j]:=fun q=>⟨(h.s y q).1,o3.2 (.inl (h.s y q).2)⟩
  rcases hp.is with e | e
  ·rw [e] at hy;exact old hy
  ·rw [e] at hy
   rcases o3.1 hy with r | r
   ·exact old r
   ·rw [s9.1 r];exact⟨rfl,by simp⟩
 ·rw [ht] at hi
  have hmu:mu'=false:=by
   cases h2:mu' with
   | false=>rfl
   | true=>have:=hp.mo h2;rw [e] at this;cases this
  rcases o3.1 hi with r | r
  ·have:=h.c hmu i r
   rcases hp.is with e2 | e2
   ·rw [e2];exact this
   ·rw [e2];exact o3.2 (.inl this)
  ·rw [s9.1 r];exact hp.has e
theorem yH(hk:Gk H){w:World}(hw:WM H w rs wk false){i:Nat}{z:Zl}(hz:H.Z[i]?=some z)(hx:Vf H.L x)(hpl:PlT H.L z.1.2) :
  Calls Tryz.prog 27 #[.pointer (some ⟨H.b,0,none⟩),.int .i64 (i:Int),.agg (cfA x)] w (EnP H w rs wk false w.heap.size (Mt H.L z.1.2 x)):=by
 have B0:Hid (Below w.heap.size w (w.alloc (.cells (cfA x) 69))):=bz9
 have X0:Hid (BoxC (w.alloc (.cells (cfA x) 69)) w.heap.size x):=aD w _
 have W0:=aA (hw.below B0.out)
 have hil:=(m8.1 hz).1
 have iil:(i:Int)<(H.Z.length:Int):=by omega
 have hlen:=hk.len
 have hsm:=hk.sm
 have HZ:=aA hz
 have HX:=aA hx
 have HPL:=aA hpl
 have PC:=aA (fun (V:World) (rs':List (Option Nat)) (wk':Int) (mu':Bool) (h:WM H V rs' wk' mu')=>rC hk z.1.2.sz i x.p z V rs' wk' mu' hz lz9 hpl hx.p h)
 have HMP:Hid (∀ y,Mt H.L z.1.2 x y↔y.g=x.g/\Pz H.L z.1.2 x.p y.p):=fun y=>uO hpl x y
 have HLE:Hid (∀ j,Pz H.L z.1.2 x.p j->j<=H.L.s.size):=fun j h=>(bE3 hpl hx.p h).2
 have HPB:Hid (plB H.L z.1.2=true):=aA (by unfold plB;simpa using hpl)
 have HBS:Hid (H.base<=w.heap.size):=aA (aBC (aBA hw.bb hw.b_lt))
 clear hw hk hz hx hpl
 go_enter Tryz.func27,Tryz.ntmps27
 go_upto_region 1 with fail
 generalize (w.alloc (.cells (cfA x) 69))=w1 at B0 X0 W0 ⊢
 have E1:Hid (ES H w rs wk false w1 rs wk false):=⟨W0.out,Grw.refl _ _,Fr.of_below B0.out,fun e=>(by cases e),fun _=>aAW _⟩
 have c0:=W0.out.cell (i:=0) rfl
 have c14:=W0.out.cell (i:=14) rfl
 have c17:=W0.out.cell (i:=17) (v:=.bool false) rfl
 have y0:=W0.out.z.cells HZ.out (j:=0) (v:=.int .i64 z.1.2.f.k) rfl
 have y1:=W0.out.z.cells HZ.out (j:=1) (v:=.int .i64 z.1.2.f.n) rfl
 have y2:=W0.out.z.cells HZ.out (j:=2) (v:=.int .i64 z.1.2.f.mn) rfl
 have y3:=W0.out.z.cells HZ.out (j:=3) (v:=.int .i64 z.1.2.f.mx) rfl
 have y4:=W0.out.z.cells HZ.out (j:=4) (v:=.slice z.1.2.f.rq z.1.2.f.rs.length z.1.2.f.rc) rfl
 have y5:=W0.out.z.cells HZ.out (j:=5) (v:=.slice z.1.2.f.kq z.1.2.f.kl z.1.2.f.kc) rfl
 rw [aAJ] at y0
 go_upto_region 5 with fail
 have B2:Hid (Below w1.heap.size w1 (w1.alloc (.cells #[.int .i64 z.1.2.f.k,.int .i64 z.1.2.f.n,.int .i64 z.1.2.f.mn,.int .i64 z.1.2.f.mx,.slice z.1.2.f.rq z.1.2.f.rs.length z.1.2.f.rc,.slice z.1.2.f.kq z.1.2.f.kl z.1.2.f.kc] 25))):=bz9
 have E2:=aA (E1.out.below B2.out)
 have X2:=aA (X0.out.kept B2.out)
 generalize (w1.alloc (.cells #[.int .i64 z.1.2.f.k,.int .i64 z.1.2.f.n,.int .i64 z.1.2.f.mn,.int .i64 z.1.2.f.mx,.slice z.1.2.f.rq z.1.2.f.rs.length z.1.2.f.rc,.slice z.1.2.f.kq z.1.2.f.kl z.1.2.f.kc] 25))=w2 at B2 E2 X2 ⊢
 have d14:=E2.out.wm.cell (i:=14) rfl
 have p0:w2.cell? ⟨H.pb,i,none⟩=some (.bool true):=by
  have:=aP E2.out.wm.pl (j:=i) (u:=.bool (plB H.L z.1.2)) (by simp [HZ.out])
  rw [this,HPB.out]
 clear c0 c14 c17 y0 y1 y2 y3 y4 y5
 have xp:=X2.out.p
 have PW:=aA (PC.out w2 rs wk false E2.out.wm)
 go_upto_region 8 with (go_at_call 50;(with_reducible refine(PW.out).mono ?_);rintro e w3 ⟨lq,lc,m,rs3,rfl,h31,h32,h33,h34,h35⟩;have L3:=aA h31;have M3:=aA h32;have E3:=aA (E2.out.then h33 h34 h35 (fun _ e=>e.elim) (fun e=>e) (fun _=>aAW _));have X3:Hid (BoxC w3 w.heap.size x):=(fR E2.out.wm h35 X2.out ⟨by decide,by decide,by decide⟩ (fun e=>e));clear h31 h32 h33 h34 h35)
 clear d14 p0 xp
 have hml:m.length<=1001:=by
  have key:∀ (l:List Nat) (n b:Nat),l.Pairwise (· < ·)->(∀ j∈l,b<=j/\j<b+n)->l.length<=n:=by
   intro l
   induction l with
   | nil=>intro n b _ _;simp
   | cons y l ih=>
    intro n b hpw hm
    obtain⟨n',rfl⟩:∃ n',n=n'+1:=⟨n-1,by have:=hm y (by simp);omega⟩
    have:=ih n' (b+1) (aAT.1 hpw).2 (fun j hj=>by
     have h3:=(aAT.1 hpw).1 j hj
     have h4:=hm y (by simp)
     have h5:=hm j (by simp [hj])
     omega)
    simp
    omega
  have:=key m (H.L.s.size+1) 0 M3.out.2 (fun j hj=>by have:=HLE.out j ((M3.out.1 j).1 hj);omega)
  omega
 have I3:Hid (EI12 H w rs wk x lq lc m 0 none 0 [] rs3 wk false w3):=⟨E3.out,X3.out,L3.out,CR12.nil _ _,by simp,fun _=>by simpa using (E3.out.wm.wk rfl).1,fun y hy=>(by cases hy),fun _ j hj=>by rw [aAL] at hj;cases hj⟩
 clear E3 X3 L3
 go_loopw [7,10] (fun ov kv wr=>∃ (k:Nat) (q:Option Addr) (c:Nat) (out:List Cf) (rs':List (Option Nat)) (wk':Int) (mu':Bool),k<=m.length/\ov=.slice q out.length c/\kv=.int .i64 (k:Int)/\EI12 H w rs wk x lq lc m k q c out rs' wk' mu' wr) (fun _ kv _=>m.length-(intOf kv).toNat)
 case atStart=>exact⟨0,none,0,[],rs3,wk,false,o9 _,rfl,rfl,I3.out⟩
 case round=>
  obtain⟨k,q,c,out,rs4,wk4,mu4,hk4,rfl,rfl,hi4⟩:=hrel
  have I4:=aA hi4
  clear hi4 I3
  by_cases hkl:k<m.length
  ·have i0:(k:Int)<(m.length:Int):=by omega
   have hw3:IntKind.wrap .i64 ((k:Int)+1)=(k:Int)+1:=wrap_small _ (by omega) (by omega)
   obtain⟨j,hj⟩:∃ j,m[k]?=some j:=⟨_,g9 hkl⟩
   have HJ:=aA hj
   obtain⟨gl,rfl,gl1,gl2,gl3⟩:=I4.out.ll.at (by omega)
   have RX:=aA I4.out.bx.get
   clear hj
   go_upto_region 11 with first
    |((with_reducible refine fF ?_);refine bN rfl _ rfl w.heap.size 0 rfl x RX.out ?_)
    |((with_reducible refine yM ?_);refine kZ rfl _ _ rfl wr.heap.size x rfl rfl (aD _ _) rfl ?_;intro w5 hb5 hf5;have X5:=aA hb5;have B5:Hid (Below wr.heap.size wr w5):=bB ((Below.refl _ wr).alloc lz9 _) hf5 lz9 (fun k e=>by omega);clear hb5 hf5)
   have I5:=aA (I4.out.below B5.out)
   have lj:=I5.out.ll.cell HJ.out
   have xp:=X5.out.p
   have xf:=X5.out.frz 0
   have hnb:gl≠wr.heap.size:=by omega
   go_upto_region 12 with fail
   have X6:=aA (X5.out.setp j)
   have B6:Hid (Below wr.heap.size wr (w5.setCell ⟨wr.heap.size,0,none⟩ (.int .i64 (j:Int)))):=(Fr.of_below (S:=fun _=>False) B5.out).setNew (p:=⟨wr.heap.size,0,none⟩) lz9 _ |>.below lz9 (fun _ q=>q.elim)
   generalize (w5.setCell ⟨wr.heap.size,0,none⟩ (.int .i64 (j:Int)))=w6 at X6 B6 ⊢
   have I6:=aA (I4.out.below B6.out)
   clear lj xp xf I5 X5 B5
   have RX6:=aA X6.out.get
   have hxg:Hid ((⟨j,x.g⟩:Cf).g.length=10):=aA HX.out.g
   have hten:Hid (Ten out):=fun y hy=>by rw [(I6.out.s y hy).1];exact HX.out.g
   have PU:=aA (gF (x:=⟨j,x.g⟩) I6.out.es.wm I6.out.cr (Nat.succ_le_of_lt (aC I6.out.bx)) (aBL HBS.out) hten.out hxg.out I6.out.n I6.out.nw)
   go_upto_region 9 with first
    |((with_reducible refine fF ?_);refine bN rfl _ rfl wr.heap.size 0 rfl ⟨j,x.g⟩ RX6.out ?_)
    |(go_at_call 51;(with_reducible refine(PU.out).mono ?_);rintro e w7 ⟨q7,c7,l7,wk7,mu7,rfl,hp7⟩;have I7:=aA (I6.out.put HJ.out hp7);clear hp7)
   go_wp2
   go_roundw
   case rel=>exact⟨k+1,q7,c7,l7,rs4,wk7,mu7,by omega,rfl,by go_num,I7.out⟩
   case measure=>simp only [intOf];omega
  ·have i0:¬ (k:Int)<(m.length:Int):=by omega
   have HT:Hid (m.take k=m):=aA (o4 (by omega))
   go_wp2
   go_ret
   refine⟨q,c,out,rs4,wk4,mu4,rfl,bI I4.out.cr (aCA _),aBL I4.out.n,fun y hy=>?_,fun e y hy=>?_,I4.out.es⟩
   ·have:=I4.out.s y hy
    rw [HT.out,M3.out.1] at this
    exact(HMP.out y).2 this
   ·have h1:=(HMP.out y).1 hy
    have h2:=I4.out.c e y.p (by rw [HT.out,M3.out.1];exact h1.2)
    obtain⟨yp,yg⟩:=y
    have h3:yg=x.g:=h1.1
    rw [h3]
    exact h2
end
section
attribute [local go_sem] Oper.semAt_some
variable {H:Gh} {V V':World} {rs rs' rs'':List (Option Nat)} {wk wk':Int} {mu mu' mu'':Bool}
def ArgC(V:World)(q:Option Addr)(l:List Cf):Prop:=∀ (i:Nat) (y:Cf),l[i]?=some y->∃ g o,q=some ⟨g,o,none⟩/\(∃ cs,V.heap[g]?=some (.cells cs 69 (0,0)))/\V.rangeAt g (o+i*21) (cfC y)
theorem xA{g o:Nat}{cs:List Value}(h:V.rangeAt g o cs)(e:V'.heap[g]?=V.heap[g]?):V'.rangeAt g o cs:=fun j v hv=>by
 have:=h j v hv
 unfold World.cell? at this ⊢
 rw [e]
 exact this
theorem ArgC.same{q:Option Addr}{l:List Cf}(h:ArgC V q l)(he:∀ g o cs,q=some ⟨g,o,none⟩->V.heap[g]?=some (.cells cs 69 (0,0))->V'.heap[g]?=V.heap[g]?):ArgC V' q l:=fun i y hy=>by
 obtain⟨g,o,h1,⟨cs,h2⟩,h3⟩:=h i y hy
 have e:=he g o cs h1 h2
 exact⟨g,o,h1,⟨cs,e.trans h2⟩,xA h3 e⟩
theorem CR12.arg{base:Nat}{q:Option Addr}{c:Nat}{l:List Cf}(h:CR12 base V q c l):ArgC V q l:=fun i y hy=>by
 obtain⟨g,rfl,h1,h2,h3⟩:=h.at (by have:=(m8.1 hy).1;omega)
 exact⟨g,0,rfl,h3,by rw [m7];exact h.get hy⟩
variable {w:World} {q oq oq' mq:Option Addr} {oc oc' k j mc:Nat} {l out out' m:List Cf} {R:Cf->Cf->Prop} {F:Cf->Prop}
theorem ArgC.es(h:ArgC w q l)(hw:WM H w rs wk mu'')(he:ES H w rs wk mu V rs' wk' mu'):ArgC V q l:=h.same fun g o cs _ hc=>by
 have:=fR hw he.f hc ⟨by decide,by decide,by decide⟩ (fun e=>e)
 rw [this,hc]
structure EA12(H:Gh)(w:World)(rs:List (Option Nat))(wk:Int)(mu:Bool)(l:List Cf)(R:Cf->Cf->Prop)(k:Nat)(oq:Option Addr)(oc:Nat)(out:List Cf)(rs':List (Option Nat))(wk':Int)(mu':Bool)(V:World):Prop where
 es:ES H w rs wk mu V rs' wk' mu'
 cr:CR12 w.heap.size V oq oc out
 n:out.length<=20000
 nw:mu'=false->(out.length:Int)<=wk'
 s:∀ y∈out,∃ x∈l.take k,R x y
 c:mu'=false->∀ x∈l.take k,∀ y,R x y->y∈out
structure EB12(H:Gh)(w:World)(rs:List (Option Nat))(wk:Int)(mu:Bool)(l:List Cf)(R:Cf->Cf->Prop)(k:Nat)(F:Cf->Prop)(mq:Option Addr)(mc:Nat)(m:List Cf)(j:Nat)(oq:Option Addr)(oc:Nat)(out:List Cf)(rs':List (Option Nat))(wk':Int)(mu':Bool)(V:World):Prop where
 es:ES H w rs wk mu V rs' wk' mu'
 cr:CR12 w.heap.size V oq oc out
 ml:CR12 w.heap.size V mq mc m
 ap:∀ g,(Value.slice mq m.length mc).ownBlock=some g->(Value.slice oq out.length oc).ownBlock≠some g
 n:out.length<=20000
 nw:mu'=false->(out.length:Int)<=wk'
 s:∀ y∈out,(∃ x∈l.take k,R x y)\/(y∈m.take j/\F y)
 c:mu'=false->(∀ x∈l.take k,∀ y,R x y->y∈out)/\∀ y∈m.take j,F y->y∈out
theorem EB12.below(h:EB12 H w rs wk mu l R k F mq mc m j oq oc out rs' wk' mu' V)(hb:Below V.heap.size V V'):EB12 H w rs wk mu l R k F mq mc m j oq oc out rs' wk' mu' V':=
 ⟨h.es.below hb,h.cr.kept hb,h.ml.kept hb,h.ap,h.n,h.nw,h.s,h.c⟩
theorem EB12.put{y:Cf}{wk2:Int}{mu2:Bool}(h:EB12 H w rs wk mu l R k F mq mc m j oq oc out rs' wk' mu' V)(hy:m[j]?=some y)(hF:F y)(hp:PuI H V rs' wk' mu' w.heap.size oq oc out y oq' oc' out' wk2 mu2 V'):EB12 H w rs wk mu l R k F mq mc m (j+1) oq' oc' out' rs' wk2 mu2 V':=by
 have ht:m.take (j+1)=m.take j++[y]:=by rw [s7,hy];rfl
 have hsub:∀ z∈out,z∈out':=fun z hz=>by
  rcases hp.is with e | e
  ·rw [e];exact hz
  ·rw [e];exact o3.2 (.inl hz)
 refine⟨h.es.put h.cr lz9 hp,hp.cr,?_,fun g hg e=>?_,hp.n,hp.nw,fun z hz=>?_,fun e=>?_⟩
 ·refine aH h.ml hp.f (fun g hg e=>?_)
  rcases e with e | e
  ·obtain⟨-,-,cur,hc⟩:=aF h.ml hg
   exact bD hc h.es.wm.hd (by decide) e
  ·exact h.ap g hg e
 ·rcases hp.mv with r | r | ⟨g',r1,r2⟩
  ·rw [r] at e;exact h.ap g hg e
  ·rw [r] at e;cases e
  ·rw [r2] at e
   have:=(aF h.ml hg).2.1
   have:=aAE e
   omega
 ·rw [ht]
  have old:z∈out->(∃ x∈l.take k,R x z)\/(z∈m.take j++[y]/\F z):=fun q=>(h.s z q).imp id fun r=>⟨o3.2 (.inl r.1),r.2⟩
  rcases hp.is with e | e
  ·rw [e] at hz;exact old hz
  ·rw [e] at hz
   rcases o3.1 hz with r | r
   ·exact old r
   ·rw [s9.1 r];exact .inr ⟨by simp,hF⟩
 ·have hmu:mu'=false:=by
   cases h2:mu' with
   | false=>rfl
   | true=>have:=hp.mo h2;rw [e] at this;cases this
  obtain⟨c1,c2⟩:=h.c hmu
  refine⟨fun x hx z hz=>hsub z (c1 x hx z hz),fun z hz hz2=>?_⟩
  rw [ht] at hz
  rcases o3.1 hz with r | r
  ·exact hsub z (c2 z r hz2)
  ·rw [s9.1 r];exact hp.has e
theorem EB12.skip{y:Cf}(h:EB12 H w rs wk mu l R k F mq mc m j oq oc out rs' wk' mu' V)(hy:m[j]?=some y)(hF:¬ F y):EB12 H w rs wk mu l R k F mq mc m (j+1) oq oc out rs' wk' mu' V:=by
 have ht:m.take (j+1)=m.take j++[y]:=by rw [s7,hy];rfl
 refine⟨h.es,h.cr,h.ml,h.ap,h.n,h.nw,fun z hz=>(h.s z hz).imp id fun r=>⟨by rw [ht];exact o3.2 (.inl r.1),r.2⟩,fun e=>⟨(h.c e).1,fun z hz hz2=>?_⟩⟩
 rw [ht] at hz
 rcases o3.1 hz with r | r
 ·exact(h.c e).2 z r hz2
 ·rw [s9.1 r] at hz2;exact absurd hz2 hF
theorem EA12.into{rs2:List (Option Nat)}{wk2:Int}{mu2:Bool}(h:EA12 H w rs wk mu l R k oq oc out rs' wk' mu' V)(he:ES H V rs' wk' mu' V' rs2 wk2 mu2)(hm:CR12 V.heap.size V' mq mc m):EB12 H w rs wk mu l R k F mq mc m 0 oq oc out rs2 wk2 mu2 V':=by
 have hmu:mu2=false->mu'=false:=fun e=>by
  cases h2:mu' with
  | false=>rfl
  | true=>have:=he.mo h2;rw [e] at this;cases this
 refine⟨h.es.then he.wm he.g he.f (fun _ e=>e.elim) he.mo he.wkm,?_,bI hm h.es.f.size,fun g hg e=>?_,h.n,fun e=>Int.le_trans (h.nw (hmu e)) (he.wkm e),fun y hy=>.inl (h.s y hy),fun e=>⟨h.c (hmu e),fun y hy=>by rw [aAL] at hy;cases hy⟩⟩
 ·exact cT h.cr h.es.wm he.f (fun _ _ e=>e) ⟨by decide,by decide,by decide⟩
 ·have h1:=(aF hm hg).1
  have h2:=(aF h.cr e).2.1
  omega
end
section
attribute [local go_sem] Oper.semAt_some aU
variable {H:Gh} {V V':World} {rs rs' rs'':List (Option Nat)} {wk wk':Int} {mu mu' mu'':Bool}
def Rf(L:Ln)(t:Tr)(fu:Bool)(x y:Cf):Prop:=Mt L t x y/\fuP fu x.p y.p
theorem bP5{b o:Nat}{x:Cf}(h:V.rangeAt b o (cfC x)):V.cell? ⟨b,o,none⟩=some (.int .i64 (x.p:Int)):=by
 have:=h 0 (.int .i64 (x.p:Int)) rfl
 simpa using this
theorem vL{n:Nat}(hE:EnC H n){w:World}(hw:WM H w rs wk mu){i:Nat}{z:Zl}(hz:H.Z[i]?=some z)(hn:z.1.2.sz<=n){q:Option Addr}{c:Nat}{l:List Cf}(ha:ArgC w q l)(hq:∀ x∈l,Vf H.L x)(hl:l.length<=20001)(fu:Bool) :
  Calls Tryz.prog 53 #[.pointer (some ⟨H.b,0,none⟩),.slice q l.length c,.int .i64 (i:Int),.bool fu] w (EnP H w rs wk mu w.heap.size (fun y=>∃ x∈l,Rf H.L z.1.2 fu x y)):=by
 have HW:=aA hw
 have HA:=aA ha
 have HQ:=aA hq
 have HEC:=aA (fun (x:Cf) (V:World) (rs':List (Option Nat)) (wk':Int) (mu':Bool) (hx:Vf H.L x) (h:WM H V rs' wk' mu')=>hE i x z V rs' wk' mu' hz hn hx h)
 have HBS:Hid (H.base<=w.heap.size):=aA (aBC (aBA hw.bb hw.b_lt))
 have A0:Hid (EA12 H w rs wk mu l (Rf H.L z.1.2 fu) 0 none 0 [] rs wk mu w):=⟨ES.refl hw,CR12.nil _ _,by simp,fun e=>by simpa using (hw.wk e).1,fun y hy=>(by cases hy),fun _ x hx=>by rw [aAL] at hx;cases hx⟩
 clear hE hw hz hn ha hq
 go_enter Tryz.func53,Tryz.ntmps53
 go_upto_region 3 with fail
 go_loopw [9,10] (fun ov kv wr=>∃ (k:Nat) (oq:Option Addr) (oc:Nat) (out:List Cf) (rs':List (Option Nat)) (wk':Int) (mu':Bool),k<=l.length/\ov=.slice oq out.length oc/\kv=.int .i64 (k:Int)/\EA12 H w rs wk mu l (Rf H.L z.1.2 fu) k oq oc out rs' wk' mu' wr) (fun _ kv _=>l.length-(intOf kv).toNat)
 case atStart=>exact⟨0,none,0,[],rs,wk,mu,o9 _,rfl,rfl,A0.out⟩
 case round=>
  obtain⟨k,oq,oc,out,rs4,wk4,mu4,hk4,rfl,rfl,ha4⟩:=hrel
  have A4:=aA ha4
  clear ha4 A0
  have c17:=A4.out.es.wm.cell (i:=17) (v:=.bool mu4) rfl
  have DONE:Hid ((mu4=false->k=l.length)->EnP H w rs wk mu w.heap.size (fun y=>∃ x∈l,Rf H.L z.1.2 fu x y) (.returned (.slice oq out.length oc)) wr):=fun h=>by
   refine⟨oq,oc,out,rs4,wk4,mu4,rfl,A4.out.cr,aBL A4.out.n,fun y hy=>?_,fun e y hy=>?_,A4.out.es⟩
   ·obtain⟨x,hx,h⟩:=A4.out.s y hy
    exact⟨x,aAS hx,h⟩
   ·obtain⟨x,hx,h2⟩:=hy
    refine A4.out.c e x ?_ y h2
    rw [h e,o4 lz9]
    exact hx
  by_cases hkl:k<l.length
  ·have i0:(k:Int)<(l.length:Int):=by omega
   have hw3:IntKind.wrap .i64 ((k:Int)+1)=(k:Int)+1:=wrap_small _ (by omega) (by omega)
   cases mu4 with
   | true=>
    have D:=aA (DONE.out (fun e=>by cases e))
    clear DONE
    go_wp2
    go_ret
    exact D.out
   | false=>
    clear DONE
    obtain⟨x,hx⟩:∃ x,l[k]?=some x:=⟨_,g9 hkl⟩
    have HX:=aA hx
    obtain⟨g,o,hqq,hgb,hrg⟩:=(HA.out.es HW.out A4.out.es) k x hx
    have RX:=aA hrg
    have HQ2:=aA hqq
    have EC:=aA (HEC.out x wr rs4 wk4 false (HQ.out x (n8 hx)) A4.out.es.wm)
    clear hx hgb hrg
    subst hqq
    go_upto_region 7 with first
     |((with_reducible refine fF ?_);refine bN rfl _ rfl g (o+k*21) rfl x RX.out ?_)
     |(go_at_call 27;(with_reducible refine(EC.out).mono ?_);rintro e w5 ⟨mq,mc,m,rs5,wk5,mu5,rfl,h51,h52,h53,h54,h55⟩;have I5:=aA (A4.out.into (F:=fun y=>fuP fu x.p y.p) h55 h51);have hml:=h52;have MS:=aA h53;have MC:=aA h54;clear h51 h52 h53 h54 h55)
    have HTK:Hid (l.take (k+1)=l.take k++[x]):=aA (by rw [s7,HX.out];rfl)
    clear c17 A4
    go_loopw [9,12] (fun ov jv wr=>∃ (j:Nat) (oq:Option Addr) (oc:Nat) (out:List Cf) (rs':List (Option Nat)) (wk':Int) (mu':Bool),j<=m.length/\ov=.slice oq out.length oc/\jv=.int .i64 (j:Int)/\(mu'=false->mu5=false)/\EB12 H w rs wk mu l (Rf H.L z.1.2 fu) k (fun y=>fuP fu x.p y.p) mq mc m j oq oc out rs' wk' mu' wr) (fun _ jv _=>m.length-(intOf jv).toNat)
    case atStart=>exact⟨0,oq,oc,out,rs5,wk5,mu5,o9 _,rfl,rfl,fun e=>e,I5.out⟩
    case round=>
     obtain⟨j,oq6,oc6,out6,rs6,wk6,mu6,hj6,rfl,rfl,hm6,hb6⟩:=hrel
     have I6:=aA hb6
     have HM6:=aA hm6
     clear hb6 I5 hm6
     by_cases hjl:j<m.length
     ·have i1:(j:Int)<(m.length:Int):=by omega
      have hw4:IntKind.wrap .i64 ((j:Int)+1)=(j:Int)+1:=wrap_small _ (by omega) (by omega)
      obtain⟨y,hy⟩:∃ y,m[j]?=some y:=⟨_,g9 hjl⟩
      have HY:=aA hy
      obtain⟨gm,rfl,gm1,gm2,gm3⟩:=I6.out.ml.at (by omega)
      have RY:=aA (I6.out.ml.get hy)
      have HYG:Hid (y.g.length=10):=aA (dV z.1.2 x y (MS.out y (n8 hy)) (HQ.out x (n8 HX.out))).1.g
      have hten:Hid (Ten out6):=fun v hv=>by
       rcases I6.out.s v hv with⟨x',hx',h⟩ | h
       ·exact(dV z.1.2 x' v h.1 (HQ.out x' (aAS hx'))).1.g
       ·exact(dV z.1.2 x v (MS.out v (aAS h.1)) (HQ.out x (n8 HX.out))).1.g
      have yp:=bP5 RY.out
      obtain⟨g',o',hq',⟨cs',hcs'⟩,hrg'⟩:=(HA.out.es HW.out I6.out.es) k x HX.out
      injection hq' with hq1
      injection hq1 with hq2 hq3
      subst hq2 hq3
      have xp:=bP5 hrg'
      have lg:=aC hcs'
      clear hy hrg' hcs'
      go_upto_region 9 with fail
      cases fu with
      | false=>
       have HF:Hid (fuP false x.p y.p):=fun e=>by cases e
       refine wx9 ?_
       repeat (go_big_quiet_step (first | exact rfl))
       refine wpQuiet_nil ?_
       intro w7 hw7
       have B7:=aA (aM hw7)
       clear hw7 yp xp
       have I7:=aA (I6.out.below B7.out)
       have RY7:=aA (I7.out.ml.get HY.out)
       have PU:=aA (gF I7.out.es.wm I7.out.cr (o0 I7.out.es.f.size lz9) HBS.out hten.out HYG.out I7.out.n I7.out.nw)
       go_upto_region 8 with first
        |((with_reducible refine fF ?_);refine bN rfl _ rfl gm (j*21) rfl y RY7.out ?_)
        |(go_at_call 51;(with_reducible refine(PU.out).mono ?_);rintro e w8 ⟨q8,c8,l8,wk8,mu8,rfl,hp8⟩;have M8:Hid (mu8=false->mu5=false):=fun e=>HM6.out (by cases h2:mu6 with | false=>rfl | true=>have:=hp8.mo h2;rw [e] at this;cases this);have I8:=aA (I7.out.put HY.out HF.out hp8);clear hp8)
       go_wp2
       go_roundw
       case rel=>exact⟨j+1,q8,c8,l8,rs6,wk8,mu8,by omega,rfl,by go_num,M8.out,I8.out⟩
       case measure=>simp only [intOf];omega
      | true=>
       by_cases hxy:x.p<y.p
       ·have j0:(x.p:Int)<(y.p:Int):=by omega
        have HF:Hid (fuP true x.p y.p):=fun _=>hxy
        clear hxy
        refine wx9 ?_
        repeat (go_big_quiet_step (first | exact rfl))
        refine wpQuiet_nil ?_
        intro w7 hw7
        have B7:=aA (aM hw7)
        clear hw7 yp xp
        have I7:=aA (I6.out.below B7.out)
        have RY7:=aA (I7.out.ml.get HY.out)
        have PU:=aA (gF I7.out.es.wm I7.out.cr (o0 I7.out.es.f.size lz9) HBS.out hten.out HYG.out I7.out.n I7.out.nw)
        go_upto_region 8 with first
         |((with_reducible refine fF ?_);refine bN rfl _ rfl gm (j*21) rfl y RY7.out ?_)
         |(go_at_call 51;(with_reducible refine(PU.out).mono ?_);rintro e w8 ⟨q8,c8,l8,wk8,mu8,rfl,hp8⟩;have M8:Hid (mu8=false->mu5=false):=fun e=>HM6.out (by cases h2:mu6 with | false=>rfl | true=>have:=hp8.mo h2;rw [e] at this;cases this);have I8:=aA (I7.out.put HY.out HF.out hp8);clear hp8)
        go_wp2
        go_roundw
        case rel=>exact⟨j+1,q8,c8,l8,rs6,wk8,mu8,by omega,rfl,by go_num,M8.out,I8.out⟩
        case measure=>simp only [intOf];omega
       ·have j0:¬ (x.p:Int)<(y.p:Int):=by omega
        have HF:Hid (¬ fuP true x.p y.p):=fun h=>hxy (h rfl)
        clear hxy
        refine wx9 ?_
        repeat (go_big_quiet_step (first | exact rfl))
        refine wpQuiet_nil ?_
        intro w7 hw7
        have B7:=aA (aM hw7)
        clear hw7 yp xp
        have I7:=aA (I6.out.below B7.out)
        have I8:=aA (I7.out.skip HY.out HF.out)
        go_wp2
        go_roundw
        case rel=>exact⟨j+1,oq6,oc6,out6,rs6,wk6,mu6,by omega,rfl,by go_num,HM6.out,I8.out⟩
        case measure=>simp only [intOf];omega
     ·have i1:¬ (j:Int)<(m.length:Int):=by omega
      have HT:Hid (m.take j=m):=aA (o4 (by omega))
      have A7:Hid (EA12 H w rs wk mu l (Rf H.L z.1.2 fu) (k+1) oq6 oc6 out6 rs6 wk6 mu6 wr):=⟨I6.out.es,I6.out.cr,I6.out.n,I6.out.nw,fun y hy=>by
       rw [HTK.out]
       rcases I6.out.s y hy with⟨x',hx',h⟩ | h
       ·exact⟨x',o3.2 (.inl hx'),h⟩
       ·rw [HT.out] at h
        exact⟨x,by simp,MS.out y h.1,h.2⟩,fun e x' hx' y hy=>by
       rw [HTK.out] at hx'
       obtain⟨c1,c2⟩:=I6.out.c e
       rcases o3.1 hx' with r | r
       ·exact c1 x' r y hy
       ·rw [s9.1 r] at hy
        refine c2 y ?_ hy.2
        rw [HT.out]
        exact MC.out (HM6.out e) y hy.1⟩
      go_wp2
      go_roundw
      case rel=>exact⟨k+1,oq6,oc6,out6,rs6,wk6,mu6,by omega,rfl,by go_num,A7.out⟩
      case measure=>simp only [intOf];omega
  ·have i0:¬ (k:Int)<(l.length:Int):=by omega
   have D:=aA (DONE.out (fun _=>by omega))
   clear DONE
   go_wp2
   go_ret
   exact D.out
end
section
attribute [local go_sem] Oper.semAt_some
variable {H:Gh} {V V':World} {rs rs' rs'':List (Option Nat)} {wk wk':Int} {mu mu' mu'':Bool} {x:Cf}
theorem aS3{n:Nat}(hE:EnC H n)(hk:Gk H){w:World}(hw:WM H w rs wk false){i:Nat}{z:Zl}(hz:H.Z[i]?=some z)(hn:z.1.2.sz<=n+1)(hx:Vf H.L x)(hpl:¬ PlT H.L z.1.2)(hkd:z.1.2.f.k=6) :
  Calls Tryz.prog 27 #[.pointer (some ⟨H.b,0,none⟩),.int .i64 (i:Int),.agg (cfA x)] w (EnP H w rs wk false w.heap.size (Mt H.L z.1.2 x)):=by
 have HKD:=aA hkd
 have HEC:=aA hE
 have HSZ:=aA hn
 have HK:=aA hk
 have B0:Hid (Below w.heap.size w (w.alloc (.cells (cfA x) 69))):=bz9
 have X0:Hid (BoxC (w.alloc (.cells (cfA x) 69)) w.heap.size x):=aD w _
 have W0:=aA (hw.below B0.out)
 have hil:=(m8.1 hz).1
 have iil:(i:Int)<(H.Z.length:Int):=by omega
 have hlen:=hk.len
 have hsm:=hk.sm
 have HZ:=aA hz
 have HX:=aA hx
 have HNP:=aA (((aI z.1.2).1 (hk.npz hz)).1)
 have HPB:Hid (plB H.L z.1.2=false):=aA (by unfold plB;simpa using hpl)
 have HBS:Hid (H.base<=w.heap.size):=aA (aBC (aBA hw.bb hw.b_lt))
 have hk2:z.1.2.ks.length<=2000:=by
  have h1:=eY z.1.2.ks
  have h2:=dA z.1.2
  obtain⟨r,hr⟩:=seg H.t [] i z.1 (hk.at hz)
  have h5:=congrArg List.length hr
  rw [o5,bL,aAR] at h5
  have h4:=congrArg List.length hk.mp
  rw [aAC] at h4
  omega
 clear hw hk hz hx hpl hE hn hkd
 go_enter Tryz.func27,Tryz.ntmps27
 go_upto_region 1 with fail
 generalize (w.alloc (.cells (cfA x) 69))=w1 at B0 X0 W0 ⊢
 have E1:Hid (ES H w rs wk false w1 rs wk false):=⟨W0.out,Grw.refl _ _,Fr.of_below B0.out,fun e=>(by cases e),fun _=>aAW _⟩
 have c0:=W0.out.cell (i:=0) rfl
 have c14:=W0.out.cell (i:=14) rfl
 have c17:=W0.out.cell (i:=17) (v:=.bool false) rfl
 have y0:=W0.out.z.cells HZ.out (j:=0) (v:=.int .i64 z.1.2.f.k) rfl
 have y1:=W0.out.z.cells HZ.out (j:=1) (v:=.int .i64 z.1.2.f.n) rfl
 have y2:=W0.out.z.cells HZ.out (j:=2) (v:=.int .i64 z.1.2.f.mn) rfl
 have y3:=W0.out.z.cells HZ.out (j:=3) (v:=.int .i64 z.1.2.f.mx) rfl
 have y4:=W0.out.z.cells HZ.out (j:=4) (v:=.slice z.1.2.f.rq z.1.2.f.rs.length z.1.2.f.rc) rfl
 have y5:=W0.out.z.cells HZ.out (j:=5) (v:=.slice z.1.2.f.kq z.1.2.f.kl z.1.2.f.kc) rfl
 rw [aAJ] at y0
 go_upto_region 5 with fail
 have B2:Hid (Below w1.heap.size w1 (w1.alloc (.cells #[.int .i64 z.1.2.f.k,.int .i64 z.1.2.f.n,.int .i64 z.1.2.f.mn,.int .i64 z.1.2.f.mx,.slice z.1.2.f.rq z.1.2.f.rs.length z.1.2.f.rc,.slice z.1.2.f.kq z.1.2.f.kl z.1.2.f.kc] 25))):=bz9
 have N2:Hid (BoxN (w1.alloc (.cells #[.int .i64 z.1.2.f.k,.int .i64 z.1.2.f.n,.int .i64 z.1.2.f.mn,.int .i64 z.1.2.f.mx,.slice z.1.2.f.rq z.1.2.f.rs.length z.1.2.f.rc,.slice z.1.2.f.kq z.1.2.f.kl z.1.2.f.kc] 25)) w1.heap.size z.1.2.f):=aD w1 _
 have E2:=aA (E1.out.below B2.out)
 have X2:=aA (X0.out.kept B2.out)
 have HNB:Hid (w.heap.size<w1.heap.size):=aA X0.out.lt
 generalize (w1.alloc (.cells #[.int .i64 z.1.2.f.k,.int .i64 z.1.2.f.n,.int .i64 z.1.2.f.mn,.int .i64 z.1.2.f.mx,.slice z.1.2.f.rq z.1.2.f.rs.length z.1.2.f.rc,.slice z.1.2.f.kq z.1.2.f.kl z.1.2.f.kc] 25))=w2 at B2 E2 X2 N2 ⊢
 clear B2
 generalize w1.heap.size=nb at N2 HNB ⊢
 have d14:=E2.out.wm.cell (i:=14) rfl
 have p0:w2.cell? ⟨H.pb,i,none⟩=some (.bool false):=by
  have:=aP E2.out.wm.pl (j:=i) (u:=.bool (plB H.L z.1.2)) (by simp [HZ.out])
  rw [this,HPB.out]
 clear c0 c14 c17 y0 y1 y2 y3 y4 y5 E1 X0 W0
 obtain⟨n0,n1,n2,n3,n4,n5⟩:=N2.out.six
 simp only [m7] at n1 n2 n3 n4 n5
 have e5:(z.1.2.f.k==5)=false:=by rw [HKD.out];rfl
 have e6:(z.1.2.f.k==6)=true:=by rw [HKD.out];rfl
 have HMT:Hid (∀ y,Mt H.L z.1.2 x y↔MtA H.L z.1.2.ks x y):=fun y=>by rw [cH,if_neg (by have:=HKD.out;omega),if_pos HKD.out]
 have HW2:=aA E2.out.wm
 have KC:=aA (jP HK.out E2.out.wm HZ.out)
 go_upto_region 26 with (go_at_call 52;(with_reducible refine(KC.out).mono ?_);rintro e w3 ⟨kq,kc,rfl,h41,h42⟩;have K3:=aA h41;have B3:=aA h42;clear h41 h42)
 have hkl:(fM i z.1.2.ks).length=z.1.2.ks.length:=dI i z.1.2.ks
 have A3:Hid (EA12 H w2 rs wk false [x] (fun _ y=>MtA H.L (z.1.2.ks.take 0) x y) 1 none 0 [] rs wk false w3):=⟨(ES.refl HW2.out).below B3.out,CR12.nil _ _,by simp,fun _=>by simpa using (HW2.out.wk rfl).1,fun y hy=>(by cases hy),fun _ x' _ y hy=>by rw [aAL,cF] at hy;obtain⟨u,hu,-⟩:=hy;cases hu⟩
 have HBX:Hid (∀ V rs' wk' mu',ES H w2 rs wk false V rs' wk' mu'->BoxC V w.heap.size x):=fun V rs' wk' mu' h=>fR HW2.out h.f X2.out ⟨by decide,by decide,by decide⟩ (fun e=>e)
 have HB2:Hid (H.base<=w2.heap.size):=aA (o0 HBS.out E2.out.f.size)
 rw [hkl]
 clear hkl B3 n0 n1 n2 n3 n4 n5 d14 p0
 go_loopw [7,15] (fun ov jv wr=>∃ (j:Nat) (oq:Option Addr) (oc:Nat) (out:List Cf) (rs':List (Option Nat)) (wk':Int) (mu':Bool),j<=z.1.2.ks.length/\ov=.slice oq out.length oc/\jv=.int .i64 (j:Int)/\EA12 H w2 rs wk false [x] (fun _ y=>MtA H.L (z.1.2.ks.take j) x y) 1 oq oc out rs' wk' mu' wr/\Ls12 w2.heap.size wr kq kc (fM i z.1.2.ks)) (fun _ jv _=>z.1.2.ks.length-(intOf jv).toNat)
 case atStart=>exact⟨0,none,0,[],rs,wk,false,o9 _,rfl,rfl,A3.out,K3.out⟩
 case round=>
  obtain⟨j,oq,oc,out,rs5,wk5,mu5,hj,rfl,rfl,h5,hkl5⟩:=hrel
  have A5:=aA h5
  have K5:=aA hkl5
  clear h5 hkl5 A3
  by_cases hjl:j<z.1.2.ks.length
  ·have i0:(j:Int)<(z.1.2.ks.length:Int):=by omega
   have hw2:IntKind.wrap .i64 ((j:Int)+1)=(j:Int)+1:=wrap_small _ (by omega) (by omega)
   obtain⟨u,hu⟩:∃ u,z.1.2.ks[j]?=some u:=⟨_,g9 hjl⟩
   obtain⟨y,q1,q2,q3'⟩:=HK.out.kid HZ.out hu
   have HSN:Hid (∀ v,MtA H.L (z.1.2.ks.take (j+1)) x v↔MtA H.L (z.1.2.ks.take j) x v\/Mt H.L y.1.2 x v):=fun v=>by rw [q2,s7,hu,aBH,uQ]
   obtain⟨gk,rfl,gk1,gk2,gk3⟩:=K5.out.at (by rw [dI];omega)
   have HKP:=aA (iA (i:=i) hjl)
   have DR:=aA ((Below.refl wr.heap.size wr).drew)
   have A6:Hid (EA12 H w2 rs wk false [x] (fun _ y=>MtA H.L (z.1.2.ks.take j) x y) 1 oq oc out rs5 wk5 mu5 wr.drew):=⟨A5.out.es.below DR.out,A5.out.cr.kept DR.out,A5.out.n,A5.out.nw,A5.out.s,A5.out.c⟩
   have EC:=aA (HEC.out _ x y wr.drew rs5 wk5 mu5 q1 (by rw [q2];have:=bW (n8 hu);have:=HSZ.out;omega) HX.out A6.out.es.wm)
   have hkpl:i+1+szs (z.1.2.ks.take j)<2000:=by have:=(m8.1 q1).1;omega
   have K6:=aA (K5.out.kept DR.out)
   have x0:=K6.out.cell HKP.out
   have RX:=aA (HBX.out _ _ _ _ A6.out.es).get
   generalize i+1+szs (z.1.2.ks.take j)=kp at x0 EC hkpl HKP
   clear q1 q2 q3' hu
   go_upto_region 28 with fail
   refine wp_region_held_drew (S:=fun w'=>w'.cell? ⟨gk,j,none⟩=some (.int .i64 (kp:Int))/\w'.rangeAt w.heap.size 0 (cfC x)) (by kernel_rfl) ⟨x0,RX.out⟩ ?_
   intro hS0
   refine wpAnyH_take (i:=0) (oi:=_) (v:=?_) rfl (by kernel_rfl) (by kernel_rfl) (by kernel_rfl) (fun _ _ _ h=>h) (Or.inl ⟨by rfl,?_⟩) (by assumption) ?_
   rotate_left
   ·intro wz hSw
    obtain⟨hs1,hs2⟩:=hSw
    go_simp
    try with_reducible rfl
   dsimp only [Act.put,i7,g7,g8]
   simp only [f8,i8,i9]
   refine wpAnyH_take (i:=1) (oi:=_) (v:=?_) rfl (by kernel_rfl) (by kernel_rfl) (by kernel_rfl) (fun _ _ _ h=>h) (Or.inl ⟨by rfl,?_⟩) (by assumption) ?_
   rotate_left
   ·intro wz hSw
    obtain⟨hs1,hs2⟩:=hSw
    go_simp
    try with_reducible rfl
   dsimp only [Act.put,i7,g7,g8]
   simp only [f8,i8,i9]
   refine wpAnyH_take (i:=2) (oi:=_) (v:=?_) rfl (by kernel_rfl) (by kernel_rfl) (by kernel_rfl) (fun _ _ _ h=>h) (Or.inl ⟨by rfl,?_⟩) (by assumption) ?_
   rotate_left
   ·intro wz hSw
    obtain⟨hs1,hs2⟩:=hSw
    go_simp
    try with_reducible rfl
   dsimp only [Act.put,i7,g7,g8]
   simp only [f8,i8,i9]
   refine wpAnyH_take (i:=3) (oi:=_) (v:=?_) rfl (by kernel_rfl) (by kernel_rfl) (by kernel_rfl) (fun _ _ _ h=>h) (Or.inl ⟨by rfl,?_⟩) (by assumption) ?_
   rotate_left
   ·intro wz hSw
    obtain⟨hs1,hs2⟩:=hSw
    go_simp
    try with_reducible rfl
   dsimp only [Act.put,i7,g7,g8]
   simp only [f8,i8,i9]
   refine wpAnyH_take (i:=4) (oi:=_) (v:=?_) rfl (by kernel_rfl) (by kernel_rfl) (by kernel_rfl) (fun _ _ _ h=>h) (Or.inl ⟨by rfl,?_⟩) (by assumption) ?_
   rotate_left
   ·intro wz hSw
    obtain⟨hs1,hs2⟩:=hSw
    go_simp
    try with_reducible rfl
   dsimp only [Act.put,i7,g7,g8]
   simp only [f8,i8,i9]
   refine wpAnyH_take (i:=5) (oi:=_) (v:=_) rfl (by kernel_rfl) (by kernel_rfl) (by kernel_rfl) (fun _ _ _ h=>h) (jE (by rfl) _ rfl w.heap.size 0 rfl x (fun w h=>h.2)) (by assumption) ?_
   dsimp only [Act.put,i7,g7,g8]
   simp only [f8,i8,i9]
   refine wpAnyH_ready (rs:=[6]) (by kernel_rfl) (by simp) ?_
   refine AllReadyH.cons rfl (fun K hK=>?_) AllReadyH.nil
   go_simp
   go_at_call 27
   refine(EC.out).mono ?_
   rintro e w7 ⟨mq,mc,m,rs7,wk7,mu7,rfl,h71,h72,h73,h74,h75⟩
   have I7:=aA (A6.out.into (F:=fun _=>True) h75 h71)
   have K7:=aA (K6.out.wmf A6.out.es.wm h75.f (fun _ e=>e.elim))
   have hml:=h72
   have MS:=aA h73
   have MC:=aA h74
   clear h71 h72 h73 h74 h75
   refine hK.out _ _ ⟨K7.out.cell HKP.out,(HBX.out _ _ _ _ I7.out.es).get⟩ (fun hS1=>?_)
   clear hK K
   refine wpAnyH_ready (rs:=[7]) (by kernel_rfl) (by simp) ?_
   refine AllReadyH.cons rfl (fun K hK=>?_) AllReadyH.nil
   go_simp
   refine hK.out _ _ ⟨K7.out.cell HKP.out,(HBX.out _ _ _ _ I7.out.es).get⟩ (fun hS2=>?_)
   clear hK K
   refine wpAnyH_done (by kernel_rfl) ?_ _
   clear hS0 hS1 hS2 x0 A5 K5
   go_upto_region 30 with fail
   go_loopw [7,17] (fun ov jv wr=>∃ (b:Nat) (oq:Option Addr) (oc:Nat) (out:List Cf) (wk':Int) (mu':Bool),b<=m.length/\ov=.slice oq out.length oc/\jv=.int .i64 (b:Int)/\(mu'=false->mu7=false)/\EB12 H w2 rs wk false [x] (fun _ y=>MtA H.L (z.1.2.ks.take j) x y) 1 (fun _=>True) mq mc m b oq oc out rs7 wk' mu' wr/\Ls12 w2.heap.size wr (some ⟨gk,0,none⟩) kc (fM i z.1.2.ks)) (fun _ jv _=>m.length-(intOf jv).toNat)
   case atStart=>exact⟨0,oq,oc,out,wk7,mu7,o9 _,rfl,rfl,fun e=>e,I7.out,K7.out⟩
   case round=>
    obtain⟨b,oq8,oc8,out8,wk8,mu8,hb8,rfl,rfl,hm8,h8,hk8⟩:=hrel
    have I8:=aA h8
    have K8:=aA hk8
    have M8:=aA hm8
    clear h8 hk8 hm8 I7 K7
    by_cases hbl:b<m.length
    ·have i1:(b:Int)<(m.length:Int):=by omega
     have hw4:IntKind.wrap .i64 ((b:Int)+1)=(b:Int)+1:=wrap_small _ (by omega) (by omega)
     obtain⟨v,hv⟩:∃ v,m[b]?=some v:=⟨_,g9 hbl⟩
     have HV:=aA hv
     obtain⟨gm,rfl,gm1,gm2,gm3⟩:=I8.out.ml.at (by omega)
     have RV:=aA (I8.out.ml.get hv)
     have HVG:Hid (v.g.length=10):=aA (dV y.1.2 x v (MS.out v (n8 hv)) HX.out).1.g
     have hten:Hid (Ten out8):=fun t ht=>by
      rcases I8.out.s t ht with⟨x',-,h⟩ | h
      ·obtain⟨k',-,h'⟩:=(cF _ _ _).1 h
       exact(dV k' x t h' HX.out).1.g
      ·exact(dV y.1.2 x t (MS.out t (aAS h.1)) HX.out).1.g
     have PU:=aA (gF I8.out.es.wm I8.out.cr I8.out.es.f.size HB2.out hten.out HVG.out I8.out.n I8.out.nw)
     clear hv
     go_upto_region 31 with first
      |((with_reducible refine fF ?_);refine bN rfl _ rfl gm (b*21) rfl v RV.out ?_)
      |(go_at_call 51;(with_reducible refine(PU.out).mono ?_);rintro e w9 ⟨q9,c9,l9,wk9,mu9,rfl,hp9⟩;have M9:Hid (mu9=false->mu7=false):=fun e=>M8.out (by cases h2:mu8 with | false=>rfl | true=>have:=hp9.mo h2;rw [e] at this;cases this);have K9:=aA (aP2 K8.out I8.out.es.wm I8.out.cr hp9);have I9:=aA (I8.out.put HV.out trivial hp9);clear hp9)
     go_wp2
     go_roundw
     case rel=>exact⟨b+1,q9,c9,l9,wk9,mu9,by omega,rfl,by go_num,M9.out,I9.out,K9.out⟩
     case measure=>simp only [intOf];omega
    ·have i1:¬ (b:Int)<(m.length:Int):=by omega
     have HT:Hid (m.take b=m):=aA (o4 (by omega))
     have A9:Hid (EA12 H w2 rs wk false [x] (fun _ y=>MtA H.L (z.1.2.ks.take (j+1)) x y) 1 oq8 oc8 out8 rs7 wk8 mu8 wr):=⟨I8.out.es,I8.out.cr,I8.out.n,I8.out.nw,fun t ht=>by
      refine⟨x,by simp,(HSN.out t).2 ?_⟩
      rcases I8.out.s t ht with⟨x',-,h⟩ | h
      ·exact .inl h
      ·rw [HT.out] at h
       exact .inr (MS.out t h.1),fun e x' hx' t ht=>by
      obtain⟨c1,c2⟩:=I8.out.c e
      rcases (HSN.out t).1 ht with r | r
      ·exact c1 x' hx' t r
      ·refine c2 t ?_ trivial
       rw [HT.out]
       exact MC.out (M8.out e) t r⟩
     go_wp2
     go_roundw
     case rel=>exact⟨j+1,oq8,oc8,out8,rs7,wk8,mu8,by omega,rfl,by go_num,A9.out,K8.out⟩
     case measure=>simp only [intOf];omega
  ·have i0:¬ (j:Int)<(z.1.2.ks.length:Int):=by omega
   have HT:Hid (z.1.2.ks.take j=z.1.2.ks):=aA (o4 (by omega))
   go_wp2
   go_ret
   refine⟨oq,oc,out,rs5,wk5,mu5,rfl,bI A5.out.cr E2.out.f.size,aBL A5.out.n,fun t ht=>?_,fun e t ht=>?_,E2.out.then A5.out.es.wm A5.out.es.g A5.out.es.f (fun _ e=>e.elim) (fun e=>by cases e) A5.out.es.wkm⟩
   ·obtain⟨x',-,h⟩:=A5.out.s t ht
    rw [HT.out] at h
    exact(HMT.out t).2 h
   ·refine A5.out.c e x (by simp) t ?_
    rw [HT.out]
    exact(HMT.out t).1 ht
end
section
attribute [local go_sem] Oper.semAt_some
variable {H:Gh} {V V':World} {rs rs' rs'':List (Option Nat)} {wk wk':Int} {mu mu' mu'':Bool} {x:Cf}
theorem aT4(x:Cf){m:Nat}(h:m<10):(cfC x)[1+m*2]?=some (.int .i64 (ga x m)):=by
 rcases m with _ | _ | _ | _ | _ | _ | _ | _ | _ | _ | m
 all_goals first | rfl | omega
theorem aT3(x:Cf){m:Nat}(h:m<10):(cfC x)[1+m*2+1]?=some (.int .i64 (gb x m)):=by
 rcases m with _ | _ | _ | _ | _ | _ | _ | _ | _ | _ | m
 all_goals first | rfl | omega
theorem aG3{n:Nat}(hE:EnC H n)(hk:Gk H){w:World}(hw:WM H w rs wk false){i:Nat}{z:Zl}(hz:H.Z[i]?=some z)(hn:z.1.2.sz<=n+1)(hx:Vf H.L x)(hpl:¬ PlT H.L z.1.2)(hkd:z.1.2.f.k=8) :
  Calls Tryz.prog 27 #[.pointer (some ⟨H.b,0,none⟩),.int .i64 (i:Int),.agg (cfA x)] w (EnP H w rs wk false w.heap.size (Mt H.L z.1.2 x)):=by
 have HWW:=aA hw
 have HKD:=aA hkd
 have HEC:=aA hE
 have HSZ:=aA hn
 have HK:=aA hk
 have B0:Hid (Below w.heap.size w (w.alloc (.cells (cfA x) 69))):=bz9
 have X0:Hid (BoxC (w.alloc (.cells (cfA x) 69)) w.heap.size x):=aD w _
 have W0:=aA (hw.below B0.out)
 have hil:=(m8.1 hz).1
 have iil:(i:Int)<(H.Z.length:Int):=by omega
 have hlen:=hk.len
 have hsm:=hk.sm
 have HZ:=aA hz
 have HX:=aA hx
 have HNP:=aA (((aI z.1.2).1 (hk.npz hz)).1)
 have HPB:Hid (plB H.L z.1.2=false):=aA (by unfold plB;simpa using hpl)
 have HBS:Hid (H.base<=w.heap.size):=aA (aBC (aBA hw.bb hw.b_lt))
 have hk2:z.1.2.ks.length<=2000:=by
  have h1:=eY z.1.2.ks
  have h2:=dA z.1.2
  obtain⟨r,hr⟩:=seg H.t [] i z.1 (hk.at hz)
  have h5:=congrArg List.length hr
  rw [o5,bL,aAR] at h5
  have h4:=congrArg List.length hk.mp
  rw [aAC] at h4
  omega
 clear hw hk hz hx hpl hE hn hkd
 go_enter Tryz.func27,Tryz.ntmps27
 go_upto_region 1 with fail
 generalize (w.alloc (.cells (cfA x) 69))=w1 at B0 X0 W0 ⊢
 have E1:Hid (ES H w rs wk false w1 rs wk false):=⟨W0.out,Grw.refl _ _,Fr.of_below B0.out,fun e=>(by cases e),fun _=>aAW _⟩
 have c0:=W0.out.cell (i:=0) rfl
 have c14:=W0.out.cell (i:=14) rfl
 have c17:=W0.out.cell (i:=17) (v:=.bool false) rfl
 have y0:=W0.out.z.cells HZ.out (j:=0) (v:=.int .i64 z.1.2.f.k) rfl
 have y1:=W0.out.z.cells HZ.out (j:=1) (v:=.int .i64 z.1.2.f.n) rfl
 have y2:=W0.out.z.cells HZ.out (j:=2) (v:=.int .i64 z.1.2.f.mn) rfl
 have y3:=W0.out.z.cells HZ.out (j:=3) (v:=.int .i64 z.1.2.f.mx) rfl
 have y4:=W0.out.z.cells HZ.out (j:=4) (v:=.slice z.1.2.f.rq z.1.2.f.rs.length z.1.2.f.rc) rfl
 have y5:=W0.out.z.cells HZ.out (j:=5) (v:=.slice z.1.2.f.kq z.1.2.f.kl z.1.2.f.kc) rfl
 rw [aAJ] at y0
 go_upto_region 5 with fail
 have B2:Hid (Below w1.heap.size w1 (w1.alloc (.cells #[.int .i64 z.1.2.f.k,.int .i64 z.1.2.f.n,.int .i64 z.1.2.f.mn,.int .i64 z.1.2.f.mx,.slice z.1.2.f.rq z.1.2.f.rs.length z.1.2.f.rc,.slice z.1.2.f.kq z.1.2.f.kl z.1.2.f.kc] 25))):=bz9
 have N2:Hid (BoxN (w1.alloc (.cells #[.int .i64 z.1.2.f.k,.int .i64 z.1.2.f.n,.int .i64 z.1.2.f.mn,.int .i64 z.1.2.f.mx,.slice z.1.2.f.rq z.1.2.f.rs.length z.1.2.f.rc,.slice z.1.2.f.kq z.1.2.f.kl z.1.2.f.kc] 25)) w1.heap.size z.1.2.f):=aD w1 _
 have E2:=aA (E1.out.below B2.out)
 have X2:=aA (X0.out.kept B2.out)
 have HNB:Hid (w.heap.size<w1.heap.size):=aA X0.out.lt
 generalize (w1.alloc (.cells #[.int .i64 z.1.2.f.k,.int .i64 z.1.2.f.n,.int .i64 z.1.2.f.mn,.int .i64 z.1.2.f.mx,.slice z.1.2.f.rq z.1.2.f.rs.length z.1.2.f.rc,.slice z.1.2.f.kq z.1.2.f.kl z.1.2.f.kc] 25))=w2 at B2 E2 X2 N2 ⊢
 have BW2:Hid (Below w.heap.size w w2):=aA (B0.out.trans (B2.out.mono B0.out.size))
 clear B2
 generalize w1.heap.size=nb at N2 HNB ⊢
 have d14:=E2.out.wm.cell (i:=14) rfl
 have p0:w2.cell? ⟨H.pb,i,none⟩=some (.bool false):=by
  have:=aP E2.out.wm.pl (j:=i) (u:=.bool (plB H.L z.1.2)) (by simp [HZ.out])
  rw [this,HPB.out]
 clear c0 c14 c17 y0 y1 y2 y3 y4 y5 E1 X0 W0
 obtain⟨n0,n1,n2,n3,n4,n5⟩:=N2.out.six
 simp only [m7] at n1 n2 n3 n4 n5
 have e5:(z.1.2.f.k==5)=false:=by rw [HKD.out];rfl
 have e6:(z.1.2.f.k==6)=false:=by rw [HKD.out];rfl
 have e7:(z.1.2.f.k==7)=false:=by rw [HKD.out];rfl
 have e8:(z.1.2.f.k==8)=true:=by rw [HKD.out];rfl
 have HMT:Hid (∀ y,Mt H.L z.1.2 x y↔fE H.L (vE x.g z.1.2.f.n) x.p=some y.p/\y.g=x.g):=fun y=>by rw [cH,if_neg (by have:=HKD.out;omega),if_neg (by have:=HKD.out;omega),if_neg (by have:=HKD.out;omega),if_pos HKD.out]
 obtain⟨m,hm,hm1,hm2⟩:∃ m:Nat,z.1.2.f.n=(m:Int)/\1<=m/\m<=9:=by
  have hb:=sL HNP.out HKD.out
  exact⟨z.1.2.f.n.toNat,by omega,by omega,by omega⟩
 rw [hm] at n1
 have im:(m:Int)<10:=by omega
 have HQ:Hid (vE x.g z.1.2.f.n=(ga x m,gb x m)):=aA (by rw [hm];unfold vE ga gb;rw [Int.toNat_natCast])
 have pa:w2.cell? ⟨w.heap.size,1+m*2,none⟩=some (.int .i64 (ga x m)):=by
  have:=X2.out.get (1+m*2) _ (aT4 x (m:=m) (by omega))
  rwa [m7] at this
 have pb:w2.cell? ⟨w.heap.size,1+m*2+1,none⟩=some (.int .i64 (gb x m)):=by
  have:=X2.out.get (1+m*2+1) _ (aT3 x (m:=m) (by omega))
  rwa [m7] at this
 have pp:=X2.out.p
 have DR:=aA ((Below.refl w2.heap.size w2).drew)
 have BK:=aA (aU2 (E2.out.below DR.out).wm (ga x m,gb x m) x.p HX.out.p (by omega) (by
  have h:=HX.out.q m (ga x m,gb x m) (by rw [g9 (by have:=HX.out.g;omega)];unfold ga gb;rw [aBE,g9 (by have:=HX.out.g;omega)];rfl)
  exact h))
 go_upto_region 42 with fail
 refine wp_region_held_drew (S:=fun w'=>w'.cell? ⟨nb,1,none⟩=some (.int .i64 (m:Int))/\w'.cell? ⟨w.heap.size,1+m*2,none⟩=some (.int .i64 (ga x m))/\w'.cell? ⟨w.heap.size,1+m*2+1,none⟩=some (.int .i64 (gb x m))/\w'.cell? ⟨w.heap.size,0,none⟩=some (.int .i64 (x.p:Int))) (by kernel_rfl) ⟨n1,pa,pb,pp⟩ ?_
 intro hS0
 refine wpAnyH_take (i:=0) (oi:=_) (v:=?_) rfl (by kernel_rfl) (by kernel_rfl) (by kernel_rfl) (fun _ _ _ h=>h) (Or.inl ⟨by rfl,?_⟩) (by assumption) ?_
 rotate_left
 ·intro wz hSw
  obtain⟨hs1,hs2,hs3,hs4⟩:=hSw
  go_simp
  try with_reducible rfl
 dsimp only [Act.put,i7,g7,g8]
 simp only [f8,i8,i9]
 refine wpAnyH_take (i:=1) (oi:=_) (v:=?_) rfl (by kernel_rfl) (by kernel_rfl) (by kernel_rfl) (fun _ _ _ h=>h) (Or.inl ⟨by rfl,?_⟩) (by assumption) ?_
 rotate_left
 ·intro wz hSw
  obtain⟨hs1,hs2,hs3,hs4⟩:=hSw
  go_simp
  try with_reducible rfl
 dsimp only [Act.put,i7,g7,g8]
 simp only [f8,i8,i9]
 refine wpAnyH_take (i:=2) (oi:=_) (v:=?_) rfl (by kernel_rfl) (by kernel_rfl) (by kernel_rfl) (fun _ _ _ h=>h) (Or.inl ⟨by rfl,?_⟩) (by assumption) ?_
 rotate_left
 ·intro wz hSw
  obtain⟨hs1,hs2,hs3,hs4⟩:=hSw
  go_simp
  try with_reducible rfl
 dsimp only [Act.put,i7,g7,g8]
 simp only [f8,i8,i9]
 refine wpAnyH_take (i:=3) (oi:=_) (v:=?_) rfl (by kernel_rfl) (by kernel_rfl) (by kernel_rfl) (fun _ _ _ h=>h) (Or.inl ⟨by rfl,?_⟩) (by assumption) ?_
 rotate_left
 ·intro wz hSw
  obtain⟨hs1,hs2,hs3,hs4⟩:=hSw
  go_simp
  try with_reducible rfl
 dsimp only [Act.put,i7,g7,g8]
 simp only [f8,i8,i9]
 refine wpAnyH_take (i:=4) (oi:=_) (v:=?_) rfl (by kernel_rfl) (by kernel_rfl) (by kernel_rfl) (fun _ _ _ h=>h) (Or.inl ⟨by rfl,?_⟩) (by assumption) ?_
 rotate_left
 ·intro wz hSw
  obtain⟨hs1,hs2,hs3,hs4⟩:=hSw
  go_simp
  try with_reducible rfl
 dsimp only [Act.put,i7,g7,g8]
 simp only [f8,i8,i9]
 refine wpAnyH_take (i:=5) (oi:=_) (v:=?_) rfl (by kernel_rfl) (by kernel_rfl) (by kernel_rfl) (fun _ _ _ h=>h) (Or.inl ⟨by rfl,?_⟩) (by assumption) ?_
 rotate_left
 ·intro wz hSw
  obtain⟨hs1,hs2,hs3,hs4⟩:=hSw
  go_simp
  try with_reducible rfl
 dsimp only [Act.put,i7,g7,g8]
 simp only [f8,i8,i9]
 refine wpAnyH_take (i:=6) (oi:=_) (v:=?_) rfl (by kernel_rfl) (by kernel_rfl) (by kernel_rfl) (fun _ _ _ h=>h) (Or.inl ⟨by rfl,?_⟩) (by assumption) ?_
 rotate_left
 ·intro wz hSw
  obtain⟨hs1,hs2,hs3,hs4⟩:=hSw
  go_simp
  try with_reducible rfl
 dsimp only [Act.put,i7,g7,g8]
 simp only [f8,i8,i9]
 refine wpAnyH_take (i:=7) (oi:=_) (v:=?_) rfl (by kernel_rfl) (by kernel_rfl) (by kernel_rfl) (fun _ _ _ h=>h) (Or.inl ⟨by rfl,?_⟩) (by assumption) ?_
 rotate_left
 ·intro wz hSw
  obtain⟨hs1,hs2,hs3,hs4⟩:=hSw
  go_simp
  try with_reducible rfl
 dsimp only [Act.put,i7,g7,g8]
 simp only [f8,i8,i9]
 refine wpAnyH_ready (rs:=[8]) (by kernel_rfl) (by simp) ?_
 refine AllReadyH.cons rfl (fun K hK=>?_) AllReadyH.nil
 go_simp
 go_at_call 54
 refine(BK.out).mono ?_
 rintro e w3 ⟨rfl,h3⟩
 have B3:Hid (Below w2.heap.size w2 w3):=aA (DR.out.trans (h3.mono DR.out.size))
 have E3:=aA (E2.out.below B3.out)
 have X3:=aA (X2.out.kept B3.out)
 have S3:Hid (w3.cell? ⟨nb,1,none⟩=some (.int .i64 (m:Int))/\w3.cell? ⟨w.heap.size,1+m*2,none⟩=some (.int .i64 (ga x m))/\w3.cell? ⟨w.heap.size,1+m*2+1,none⟩=some (.int .i64 (gb x m))/\w3.cell? ⟨w.heap.size,0,none⟩=some (.int .i64 (x.p:Int))):=aA ⟨by
   have h:=(show BoxN w3 nb z.1.2.f from (B3.out.block _ (aC N2.out)).trans N2.out).six.2.1
   rw [hm] at h
   simpa using h,by
   have:=X3.out.get (1+m*2) _ (aT4 x (m:=m) (by omega))
   rwa [m7] at this,by
   have:=X3.out.get (1+m*2+1) _ (aT3 x (m:=m) (by omega))
   rwa [m7] at this,X3.out.p⟩
 refine hK.out _ _ S3.out (fun hS1=>?_)
 clear hK K h3
 refine wpAnyH_ready (rs:=[9]) (by kernel_rfl) (by simp) ?_
 refine AllReadyH.cons rfl (fun K hK=>?_) AllReadyH.nil
 go_simp
 refine hK.out _ _ S3.out (fun hS2=>?_)
 clear hK K
 refine wpAnyH_done (by kernel_rfl) ?_ _
 clear hS0 hS1 hS2 S3 n0 n1 n2 n3 n4 n5 d14 p0 pa pb pp
 obtain⟨t0,hi,hz0,hz1,hz2⟩:=aR nK
 cases hbk:fE H.L (ga x m,gb x m) x.p with
 | none=>
  have HBK:=aA hbk
  clear hbk
  dsimp only [lfV]
  go_wp2
  go_ret
  refine⟨none,0,[],rs,wk,false,rfl,CR12.nil _ _,by simp,fun y hy=>(by cases hy),fun _ y hy=>?_,E3.out⟩
  have:=((HMT.out y).1 hy).1
  rw [HQ.out,HBK.out] at this
  cases this
 | some j=>
  have HBK:=aA hbk
  clear hbk
  dsimp only [lfV]
  have j0:(0:Int)<=(j:Int):=by omega
  have X4:=aA (X3.out.setp j)
  have B4:Hid (Below w.heap.size w (w3.setCell ⟨w.heap.size,0,none⟩ (.int .i64 (j:Int)))):=(Fr.of_below (S:=fun _=>False) (BW2.out.trans (B3.out.mono BW2.out.size))).setNew (p:=⟨w.heap.size,0,none⟩) lz9 _ |>.below lz9 (fun _ q=>q.elim)
  have fz:=X3.out.frz 0
  have c0:=X3.out.p
  go_upto_region 45 with fail
  generalize (w3.setCell ⟨w.heap.size,0,none⟩ (.int .i64 (j:Int)))=w4 at X4 B4 ⊢
  have E4:=aA ((ES.refl HWW.out).below B4.out)
  generalize hy:(⟨j,x.g⟩:Cf)=y at X4
  have RX:=aA X4.out.get
  have Y7:Hid ((w4.alloc (.cells (cfA y) 69)).ownsRow (w.heap.size+1) 69 21 (.slice none 0 0) 0 []):=aAY _ _ _ _
  have HNEW:Hid (∀ j u,(cfC y)[j]?=some u->(w4.alloc (.cells (cfA y) 69)).cell? ((⟨w4.heap.size,0,none⟩:Addr).add j)=some u):=fU w4 (cfC y) _
  have HB8:Hid (w.heap.size+1<=(w4.alloc (.cells (cfA y) 69)).heap.size):=aA (o0 (Nat.succ_le_of_lt X4.out.lt) (by simp))
  go_wp2_with first
   |((with_reducible refine fF ?_);refine bN rfl _ rfl w.heap.size 0 rfl y RX.out ?_)
   |((with_reducible refine tJ ?_);refine iJ rfl _ rfl y rfl ?_)
   |(at_builtin;refine wpList_append_own_at _ rfl _ _ 63 rfl (w.heap.size+1) 69 t0 tN 21 168 nG hi hz0 hz1 hz2 kY (by decide) (.slice none 0 0) 0 [] rfl Y7.out ⟨w4.heap.size,0,none⟩ 1 1 (cfC y) rfl (cN y) HNEW.out (oY y) (by unfold maxLen;omega) (by omega) HB8.out ?_;intro v' w5 hown' hgrow _ hmv;obtain⟨q5,c5,rfl⟩:=aQ hown';have O5:=aA hown';have G5:=aA hgrow;clear hown' hgrow hmv)
  have B5:Hid (Below w4.heap.size w4 w5):=((Below.refl w4.heap.size w4).alloc lz9 (.cells (cfA y) 69)).trans (((Fr.refl (fun _=>False) _).grown G5.out (fun k e=>by cases e)).below (by simp) (fun _ e=>e.elim))
  have C5:Hid (CR12 w.heap.size w5 q5 c5 [y]):=bI (by simpa using O5.out) (aCA _)
  go_ret
  refine⟨q5,c5,[y],rs,wk,false,rfl,C5.out,by simp,fun v hv=>?_,fun _ v hv=>?_,E4.out.below B5.out⟩
  ·rw [s9.1 hv,<- hy]
   refine(HMT.out _).2 ⟨?_,rfl⟩
   rw [HQ.out,HBK.out]
  ·obtain⟨h1,h2⟩:=(HMT.out v).1 hv
   rw [HQ.out,HBK.out] at h1
   rw [<- hy]
   obtain⟨vp,vg⟩:=v
   simp only at h1 h2
   rw [h2,aAE h1]
   simp
end
section
variable {H:Gh} {V V':World} {rs rs' rs'':List (Option Nat)} {wk wk':Int} {mu mu' mu'':Bool}
theorem aT2(p:Nat)(g:List (Int×Int))(hg:g.length=10){n:Nat}(hn:n<10)(A B:Int):((cfC ⟨p,g⟩).set (1+n*2) (.int .i64 A)).set (1+n*2+1) (.int .i64 B)=cfC ⟨p,g.set n (A,B)⟩:=by
 match g,hg with
 | [q0,q1,q2,q3,q4,q5,q6,q7,q8,q9],_=>
  rcases n with _ | _ | _ | _ | _ | _ | _ | _ | _ | _ | n
  all_goals first | rfl | omega
theorem vG(Ls:List (List Value)):∀ (_:∀ x∈Ls,x.length=21) {a:Nat} {x:List Value} (_:Ls[a]?=some x) (r:Nat) (_:r<21) (v:Value),Ls.flatten.set (a*21+r) v=(Ls.set a (x.set r v)).flatten:=by
 induction Ls with
 | nil=>intro _ a x h;cases h
 | cons u Ls ih=>
  intro hL a x h r hr v
  have hu:=hL u (n9 ..)
  cases a with
  | zero=>
   rw [List.getElem?_cons_zero] at h
   cases h
   rw [List.flatten_cons,i8,List.flatten_cons,List.set_append_left _ _ (by omega)]
   simp
  | succ a=>
   rw [aAP] at h
   rw [List.flatten_cons,i9,List.flatten_cons,aBU _ _ (by omega),hu,show (a+1)*21+r-21=a*21+r by omega,ih (fun y hy=>hL y (m9 _ hy)) h r hr v]
theorem aR4{l:List Cf}{a:Nat}{t:Cf}(h:l[a]?=some t)(ht:t.g.length=10){n:Nat}(hn:n<10)(A B:Int) :
  ((l.flatMap cfC).set (a*21+(1+n*2)) (.int .i64 A)).set (a*21+(1+n*2+1)) (.int .i64 B)=(l.set a ⟨t.p,t.g.set n (A,B)⟩).flatMap cfC:=by
 have hl:=(m8.1 h).1
 rw [List.flatMap_def,vG (l.map cfC) (fun x hx=>by obtain⟨y,-,rfl⟩:=s4.1 hx;exact cN y) (a:=a) (x:=cfC t) (by rw [aAO,h];rfl) _ (by omega),
  vG _ (fun x hx=>by
   rcases List.mem_or_eq_of_mem_set hx with hx | rfl
   ·obtain⟨y,-,rfl⟩:=s4.1 hx;exact cN y
   ·rw [aAQ,cN]) (a:=a) (x:=(cfC t).set (1+n*2) (.int .i64 A)) (by rw [aAZ];simp [hl]) _ (by omega),List.set_set,aT2 t.p t.g ht hn A B,List.flatMap_def,List.map_set]
theorem CR12.setG{base g c:Nat}{l:List Cf}(h:CR12 base V (some ⟨g,0,none⟩) c l){a:Nat}{t:Cf}(ht:l[a]?=some t)(h10:t.g.length=10){n:Nat}(hn:n<10)(A B:Int) :
  CR12 base ((V.setCell ⟨g,a*21+(1+n*2),none⟩ (.int .i64 A)).setCell ⟨g,a*21+(1+n*2+1),none⟩ (.int .i64 B)) (some ⟨g,0,none⟩) c (l.set a ⟨t.p,t.g.set n (A,B)⟩):=by
 unfold CR12 at h ⊢
 rw [<- aR4 ht h10 hn A B,aAQ]
 rcases h with⟨h1,⟨q,_⟩ | ⟨g',cap,cur,q1,q2,q3,q4,q5,q6,q7⟩⟩
 ·cases q
 ·cases q1
  refine⟨by rw [aAQ,aAQ];exact h1,.inr ⟨g,c,(cur.setIfInBounds (a*21+(1+n*2)) (.int .i64 A)).setIfInBounds (a*21+(1+n*2+1)) (.int .i64 B),rfl,q2,aJ (aJ q3 _ _) _ _,q4,q5,by simpa using q6,?_⟩⟩
  rw [<- q7,Array.toList_setIfInBounds,Array.toList_setIfInBounds,List.take_set,List.take_set]
structure EG12(H:Gh)(w:World)(rs:List (Option Nat))(wk:Int)(x:Cf)(N:Int)(mq:Option Addr)(mc:Nat)(m:List Cf)(a b:Nat)(m':List Cf)(oq:Option Addr)(oc:Nat)(out:List Cf)(rs':List (Option Nat))(wk':Int)(mu':Bool)(V:World):Prop where
 es:ES H w rs wk false V rs' wk' mu'
 cr:CR12 w.heap.size V oq oc out
 ml:CR12 w.heap.size V mq mc m'
 ap:∀ g,(Value.slice mq m'.length mc).ownBlock=some g->(Value.slice oq out.length oc).ownBlock≠some g
 ln:m'.length=m.length
 sm:∀ k,b<=k->m'[k]?=m[k]?
 n:out.length<=20000
 nw:mu'=false->(out.length:Int)<=wk'
 s:∀ y∈out,∃ t∈m.take a,y=eI H.L N x t
 c:mu'=false->∀ t∈m.take a,eI H.L N x t∈out
variable {w:World} {oq oq' mq:Option Addr} {oc oc' a b mc:Nat} {out out' m m':List Cf} {x:Cf} {n:Int}
theorem EG12.put{t:Cf}{wk2:Int}{mu2:Bool}(h:EG12 H w rs wk x n mq mc m a b m' oq oc out rs' wk' mu' V)(hb:b<=a+1)(ht:m[a]?=some t)(hp:PuI H V rs' wk' mu' w.heap.size oq oc out (eI H.L n x t) oq' oc' out' wk2 mu2 V'):EG12 H w rs wk x n mq mc m (a+1) (a+1) m' oq' oc' out' rs' wk2 mu2 V':=by
 have htk:m.take (a+1)=m.take a++[t]:=by rw [s7,ht];rfl
 refine⟨h.es.put h.cr lz9 hp,hp.cr,?_,fun g hg e=>?_,h.ln,fun k hk=>h.sm k (by omega),hp.n,hp.nw,fun z hz=>?_,fun e u hu=>?_⟩
 ·refine aH h.ml hp.f (fun g hg e=>?_)
  rcases e with e | e
  ·obtain⟨-,-,cur,hc⟩:=aF h.ml hg
   exact bD hc h.es.wm.hd (by decide) e
  ·exact h.ap g hg e
 ·rcases hp.mv with r | r | ⟨g',r1,r2⟩
  ·rw [r] at e;exact h.ap g hg e
  ·rw [r] at e;cases e
  ·rw [r2] at e
   have:=(aF h.ml hg).2.1
   have:=aAE e
   omega
 ·rw [htk]
  have old:z∈out->∃ u∈m.take a++[t],z=eI H.L n x u:=fun q=>by
   obtain⟨u,h1,h2⟩:=h.s z q
   exact⟨u,o3.2 (.inl h1),h2⟩
  rcases hp.is with e | e
  ·rw [e] at hz;exact old hz
  ·rw [e] at hz
   rcases o3.1 hz with r | r
   ·exact old r
   ·exact⟨t,by simp,s9.1 r⟩
 ·have hmu:mu'=false:=by
   cases h2:mu' with
   | false=>rfl
   | true=>have:=hp.mo h2;rw [e] at this;cases this
  rw [htk] at hu
  rcases o3.1 hu with r | r
  ·have:=h.c hmu u r
   rcases hp.is with e2 | e2
   ·rw [e2];exact this
   ·rw [e2];exact o3.2 (.inl this)
  ·rw [s9.1 r];exact hp.has e
theorem EG12.set{g:Nat}{t:Cf}(h:EG12 H w rs wk x n (some ⟨g,0,none⟩) mc m a a m' oq oc out rs' wk' mu' V)(hbs:H.base<=w.heap.size)(ht:m'[a]?=some t)(h10:t.g.length=10){N:Nat}(hN:N<10)(A B:Int) :
  EG12 H w rs wk x n (some ⟨g,0,none⟩) mc m a (a+1) (m'.set a ⟨t.p,t.g.set N (A,B)⟩) oq oc out rs' wk' mu' ((V.setCell ⟨g,a*21+(1+N*2),none⟩ (.int .i64 A)).setCell ⟨g,a*21+(1+N*2+1),none⟩ (.int .i64 B)):=by
 have hml:=h.ml.setG ht h10 hN A B
 have hf:Fr (fun k=>k=g) V ((V.setCell ⟨g,a*21+(1+N*2),none⟩ (.int .i64 A)).setCell ⟨g,a*21+(1+N*2+1),none⟩ (.int .i64 B)):=((Fr.refl (fun k=>k=g) V).setCell (p:=⟨g,a*21+(1+N*2),none⟩) rfl _).setCell (p:=⟨g,a*21+(1+N*2+1),none⟩) rfl _
 generalize ((V.setCell ⟨g,a*21+(1+N*2),none⟩ (.int .i64 A)).setCell ⟨g,a*21+(1+N*2+1),none⟩ (.int .i64 B))=V2 at hml hf ⊢
 have hal:=(m8.1 ht).1
 obtain⟨g',hg',h1,h2,cs,h3⟩:=h.ml.at (by omega)
 cases hg'
 have hw:WM H V2 rs' wk' mu':=h.es.wm.fr hf (fun k _ e=>by
  cases e
  refine⟨o0 hbs h2,fun e=>?_,cs,_,h3,by unfold sT;decide⟩
  obtain⟨-,-,cur,hc⟩:=aF h.es.wm.pl rfl
  exact bD h3 hc (by decide) e)
 refine⟨h.es.then (S:=fun k=>k=g) hw (Grw.refl _ _) (hf.mono fun _ e=>.inr e) (fun _ e=>by rw [e];exact h2) (fun e=>e) (fun _=>aAW _),aH h.cr hf (fun k hk e=>?_),hml,fun k hk=>?_,by rw [aAQ];exact h.ln,fun k hk=>?_,h.n,h.nw,h.s,h.c⟩
 ·rw [e] at hk
  exact h.ap g rfl hk
 ·rw [aAQ] at hk
  exact h.ap k hk
 ·rw [aAZ,if_neg (by omega)]
  exact h.sm k (by omega)
end
end Go.Proofs.YtlamifbjklpdbaaGreat
