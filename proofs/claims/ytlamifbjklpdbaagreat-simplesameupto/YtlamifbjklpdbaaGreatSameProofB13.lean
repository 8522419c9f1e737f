/-
  Parts of the proof.
-/
import Derived.Test.YtlamifbjklpdbaaGreatSameProofA0
import Derived.Test.YtlamifbjklpdbaaGreatSameProofA1
import Derived.Test.YtlamifbjklpdbaaGreatSameProofB12
import Derived.Test.YtlamifbjklpdbaaGreatSameProofB9
set_option maxRecDepth 100000
set_option maxHeartbeats 8000000
namespace Go.Proofs.YtlamifbjklpdbaaGreat
open Go Go.RowKit
section
variable {H:Gh} {V V':World} {rs rs' rs'':lOn} {wk wk':Int} {mu mu' mu'':Bool}
theorem yM{P:Program}{ops:Array Oper}{Q:Exit->Act->World->Prop}{d:Option Tmp}{xo yo:Operand}{ty:TypeId}{pos:String}{af:Array Edge}{gd:Option (Nat×Bool)}{rest:List Oper}{a:Act}{w:World}(h:wpList P ops Q (Oper.mk d (.store 69 xo yo) ty pos af gd :: rest) a w):wpList P ops Q (Oper.mk d (.store 69 xo yo) ty pos af gd :: rest) a w:=h
theorem oB(b:Nat):∀ (vs:List Value) (o:Nat) (W:World),Fr (fun k=>k=b) W (W.setCells b o vs)
 | [],_,W=>by unfold World.setCells;exact Fr.refl _ W
 | v :: vs,o,W=>by
  have:=((Fr.refl (fun k=>k=b) W).setCell (p:=(aDr b o)) rfl v).trans (oB b vs (o+1) (W.setCell (aDr b o) v));simpa [World.setCells] using this
theorem jU(x:Cf):(cfA x).size=21:=by unfold cfA;rw [aBT,cN]
theorem vU(x:Cf):(cfA x).toList=cfC x:=by unfold cfA;simp
theorem aX0{b:Nat}:∀ (vs:List Value) (o:Nat) (W:World) (C:Array Value),W.heap[b]?=some (.cells C 69 (0,0))->C.size=21->∃ C',(W.setCells b o vs).heap[b]?=some (.cells C' 69 (0,0))/\C'.size=21:=by
 intro vs
 induction vs with
 | nil=>intro o W C h1 h2;exact⟨C,by unfold World.setCells;exact h1,h2⟩
 | cons v vs ih=>
  intro o W C h1 h2;have:=ih (o+1) (W.setCell (aDr b o) v) _ (aJ h1 o v) (by simpa using h2);simpa [World.setCells] using this
theorem kZ{ops:Array Oper}{rest:List Oper}{op:Oper}{a:Act}{w:World}{Q:Exit->Act->World->Prop}(hgd:op.guard=none)(xo yo:Operand)(ho:op.op=.store 69 xo yo)(b:Nat)(x:Cf)(hx:a.eval xo=.pointer (some (aDr b 0)))(hy:a.eval yo=.agg (cfA x))
  {C:Array Value} (hb:w.heap[b]?=some (.cells C 69 (0,0))) (hC:C.size=21)
  (h:∀ w',BoxC w' b x->Fr (fun k=>k=b) w w'->wpList Tryz.prog ops Q rest (a.put op.dst undef) w'):wpList Tryz.prog ops Q (op :: rest) a w:=by
 have hth:w.there b 0 (cfA x).size:=fun j hj=>by
  rw [jU] at hj;rw [m7];refine⟨?_,aK hb j⟩;rw [aB hb (v:=C[j]'(by omega)) (by simp)]
  rfl
 have hr:=World.rangeAt_setCells_same w b 0 (cfC x) (by rw [cN,<- jU x];exact hth);obtain⟨C',hC',hsz⟩:∃ C',(w.setCells b 0 (cfC x)).heap[b]?=some (.cells C' 69 (0,0))/\C'.size=21:=aX0 (cfC x) 0 w C hb hC;have hE:C'=cfA x:=by
  apply Array.ext_getElem?;intro j;by_cases hj:j<21
  ·have hj2:j<(cfC x).length:=by rw [cN];exact hj
   have h1:=hr j _ (g9 hj2);rw [m7] at h1;have h2:(w.setCells b 0 (cfC x)).cell? (aDr b j)=C'[j]?:=(by simp [World.cell?,hC']);rw [<- h2,h1];unfold cfA;rw [List.getElem?_toArray,g9 hj2]
  ·rw [Array.getElem?_eq_none (by omega),Array.getElem?_eq_none (by rw [jU];omega)]
 have hbox:BoxC (w.setCells b 0 (cfC x)) b x:=by unfold BoxC;rw [hC',hE]
 have hfr:=oB b (cfC x) 0 w;have hk:=h _ hbox hfr;rw [<- vU] at hk;exact wpList_store_mid hgd 69 xo yo ho b 0 (cfA x) hx hy hth (by rw [lW,jU]) (by unfold cfA;exact all_oneCell_toArray (oY x)) hk
theorem BoxC.setp{b:Nat}{x:Cf}(h:BoxC V b x)(j:Nat):BoxC (V.setCell (aDr b 0) (.I (j:Int))) b ⟨j,x.g⟩:=aJ h 0 (.I (j:Int))
theorem BoxC.p{b:Nat}{x:Cf}(h:BoxC V b x):V.cell? (aDr b 0)=some (.I (x.p:Int)):=aB h rfl
theorem BoxC.frz{b:Nat}{x:Cf}(h:BoxC V b x)(j:Nat):V.frozen? (aDr b j)=false:=aK h j
theorem BoxC.lt{b:Nat}{x:Cf}(h:BoxC V b x):b<V.heap.size:=aC h
theorem BoxC.kept{b:Nat}{x:Cf}(h:BoxC V b x)(hb:wBl V V'):BoxC V' b x:=(hb.block _ (aC h)).trans h
structure ES(H:Gh)(w:World)(rs:lOn)(wk:Int)(mu:Bool)(V:World)(rs':lOn)(wk':Int)(mu':Bool):Prop where
 wm:WM H V rs' wk' mu'
 g:Grw w.heap.size rs rs'
 f:Fr (fun k=>wmf H rs k\/False) w V
 mo:mu=true->mu'=true
 wkm:mu'=false->wk<=wk'
variable {w:World}
theorem ES.refl(h:WM H w rs wk mu):ES H w rs wk mu w rs wk mu:=⟨h,Grw.refl _ _,Fr.refl _ _,fun e=>e,fun _=>aAW _⟩
theorem ES.below(h:ES H w rs wk mu V rs' wk' mu')(hb:wBl V V'):ES H w rs wk mu V' rs' wk' mu':=⟨h.wm.below hb,h.g,h.f.then hb,h.mo,h.wkm⟩
theorem ES.then{S:Nat->Prop}{wk2:Int}{mu2:Bool}(h:ES H w rs wk mu V rs' wk' mu')(hw:WM H V' rs'' wk2 mu2)(hg:Grw V.heap.size rs' rs'')(hf:Fr (fun k=>wmf H rs' k\/S k) V V')(hS:∀ k,S k->w.heap.size<=k)(hm:mu'=true->mu2=true)(hkm:mu2=false->wk'<=wk2):ES H w rs wk mu V' rs'' wk2 mu2:=
 ⟨hw,h.g.trans hg h.f.size,mS h.f h.g hf (fun i e=>.inr (hS i e)),fun e=>hm (h.mo e),fun e=>Int.le_trans (h.wkm (by
  cases h2:mu' with
  | false=>rfl
  | true=>have:=hm h2;rw [e] at this;cases this)) (hkm e)⟩
theorem ES.put{base:Nat}{q q':Option Addr}{c c':Nat}{l l':List Cf}{x:Cf}{wk2:Int}{mu2:Bool}(h:ES H w rs wk mu V rs' wk' mu')(hl:CR12 base V q c l)(hbs:w.heap.size<=base)(hp:PuI H V rs' wk' mu' base q c l x q' c' l' wk2 mu2 V'):ES H w rs wk mu V' rs' wk2 mu2:=
 h.then (S:=fun k=>(Value.slice q l.length c).ownBlock=some k) hp.wm (Grw.refl _ _) (hp.f.mono fun _ e=>e.imp .inl id) (fun _ hk=>o0 hbs (aF hl hk).1) hp.mo hp.wkm
theorem BoxC.put{b base:Nat}{q q':Option Addr}{c c':Nat}{l l':List Cf}{x y:Cf}{wk2:Int}{mu2:Bool}(h:BoxC V b y)(hw:WM H V rs' wk' mu')(hl:CR12 base V q c l)(hb:b<base)(hp:PuI H V rs' wk' mu' base q c l x q' c' l' wk2 mu2 V'):BoxC V' b y:=
 (hp.f.block b (aC h) (fun e=>by
  rcases e with e | e
  ·exact bD h hw.hd (by decide) e
  ·have:=(aF hl e).1;omega)).trans h
theorem bK5{b base:Nat}{q q':Option Addr}{c c':Nat}{l l':List Cf}{f:Fl}{x:Cf}{wk2:Int}{mu2:Bool}(h:BoxN V b f)(hw:WM H V rs' wk' mu')(hl:CR12 base V q c l)(hp:PuI H V rs' wk' mu' base q c l x q' c' l' wk2 mu2 V'):BoxN V' b f:=
 (hp.f.block b (aC h) (fun e=>by
  rcases e with e | e
  ·exact bD h hw.hd (by decide) e
  ·obtain⟨-,-,cur,hc⟩:=aF hl e;exact bD h hc (by decide) rfl)).trans h
theorem aP2{base base':Nat}{q q' k:Option Addr}{c c' kc:Nat}{l l':List Cf}{m:List Nat}{x:Cf}{wk2:Int}{mu2:Bool}(h:Ls12 base' V k kc m)(hw:WM H V rs' wk' mu')(hl:CR12 base V q c l)(hp:PuI H V rs' wk' mu' base q c l x q' c' l' wk2 mu2 V'):Ls12 base' V' k kc m:=
 aH h hp.f (fun g hg e=>by
  obtain⟨-,-,cur,hc⟩:=aF h hg;rcases e with e | e
  ·exact bD hc hw.hd (by decide) e
  ·obtain⟨-,-,cur',hc'⟩:=aF hl e;exact bD hc hc' (by decide) rfl)
def EnP(H:Gh)(W:World)(rs:lOn)(wk:Int)(mu:Bool)(base:Nat)(R:Cf->Prop)(e:Ending)(W':World):Prop:=∃ (q:Option Addr) (c:Nat) (l:List Cf) (rs':lOn) (wk':Int) (mu':Bool),
 e=.returned (.slice q l.length c)/\CR12 base W' q c l/\l.length<=20001/\(∀ y∈l,R y)/\(mu'=false->∀ y,R y->y∈l)/\ES H W rs wk mu W' rs' wk' mu'
def EnC(H:Gh)(n:Nat):Prop:=∀ (i:Nat) (x:Cf) (z:Zl) (W:World) (rs:lOn) (wk:Int) (mu:Bool),H.Z[i]?=some z->z.1.2.sz<=n->Vf H.L x->WM H W rs wk mu ->
 Calls Tryz.prog 27 #[.pointer (some ⟨H.b,0,none⟩),.I (i:Int),.agg (cfA x)] W (EnP H W rs wk mu W.heap.size (Mt H.L z.1.2 x))
end
section
attribute [local go_sem] Oper.semAt_some
variable {H:Gh} {V V':World} {rs rs' rs'':lOn} {wk wk':Int} {mu mu' mu'':Bool}
structure EI12(H:Gh)(w:World)(rs:lOn)(wk:Int)(x:Cf)(lq:Option Addr)(lc:Nat)(m:List Nat)(k:Nat)(q:Option Addr)(c:Nat)(out:List Cf)(rs':lOn)(wk':Int)(mu':Bool)(V:World):Prop where
 es:ES H w rs wk false V rs' wk' mu'
 bx:BoxC V w.heap.size x
 ll:Ls12 H.base V lq lc m
 cr:CR12 (w.heap.size+1) V q c out
 n:out.length<=20000
 nw:mu'=false->(out.length:Int)<=wk'
 s:∀ y∈out,y.g=x.g/\y.p∈m.take k
 c:mu'=false->∀ j∈m.take k,(⟨j,x.g⟩:Cf)∈out
variable {w:World} {x:Cf} {lq q q':Option Addr} {lc k c c':Nat} {m:List Nat} {out l':List Cf}
theorem EI12.below(h:EI12 H w rs wk x lq lc m k q c out rs' wk' mu' V)(hb:wBl V V'):EI12 H w rs wk x lq lc m k q c out rs' wk' mu' V':=
 ⟨h.es.below hb,h.bx.kept hb,h.ll.kept hb,h.cr.kept hb,h.n,h.nw,h.s,h.c⟩
theorem EI12.put{j:Nat}{wk2:Int}{mu2:Bool}(h:EI12 H w rs wk x lq lc m k q c out rs' wk' mu' V)(hj:m[k]?=some j)(hp:PuI H V rs' wk' mu' (w.heap.size+1) q c out ⟨j,x.g⟩ q' c' l' wk2 mu2 V'):EI12 H w rs wk x lq lc m (k+1) q' c' l' rs' wk2 mu2 V':=by
 have ht:m.take (k+1)=m.take k++[j]:=by rw [s7,hj];rfl
 refine⟨h.es.put h.cr (by omega) hp,h.bx.put h.es.wm h.cr (by omega) hp,aP2 h.ll h.es.wm h.cr hp,hp.cr,hp.n,hp.nw,fun y hy=>?_,fun e i hi=>?_⟩
 ·rw [ht];have old:y∈out->y.g=x.g/\y.p∈m.take k++[j]:=fun q=>⟨(h.s y q).1,o3.2 (.inl (h.s y q).2)⟩;rcases hp.is with e | e
  ·rw [e] at hy;exact old hy
  ·rw [e] at hy;rcases o3.1 hy with r | r
   ·exact old r
   ·rw [s9.1 r];exact⟨rfl,by simp⟩
 ·rw [ht] at hi;have hmu:mu'=false:=by
   cases h2:mu' with
   | false=>rfl
   | true=>have:=hp.mo h2;rw [e] at this;cases this
  rcases o3.1 hi with r | r
  ·have:=h.c hmu i r;rcases hp.is with e2 | e2
   ·rw [e2];exact this
   ·rw [e2];exact o3.2 (.inl this)
  ·rw [s9.1 r];exact hp.has e
theorem yH(hk:Gk H){w:World}(hw:WM H w rs wk false){i:Nat}{z:Zl}(hz:H.Z[i]?=some z)(hx:Vf H.L x)(hpl:PlT H.L z.1.2) :
  Calls Tryz.prog 27 #[.pointer (some ⟨H.b,0,none⟩),.I (i:Int),.agg (cfA x)] w (EnP H w rs wk false w.heap.size (Mt H.L z.1.2 x)):=by
 have B0:Hid (wBl w (w.alloc (.cells (cfA x) 69))):=bz9;have X0:Hid (BoxC (w.alloc (.cells (cfA x) 69)) w.heap.size x):=aD w _;have W0:=aA (hw.below B0.o);have hil:=(m8.1 hz).1;have iil:(i:Int)<(H.Z.length:Int):=by omega
 have hlen:=hk.len;have hsm:=hk.sm;have HZ:=aA hz;have HX:=aA hx;have HPL:=aA hpl;have PC:=aA (fun (V:World) (rs':lOn) (wk':Int) (mu':Bool) (h:WM H V rs' wk' mu')=>rC hk z.1.2.sz i x.p z V rs' wk' mu' hz lz9 hpl hx.p h);have HMP:Hid (∀ y,Mt H.L z.1.2 x y↔y.g=x.g/\Pz H.L z.1.2 x.p y.p):=fun y=>uO hpl x y;have HLE:Hid (∀ j,Pz H.L z.1.2 x.p j->j<=H.L.s.size):=fun j h=>(bE3 hpl hx.p h).2;have HPB:Hid (plB H.L z.1.2=true):=aA (by unfold plB;simpa using hpl);have HBS:Hid (H.base<=w.heap.size):=aA (aBC (aBA hw.bb hw.b_lt));clear hw hk hz hx hpl;go_enter Tryz.func27,Tryz.ntmps27;go_upto_region 1 with fail
 generalize (w.alloc (.cells (cfA x) 69))=w1 at B0 X0 W0 ⊢;have E1:Hid (ES H w rs wk false w1 rs wk false):=⟨W0.o,Grw.refl _ _,Fr.of_below B0.o,fun e=>(by cases e),fun _=>aAW _⟩;have c0:=W0.o.cell (i:=0) rfl;have c14:=W0.o.cell (i:=14) rfl;have c17:=W0.o.cell (i:=17) (v:=.bool false) rfl;have y0:=W0.o.z.cells HZ.o (j:=0) (v:=.I z.1.2.f.k) rfl;have y1:=W0.o.z.cells HZ.o (j:=1) (v:=.I z.1.2.f.n) rfl;have y2:=W0.o.z.cells HZ.o (j:=2) (v:=.I z.1.2.f.mn) rfl;have y3:=W0.o.z.cells HZ.o (j:=3) (v:=.I z.1.2.f.mx) rfl;have y4:=W0.o.z.cells HZ.o (j:=4) (v:=.slice z.1.2.f.rq z.1.2.f.rs.length z.1.2.f.rc) rfl;have y5:=W0.o.z.cells HZ.o (j:=5) (v:=.slice z.1.2.f.kq z.1.2.f.kl z.1.2.f.kc) rfl;rw [aAJ] at y0;go_upto_region 5 with fail
 have B2:Hid (wBl w1 (w1.alloc (.cells (nDf z.1.2.f) 25))):=bz9;have E2:=aA (E1.o.below B2.o);have X2:=aA (X0.o.kept B2.o);generalize (w1.alloc (.cells (nDf z.1.2.f) 25))=w2 at B2 E2 X2 ⊢;have d14:=E2.o.wm.cell (i:=14) rfl;have p0:w2.cell? ⟨H.pb,i,none⟩=some (.bool true):=by
  have:=aP E2.o.wm.pl (j:=i) (u:=.bool (plB H.L z.1.2)) (by simp [HZ.o]);rw [this,HPB.o]
 clear c0 c14 c17 y0 y1 y2 y3 y4 y5;have xp:=X2.o.p;have PW:=aA (PC.o w2 rs wk false E2.o.wm);go_upto_region 8 with (go_at_call 50;(with_reducible refine(PW.o).mono ?_);rintro e w3 ⟨lq,lc,m,rs3,rfl,h31,h32,h33,h34,h35⟩;have L3:=aA h31;have M3:=aA h32;have E3:=aA (E2.o.then h33 h34 h35 (fun _ e=>e.elim) (fun e=>e) (fun _=>aAW _));have X3:Hid (BoxC w3 w.heap.size x):=(fR E2.o.wm h35 X2.o ⟨by decide,by decide,by decide⟩ (fun e=>e));clear h31 h32 h33 h34 h35)
 clear d14 p0 xp;have hml:m.length<=1001:=by
  have key:∀ (l:List Nat) (n b:Nat),l.Pairwise (· < ·)->(∀ j∈l,b<=j/\j<b+n)->l.length<=n:=by
   intro l
   induction l with
   | nil=>intro n b _ _;simp
   | cons y l ih=>
    intro n b hpw hm;obtain⟨n',rfl⟩:∃ n',n=n'+1:=⟨n-1,by have:=hm y (by simp);omega⟩;have:=ih n' (b+1) (aAT.1 hpw).2 (fun j hj=>by
     have h3:=(aAT.1 hpw).1 j hj;have h4:=hm y (by simp);have h5:=hm j (by simp [hj]);omega)
    simp;omega
  have:=key m (H.L.s.size+1) 0 M3.o.2 (fun j hj=>by have:=HLE.o j ((M3.o.1 j).1 hj);omega);omega
 have I3:Hid (EI12 H w rs wk x lq lc m 0 none 0 [] rs3 wk false w3):=⟨E3.o,X3.o,L3.o,CR12.nil _ _,by simp,fun _=>by simpa using (E3.o.wm.wk rfl).1,fun y hy=>(by cases hy),fun _ j hj=>by rw [aAL] at hj;cases hj⟩;clear E3 X3 L3;go_loopw [7,10] (fun ov kv wr=>∃ (k:Nat) (q:Option Addr) (c:Nat) (out:List Cf) (rs':lOn) (wk':Int) (mu':Bool),k<=m.length/\ov=.slice q out.length c/\kv=.I (k:Int)/\EI12 H w rs wk x lq lc m k q c out rs' wk' mu' wr) (fun _ kv _=>m.length-(intOf kv).toNat)
 case atStart=>exact⟨0,none,0,[],rs3,wk,false,o9 _,rfl,rfl,I3.o⟩
 case round=>
  obtain⟨k,q,c,out,rs4,wk4,mu4,hk4,rfl,rfl,hi4⟩:=hrel;have I4:=aA hi4;clear hi4 I3;by_cases hkl:k<m.length
  ·have i0:(k:Int)<(m.length:Int):=by omega
   have hw3:IntKind.wrap .i64 ((k:Int)+1)=(k:Int)+1:=wrap_small _ (by omega) (by omega);obtain⟨j,hj⟩:∃ j,m[k]?=some j:=⟨_,g9 hkl⟩;have HJ:=aA hj;obtain⟨gl,rfl,gl1,gl2,gl3⟩:=I4.o.ll.at (by omega);have RX:=aA I4.o.bx.get;clear hj;go_upto_region 11 with first
    |((with_reducible refine fF ?_);refine bN rfl _ rfl w.heap.size 0 rfl x RX.o ?_)
    |((with_reducible refine yM ?_);refine kZ rfl _ _ rfl wr.heap.size x rfl rfl (aD _ _) rfl ?_;intro w5 hb5 hf5;have X5:=aA hb5;have B5:Hid (wBl wr w5):=bB ((Below.refl _ wr).alloc lz9 _) hf5 lz9 (fun k e=>by omega);clear hb5 hf5)
   have I5:=aA (I4.o.below B5.o);have lj:=I5.o.ll.cell HJ.o;have xp:=X5.o.p;have xf:=X5.o.frz 0;have hnb:gl≠wr.heap.size:=(by omega);go_upto_region 12 with fail
   have X6:=aA (X5.o.setp j);have B6:Hid (wBl wr (w5.setCell (aDr wr.heap.size 0) (.I (j:Int)))):=(Fr.of_below (S:=fun _=>False) B5.o).setNew (p:=(aDr wr.heap.size 0)) lz9 _ |>.below lz9 (fun _ q=>q.elim);generalize (w5.setCell (aDr wr.heap.size 0) (.I (j:Int)))=w6 at X6 B6 ⊢;have I6:=aA (I4.o.below B6.o);clear lj xp xf I5 X5 B5;have RX6:=aA X6.o.get;have hxg:Hid ((⟨j,x.g⟩:Cf).g.length=10):=aA HX.o.g;have hten:Hid (Ten out):=fun y hy=>by rw [(I6.o.s y hy).1];exact HX.o.g
   have PU:=aA (gF (x:=⟨j,x.g⟩) I6.o.es.wm I6.o.cr (Nat.succ_le_of_lt (aC I6.o.bx)) (aBL HBS.o) hten.o hxg.o I6.o.n I6.o.nw);go_upto_region 9 with first
    |((with_reducible refine fF ?_);refine bN rfl _ rfl wr.heap.size 0 rfl ⟨j,x.g⟩ RX6.o ?_)
    |(go_at_call 51;(with_reducible refine(PU.o).mono ?_);rintro e w7 ⟨q7,c7,l7,wk7,mu7,rfl,hp7⟩;have I7:=aA (I6.o.put HJ.o hp7);clear hp7)
   go_wp2;go_roundw
   case rel=>exact⟨k+1,q7,c7,l7,rs4,wk7,mu7,by omega,rfl,by go_num,I7.o⟩
   case measure=>simp only [intOf];omega
  ·have i0:¬ (k:Int)<(m.length:Int):=by omega
   have HT:Hid (m.take k=m):=aA (o4 (by omega));go_wp2;go_ret;refine⟨q,c,out,rs4,wk4,mu4,rfl,bI I4.o.cr (aCA _),aBL I4.o.n,fun y hy=>?_,fun e y hy=>?_,I4.o.es⟩
   ·have:=I4.o.s y hy;rw [HT.o,M3.o.1] at this;exact(HMP.o y).2 this
   ·have h1:=(HMP.o y).1 hy;have h2:=I4.o.c e y.p (by rw [HT.o,M3.o.1];exact h1.2);obtain⟨yp,yg⟩:=y;have h3:yg=x.g:=h1.1;rw [h3];exact h2
end
section
attribute [local go_sem] Oper.semAt_some
variable {H:Gh} {V V':World} {rs rs' rs'':lOn} {wk wk':Int} {mu mu' mu'':Bool}
def ArgC(V:World)(q:Option Addr)(l:List Cf):Prop:=∀ (i:Nat) (y:Cf),l[i]?=some y->∃ g o,q=some (aDr g o)/\(∃ cs,V.heap[g]?=some (.cells cs 69 (0,0)))/\V.rangeAt g (o+i*21) (cfC y)
theorem xA{g o:Nat}{cs:List Value}(h:V.rangeAt g o cs)(e:V'.heap[g]?=V.heap[g]?):V'.rangeAt g o cs:=fun j v hv=>by
 have:=h j v hv;unfold World.cell? at this ⊢;rw [e];exact this
theorem ArgC.same{q:Option Addr}{l:List Cf}(h:ArgC V q l)(he:∀ g o cs,q=some (aDr g o)->V.heap[g]?=some (.cells cs 69 (0,0))->V'.heap[g]?=V.heap[g]?):ArgC V' q l:=fun i y hy=>by
 obtain⟨g,o,h1,⟨cs,h2⟩,h3⟩:=h i y hy;have e:=he g o cs h1 h2;exact⟨g,o,h1,⟨cs,e.trans h2⟩,xA h3 e⟩
theorem CR12.arg{base:Nat}{q:Option Addr}{c:Nat}{l:List Cf}(h:CR12 base V q c l):ArgC V q l:=fun i y hy=>by
 obtain⟨g,rfl,h1,h2,h3⟩:=h.at (by have:=(m8.1 hy).1;omega);exact⟨g,0,rfl,h3,by rw [m7];exact h.get hy⟩
variable {w:World} {q oq oq' mq:Option Addr} {oc oc' k j mc:Nat} {l out out' m:List Cf} {R:Cf->Cf->Prop} {F:Cf->Prop}
theorem ArgC.es(h:ArgC w q l)(hw:WM H w rs wk mu'')(he:ES H w rs wk mu V rs' wk' mu'):ArgC V q l:=h.same fun g o cs _ hc=>by
 have:=fR hw he.f hc ⟨by decide,by decide,by decide⟩ (fun e=>e);rw [this,hc]
structure EA12(H:Gh)(w:World)(rs:lOn)(wk:Int)(mu:Bool)(l:List Cf)(R:Cf->Cf->Prop)(k:Nat)(oq:Option Addr)(oc:Nat)(out:List Cf)(rs':lOn)(wk':Int)(mu':Bool)(V:World):Prop where
 es:ES H w rs wk mu V rs' wk' mu'
 cr:CR12 w.heap.size V oq oc out
 n:out.length<=20000
 nw:mu'=false->(out.length:Int)<=wk'
 s:∀ y∈out,∃ x∈l.take k,R x y
 c:mu'=false->∀ x∈l.take k,∀ y,R x y->y∈out
structure EB12(H:Gh)(w:World)(rs:lOn)(wk:Int)(mu:Bool)(l:List Cf)(R:Cf->Cf->Prop)(k:Nat)(F:Cf->Prop)(mq:Option Addr)(mc:Nat)(m:List Cf)(j:Nat)(oq:Option Addr)(oc:Nat)(out:List Cf)(rs':lOn)(wk':Int)(mu':Bool)(V:World):Prop where
 es:ES H w rs wk mu V rs' wk' mu'
 cr:CR12 w.heap.size V oq oc out
 ml:CR12 w.heap.size V mq mc m
 ap:∀ g,(Value.slice mq m.length mc).ownBlock=some g->(Value.slice oq out.length oc).ownBlock≠some g
 n:out.length<=20000
 nw:mu'=false->(out.length:Int)<=wk'
 s:∀ y∈out,(∃ x∈l.take k,R x y)\/(y∈m.take j/\F y)
 c:mu'=false->(∀ x∈l.take k,∀ y,R x y->y∈out)/\∀ y∈m.take j,F y->y∈out
theorem EB12.below(h:EB12 H w rs wk mu l R k F mq mc m j oq oc out rs' wk' mu' V)(hb:wBl V V'):EB12 H w rs wk mu l R k F mq mc m j oq oc out rs' wk' mu' V':=
 ⟨h.es.below hb,h.cr.kept hb,h.ml.kept hb,h.ap,h.n,h.nw,h.s,h.c⟩
theorem EB12.put{y:Cf}{wk2:Int}{mu2:Bool}(h:EB12 H w rs wk mu l R k F mq mc m j oq oc out rs' wk' mu' V)(hy:m[j]?=some y)(hF:F y)(hp:PuI H V rs' wk' mu' w.heap.size oq oc out y oq' oc' out' wk2 mu2 V'):EB12 H w rs wk mu l R k F mq mc m (j+1) oq' oc' out' rs' wk2 mu2 V':=by
 have ht:m.take (j+1)=m.take j++[y]:=by rw [s7,hy];rfl
 have hsub:∀ z∈out,z∈out':=fun z hz=>by
  rcases hp.is with e | e
  ·rw [e];exact hz
  ·rw [e];exact o3.2 (.inl hz)
 refine⟨h.es.put h.cr lz9 hp,hp.cr,?_,fun g hg e=>?_,hp.n,hp.nw,fun z hz=>?_,fun e=>?_⟩
 ·refine aH h.ml hp.f (fun g hg e=>?_);rcases e with e | e
  ·obtain⟨-,-,cur,hc⟩:=aF h.ml hg;exact bD hc h.es.wm.hd (by decide) e
  ·exact h.ap g hg e
 ·rcases hp.mv with r | r | ⟨g',r1,r2⟩
  ·rw [r] at e;exact h.ap g hg e
  ·rw [r] at e;cases e
  ·rw [r2] at e;have:=(aF h.ml hg).2.1;have:=aAE e;omega
 ·rw [ht];have old:z∈out->(∃ x∈l.take k,R x z)\/(z∈m.take j++[y]/\F z):=fun q=>(h.s z q).imp id fun r=>⟨o3.2 (.inl r.1),r.2⟩;rcases hp.is with e | e
  ·rw [e] at hz;exact old hz
  ·rw [e] at hz;rcases o3.1 hz with r | r
   ·exact old r
   ·rw [s9.1 r];exact .inr ⟨by simp,hF⟩
 ·have hmu:mu'=false:=by
   cases h2:mu' with
   | false=>rfl
   | true=>have:=hp.mo h2;rw [e] at this;cases this
  obtain⟨c1,c2⟩:=h.c hmu;refine⟨fun x hx z hz=>hsub z (c1 x hx z hz),fun z hz hz2=>?_⟩;rw [ht] at hz;rcases o3.1 hz with r | r
  ·exact hsub z (c2 z r hz2)
  ·rw [s9.1 r];exact hp.has e
theorem EB12.skip{y:Cf}(h:EB12 H w rs wk mu l R k F mq mc m j oq oc out rs' wk' mu' V)(hy:m[j]?=some y)(hF:¬ F y):EB12 H w rs wk mu l R k F mq mc m (j+1) oq oc out rs' wk' mu' V:=by
 have ht:m.take (j+1)=m.take j++[y]:=by rw [s7,hy];rfl
 refine⟨h.es,h.cr,h.ml,h.ap,h.n,h.nw,fun z hz=>(h.s z hz).imp id fun r=>⟨by rw [ht];exact o3.2 (.inl r.1),r.2⟩,fun e=>⟨(h.c e).1,fun z hz hz2=>?_⟩⟩;rw [ht] at hz;rcases o3.1 hz with r | r
 ·exact(h.c e).2 z r hz2
 ·rw [s9.1 r] at hz2;exact absurd hz2 hF
theorem EA12.into{rs2:lOn}{wk2:Int}{mu2:Bool}(h:EA12 H w rs wk mu l R k oq oc out rs' wk' mu' V)(he:ES H V rs' wk' mu' V' rs2 wk2 mu2)(hm:CR12 V.heap.size V' mq mc m):EB12 H w rs wk mu l R k F mq mc m 0 oq oc out rs2 wk2 mu2 V':=by
 have hmu:mu2=false->mu'=false:=fun e=>by
  cases h2:mu' with
  | false=>rfl
  | true=>have:=he.mo h2;rw [e] at this;cases this
 refine⟨h.es.then he.wm he.g he.f (fun _ e=>e.elim) he.mo he.wkm,?_,bI hm h.es.f.size,fun g hg e=>?_,h.n,fun e=>Int.le_trans (h.nw (hmu e)) (he.wkm e),fun y hy=>.inl (h.s y hy),fun e=>⟨h.c (hmu e),fun y hy=>by rw [aAL] at hy;cases hy⟩⟩
 ·exact cT h.cr h.es.wm he.f (fun _ _ e=>e) ⟨by decide,by decide,by decide⟩
 ·have h1:=(aF hm hg).1;have h2:=(aF h.cr e).2.1;omega
end
section
attribute [local go_sem] Oper.semAt_some aU
variable {H:Gh} {V V':World} {rs rs' rs'':lOn} {wk wk':Int} {mu mu' mu'':Bool}
def Rf(L:Ln)(t:Tr)(fu:Bool)(x y:Cf):Prop:=Mt L t x y/\fuP fu x.p y.p
theorem bP5{b o:Nat}{x:Cf}(h:V.rangeAt b o (cfC x)):V.cell? (aDr b o)=some (.I (x.p:Int)):=by
 have:=h 0 (.I (x.p:Int)) rfl;simpa using this
theorem vL{n:Nat}(hE:EnC H n){w:World}(hw:WM H w rs wk mu){i:Nat}{z:Zl}(hz:H.Z[i]?=some z)(hn:z.1.2.sz<=n){q:Option Addr}{c:Nat}{l:List Cf}(ha:ArgC w q l)(hq:∀ x∈l,Vf H.L x)(hl:l.length<=20001)(fu:Bool) :
  Calls Tryz.prog 53 #[.pointer (some ⟨H.b,0,none⟩),.slice q l.length c,.I (i:Int),.bool fu] w (EnP H w rs wk mu w.heap.size (fun y=>∃ x∈l,Rf H.L z.1.2 fu x y)):=by
 have HW:=aA hw;have HA:=aA ha;have HQ:=aA hq;have HEC:=aA (fun (x:Cf) (V:World) (rs':lOn) (wk':Int) (mu':Bool) (hx:Vf H.L x) (h:WM H V rs' wk' mu')=>hE i x z V rs' wk' mu' hz hn hx h);have HBS:Hid (H.base<=w.heap.size):=aA (aBC (aBA hw.bb hw.b_lt));have A0:Hid (EA12 H w rs wk mu l (Rf H.L z.1.2 fu) 0 none 0 [] rs wk mu w):=⟨ES.refl hw,CR12.nil _ _,by simp,fun e=>by simpa using (hw.wk e).1,fun y hy=>(by cases hy),fun _ x hx=>by rw [aAL] at hx;cases hx⟩;clear hE hw hz hn ha hq;go_enter Tryz.func53,Tryz.ntmps53;go_upto_region 3 with fail
 go_loopw [9,10] (fun ov kv wr=>∃ (k:Nat) (oq:Option Addr) (oc:Nat) (out:List Cf) (rs':lOn) (wk':Int) (mu':Bool),k<=l.length/\ov=.slice oq out.length oc/\kv=.I (k:Int)/\EA12 H w rs wk mu l (Rf H.L z.1.2 fu) k oq oc out rs' wk' mu' wr) (fun _ kv _=>l.length-(intOf kv).toNat)
 case atStart=>exact⟨0,none,0,[],rs,wk,mu,o9 _,rfl,rfl,A0.o⟩
 case round=>
  obtain⟨k,oq,oc,out,rs4,wk4,mu4,hk4,rfl,rfl,ha4⟩:=hrel;have A4:=aA ha4;clear ha4 A0;have c17:=A4.o.es.wm.cell (i:=17) (v:=.bool mu4) rfl;have DONE:Hid ((mu4=false->k=l.length)->EnP H w rs wk mu w.heap.size (fun y=>∃ x∈l,Rf H.L z.1.2 fu x y) (.returned (.slice oq out.length oc)) wr):=fun h=>by
   refine⟨oq,oc,out,rs4,wk4,mu4,rfl,A4.o.cr,aBL A4.o.n,fun y hy=>?_,fun e y hy=>?_,A4.o.es⟩
   ·obtain⟨x,hx,h⟩:=A4.o.s y hy;exact⟨x,aAS hx,h⟩
   ·obtain⟨x,hx,h2⟩:=hy;refine A4.o.c e x ?_ y h2;rw [h e,o4 lz9];exact hx
  by_cases hkl:k<l.length
  ·have i0:(k:Int)<(l.length:Int):=by omega
   have hw3:IntKind.wrap .i64 ((k:Int)+1)=(k:Int)+1:=wrap_small _ (by omega) (by omega)
   cases mu4 with
   | true=>
    have D:=aA (DONE.o (fun e=>by cases e));clear DONE;go_wp2;go_ret;exact D.o
   | false=>
    clear DONE;obtain⟨x,hx⟩:∃ x,l[k]?=some x:=⟨_,g9 hkl⟩;have HX:=aA hx;obtain⟨g,o,hqq,hgb,hrg⟩:=(HA.o.es HW.o A4.o.es) k x hx;have RX:=aA hrg;have HQ2:=aA hqq;have EC:=aA (HEC.o x wr rs4 wk4 false (HQ.o x (n8 hx)) A4.o.es.wm);clear hx hgb hrg;subst hqq;go_upto_region 7 with first
     |((with_reducible refine fF ?_);refine bN rfl _ rfl g (o+k*21) rfl x RX.o ?_)
     |(go_at_call 27;(with_reducible refine(EC.o).mono ?_);rintro e w5 ⟨mq,mc,m,rs5,wk5,mu5,rfl,h51,h52,h53,h54,h55⟩;have I5:=aA (A4.o.into (F:=fun y=>fuP fu x.p y.p) h55 h51);have hml:=h52;have MS:=aA h53;have MC:=aA h54;clear h51 h52 h53 h54 h55)
    have HTK:Hid (l.take (k+1)=l.take k++[x]):=aA (by rw [s7,HX.o];rfl);clear c17 A4;go_loopw [9,12] (fun ov jv wr=>∃ (j:Nat) (oq:Option Addr) (oc:Nat) (out:List Cf) (rs':lOn) (wk':Int) (mu':Bool),j<=m.length/\ov=.slice oq out.length oc/\jv=.I (j:Int)/\(mu'=false->mu5=false)/\EB12 H w rs wk mu l (Rf H.L z.1.2 fu) k (fun y=>fuP fu x.p y.p) mq mc m j oq oc out rs' wk' mu' wr) (fun _ jv _=>m.length-(intOf jv).toNat)
    case atStart=>exact⟨0,oq,oc,out,rs5,wk5,mu5,o9 _,rfl,rfl,fun e=>e,I5.o⟩
    case round=>
     obtain⟨j,oq6,oc6,out6,rs6,wk6,mu6,hj6,rfl,rfl,hm6,hb6⟩:=hrel;have I6:=aA hb6;have HM6:=aA hm6;clear hb6 I5 hm6;by_cases hjl:j<m.length
     ·have i1:(j:Int)<(m.length:Int):=by omega
      have hw4:IntKind.wrap .i64 ((j:Int)+1)=(j:Int)+1:=wrap_small _ (by omega) (by omega);obtain⟨y,hy⟩:∃ y,m[j]?=some y:=⟨_,g9 hjl⟩;have HY:=aA hy;obtain⟨gm,rfl,gm1,gm2,gm3⟩:=I6.o.ml.at (by omega);have RY:=aA (I6.o.ml.get hy);have HYG:Hid (y.g.length=10):=aA (dV z.1.2 x y (MS.o y (n8 hy)) (HQ.o x (n8 HX.o))).1.g;have hten:Hid (Ten out6):=fun v hv=>by
       rcases I6.o.s v hv with⟨x',hx',h⟩ | h
       ·exact(dV z.1.2 x' v h.1 (HQ.o x' (aAS hx'))).1.g
       ·exact(dV z.1.2 x v (MS.o v (aAS h.1)) (HQ.o x (n8 HX.o))).1.g
      have yp:=bP5 RY.o;obtain⟨g',o',hq',⟨cs',hcs'⟩,hrg'⟩:=(HA.o.es HW.o I6.o.es) k x HX.o;injection hq' with hq1;injection hq1 with hq2 hq3;subst hq2 hq3;have xp:=bP5 hrg';have lg:=aC hcs';clear hy hrg' hcs';go_upto_region 9 with fail
      cases fu with
      | false=>
       have HF:Hid (fuP false x.p y.p):=fun e=>by cases e
       refine wx9 ?_
       repeat (go_big_quiet_step (first | exact rfl))
       refine wpQuiet_nil ?_;intro w7 hw7;have B7:=aA (aM hw7);clear hw7 yp xp;have I7:=aA (I6.o.below B7.o);have RY7:=aA (I7.o.ml.get HY.o);have PU:=aA (gF I7.o.es.wm I7.o.cr (o0 I7.o.es.f.size lz9) HBS.o hten.o HYG.o I7.o.n I7.o.nw);go_upto_region 8 with first
        |((with_reducible refine fF ?_);refine bN rfl _ rfl gm (j*21) rfl y RY7.o ?_)
        |(go_at_call 51;(with_reducible refine(PU.o).mono ?_);rintro e w8 ⟨q8,c8,l8,wk8,mu8,rfl,hp8⟩;have M8:Hid (mu8=false->mu5=false):=fun e=>HM6.o (by cases h2:mu6 with | false=>rfl | true=>have:=hp8.mo h2;rw [e] at this;cases this);have I8:=aA (I7.o.put HY.o HF.o hp8);clear hp8)
       go_wp2;go_roundw
       case rel=>exact⟨j+1,q8,c8,l8,rs6,wk8,mu8,by omega,rfl,by go_num,M8.o,I8.o⟩
       case measure=>simp only [intOf];omega
      | true=>
       by_cases hxy:x.p<y.p
       ·have j0:(x.p:Int)<(y.p:Int):=by omega
        have HF:Hid (fuP true x.p y.p):=fun _=>hxy;clear hxy;refine wx9 ?_
        repeat (go_big_quiet_step (first | exact rfl))
        refine wpQuiet_nil ?_;intro w7 hw7;have B7:=aA (aM hw7);clear hw7 yp xp;have I7:=aA (I6.o.below B7.o);have RY7:=aA (I7.o.ml.get HY.o);have PU:=aA (gF I7.o.es.wm I7.o.cr (o0 I7.o.es.f.size lz9) HBS.o hten.o HYG.o I7.o.n I7.o.nw);go_upto_region 8 with first
         |((with_reducible refine fF ?_);refine bN rfl _ rfl gm (j*21) rfl y RY7.o ?_)
         |(go_at_call 51;(with_reducible refine(PU.o).mono ?_);rintro e w8 ⟨q8,c8,l8,wk8,mu8,rfl,hp8⟩;have M8:Hid (mu8=false->mu5=false):=fun e=>HM6.o (by cases h2:mu6 with | false=>rfl | true=>have:=hp8.mo h2;rw [e] at this;cases this);have I8:=aA (I7.o.put HY.o HF.o hp8);clear hp8)
        go_wp2;go_roundw
        case rel=>exact⟨j+1,q8,c8,l8,rs6,wk8,mu8,by omega,rfl,by go_num,M8.o,I8.o⟩
        case measure=>simp only [intOf];omega
       ·have j0:¬ (x.p:Int)<(y.p:Int):=by omega
        have HF:Hid (¬ fuP true x.p y.p):=fun h=>hxy (h rfl);clear hxy;refine wx9 ?_
        repeat (go_big_quiet_step (first | exact rfl))
        refine wpQuiet_nil ?_;intro w7 hw7;have B7:=aA (aM hw7);clear hw7 yp xp;have I7:=aA (I6.o.below B7.o);have I8:=aA (I7.o.skip HY.o HF.o);go_wp2;go_roundw
        case rel=>exact⟨j+1,oq6,oc6,out6,rs6,wk6,mu6,by omega,rfl,by go_num,HM6.o,I8.o⟩
        case measure=>simp only [intOf];omega
     ·have i1:¬ (j:Int)<(m.length:Int):=by omega
      have HT:Hid (m.take j=m):=aA (o4 (by omega));have A7:Hid (EA12 H w rs wk mu l (Rf H.L z.1.2 fu) (k+1) oq6 oc6 out6 rs6 wk6 mu6 wr):=⟨I6.o.es,I6.o.cr,I6.o.n,I6.o.nw,fun y hy=>by
       rw [HTK.o];rcases I6.o.s y hy with⟨x',hx',h⟩ | h
       ·exact⟨x',o3.2 (.inl hx'),h⟩
       ·rw [HT.o] at h;exact⟨x,by simp,MS.o y h.1,h.2⟩,fun e x' hx' y hy=>by
       rw [HTK.o] at hx';obtain⟨c1,c2⟩:=I6.o.c e;rcases o3.1 hx' with r | r
       ·exact c1 x' r y hy
       ·rw [s9.1 r] at hy;refine c2 y ?_ hy.2;rw [HT.o];exact MC.o (HM6.o e) y hy.1⟩
      go_wp2;go_roundw
      case rel=>exact⟨k+1,oq6,oc6,out6,rs6,wk6,mu6,by omega,rfl,by go_num,A7.o⟩
      case measure=>simp only [intOf];omega
  ·have i0:¬ (k:Int)<(l.length:Int):=by omega
   have D:=aA (DONE.o (fun _=>by omega));clear DONE;go_wp2;go_ret;exact D.o
end
section
attribute [local go_sem] Oper.semAt_some
variable {H:Gh} {V V':World} {rs rs' rs'':lOn} {wk wk':Int} {mu mu' mu'':Bool} {x:Cf}
theorem aS3{n:Nat}(hE:EnC H n)(hk:Gk H){w:World}(hw:WM H w rs wk false){i:Nat}{z:Zl}(hz:H.Z[i]?=some z)(hn:z.1.2.sz<=n+1)(hx:Vf H.L x)(hpl:¬ PlT H.L z.1.2)(hkd:z.1.2.f.k=6) :
  Calls Tryz.prog 27 #[.pointer (some ⟨H.b,0,none⟩),.I (i:Int),.agg (cfA x)] w (EnP H w rs wk false w.heap.size (Mt H.L z.1.2 x)):=by
 have HKD:=aA hkd;have HEC:=aA hE;have HSZ:=aA hn;have HK:=aA hk;have B0:Hid (wBl w (w.alloc (.cells (cfA x) 69))):=bz9;have X0:Hid (BoxC (w.alloc (.cells (cfA x) 69)) w.heap.size x):=aD w _;have W0:=aA (hw.below B0.o);have hil:=(m8.1 hz).1;have iil:(i:Int)<(H.Z.length:Int):=by omega
 have hlen:=hk.len;have hsm:=hk.sm;have HZ:=aA hz;have HX:=aA hx;have HNP:=aA (((aI z.1.2).1 (hk.npz hz)).1);have HPB:Hid (plB H.L z.1.2=false):=aA (by unfold plB;simpa using hpl);have HBS:Hid (H.base<=w.heap.size):=aA (aBC (aBA hw.bb hw.b_lt));have hk2:z.1.2.ks.length<=2000:=by
  have h1:=eY z.1.2.ks;have h2:=dA z.1.2;obtain⟨r,hr⟩:=seg H.t [] i z.1 (hk.at hz);have h5:=congrArg List.length hr;rw [o5,bL,aAR] at h5;have h4:=congrArg List.length hk.mp;rw [aAC] at h4;omega
 clear hw hk hz hx hpl hE hn hkd;go_enter Tryz.func27,Tryz.ntmps27;go_upto_region 1 with fail
 generalize (w.alloc (.cells (cfA x) 69))=w1 at B0 X0 W0 ⊢;have E1:Hid (ES H w rs wk false w1 rs wk false):=⟨W0.o,Grw.refl _ _,Fr.of_below B0.o,fun e=>(by cases e),fun _=>aAW _⟩;have c0:=W0.o.cell (i:=0) rfl;have c14:=W0.o.cell (i:=14) rfl;have c17:=W0.o.cell (i:=17) (v:=.bool false) rfl;have y0:=W0.o.z.cells HZ.o (j:=0) (v:=.I z.1.2.f.k) rfl;have y1:=W0.o.z.cells HZ.o (j:=1) (v:=.I z.1.2.f.n) rfl;have y2:=W0.o.z.cells HZ.o (j:=2) (v:=.I z.1.2.f.mn) rfl;have y3:=W0.o.z.cells HZ.o (j:=3) (v:=.I z.1.2.f.mx) rfl;have y4:=W0.o.z.cells HZ.o (j:=4) (v:=.slice z.1.2.f.rq z.1.2.f.rs.length z.1.2.f.rc) rfl;have y5:=W0.o.z.cells HZ.o (j:=5) (v:=.slice z.1.2.f.kq z.1.2.f.kl z.1.2.f.kc) rfl;rw [aAJ] at y0;go_upto_region 5 with fail
 have B2:Hid (wBl w1 (w1.alloc (.cells (nDf z.1.2.f) 25))):=bz9;have N2:Hid (BoxN (w1.alloc (.cells (nDf z.1.2.f) 25)) w1.heap.size z.1.2.f):=aD w1 _;have E2:=aA (E1.o.below B2.o);have X2:=aA (X0.o.kept B2.o);have HNB:Hid (w.heap.size<w1.heap.size):=aA X0.o.lt;generalize (w1.alloc (.cells (nDf z.1.2.f) 25))=w2 at B2 E2 X2 N2 ⊢;clear B2;generalize w1.heap.size=nb at N2 HNB ⊢;have d14:=E2.o.wm.cell (i:=14) rfl;have p0:w2.cell? ⟨H.pb,i,none⟩=some (.bool false):=by
  have:=aP E2.o.wm.pl (j:=i) (u:=.bool (plB H.L z.1.2)) (by simp [HZ.o]);rw [this,HPB.o]
 clear c0 c14 c17 y0 y1 y2 y3 y4 y5 E1 X0 W0;obtain⟨n0,n1,n2,n3,n4,n5⟩:=N2.o.six;simp only [m7] at n1 n2 n3 n4 n5;have e5:(z.1.2.f.k==5)=false:=by rw [HKD.o];rfl
 have e6:(z.1.2.f.k==6)=true:=by rw [HKD.o];rfl
 have HMT:Hid (∀ y,Mt H.L z.1.2 x y↔MtA H.L z.1.2.ks x y):=fun y=>by rw [cH,if_neg (by have:=HKD.o;omega),if_pos HKD.o]
 have HW2:=aA E2.o.wm;have KC:=aA (jP HK.o E2.o.wm HZ.o);go_upto_region 26 with (go_at_call 52;(with_reducible refine(KC.o).mono ?_);rintro e w3 ⟨kq,kc,rfl,h41,h42⟩;have K3:=aA h41;have B3:=aA h42;clear h41 h42)
 have hkl:(fM i z.1.2.ks).length=z.1.2.ks.length:=dI i z.1.2.ks;have A3:Hid (EA12 H w2 rs wk false [x] (fun _ y=>MtA H.L (z.1.2.ks.take 0) x y) 1 none 0 [] rs wk false w3):=⟨(ES.refl HW2.o).below B3.o,CR12.nil _ _,by simp,fun _=>by simpa using (HW2.o.wk rfl).1,fun y hy=>(by cases hy),fun _ x' _ y hy=>by rw [aAL,cF] at hy;obtain⟨u,hu,-⟩:=hy;cases hu⟩;have HBX:Hid (∀ V rs' wk' mu',ES H w2 rs wk false V rs' wk' mu'->BoxC V w.heap.size x):=fun V rs' wk' mu' h=>fR HW2.o h.f X2.o ⟨by decide,by decide,by decide⟩ (fun e=>e);have HB2:Hid (H.base<=w2.heap.size):=aA (o0 HBS.o E2.o.f.size);rw [hkl];clear hkl B3 n0 n1 n2 n3 n4 n5 d14 p0;go_loopw [7,15] (fun ov jv wr=>∃ (j:Nat) (oq:Option Addr) (oc:Nat) (out:List Cf) (rs':lOn) (wk':Int) (mu':Bool),j<=z.1.2.ks.length/\ov=.slice oq out.length oc/\jv=.I (j:Int)/\EA12 H w2 rs wk false [x] (fun _ y=>MtA H.L (z.1.2.ks.take j) x y) 1 oq oc out rs' wk' mu' wr/\Ls12 w2.heap.size wr kq kc (fM i z.1.2.ks)) (fun _ jv _=>z.1.2.ks.length-(intOf jv).toNat)
 case atStart=>exact⟨0,none,0,[],rs,wk,false,o9 _,rfl,rfl,A3.o,K3.o⟩
 case round=>
  obtain⟨j,oq,oc,out,rs5,wk5,mu5,hj,rfl,rfl,h5,hkl5⟩:=hrel;have A5:=aA h5;have K5:=aA hkl5;clear h5 hkl5 A3;by_cases hjl:j<z.1.2.ks.length
  ·have i0:(j:Int)<(z.1.2.ks.length:Int):=by omega
   have hw2:IntKind.wrap .i64 ((j:Int)+1)=(j:Int)+1:=wrap_small _ (by omega) (by omega);obtain⟨u,hu⟩:∃ u,z.1.2.ks[j]?=some u:=⟨_,g9 hjl⟩;obtain⟨y,q1,q2,q3'⟩:=HK.o.kid HZ.o hu;have HSN:Hid (∀ v,MtA H.L (z.1.2.ks.take (j+1)) x v↔MtA H.L (z.1.2.ks.take j) x v\/Mt H.L y.1.2 x v):=fun v=>by rw [q2,s7,hu,aBH,uQ]
   obtain⟨gk,rfl,gk1,gk2,gk3⟩:=K5.o.at (by rw [dI];omega);have HKP:=aA (iA (i:=i) hjl);have DR:=aA ((Below.refl wr.heap.size wr).drew);have A6:Hid (EA12 H w2 rs wk false [x] (fun _ y=>MtA H.L (z.1.2.ks.take j) x y) 1 oq oc out rs5 wk5 mu5 wr.drew):=⟨A5.o.es.below DR.o,A5.o.cr.kept DR.o,A5.o.n,A5.o.nw,A5.o.s,A5.o.c⟩;have EC:=aA (HEC.o _ x y wr.drew rs5 wk5 mu5 q1 (by rw [q2];have:=bW (n8 hu);have:=HSZ.o;omega) HX.o A6.o.es.wm);have hkpl:i+1+szs (z.1.2.ks.take j)<2000:=(by have:=(m8.1 q1).1;omega);have K6:=aA (K5.o.kept DR.o);have x0:=K6.o.cell HKP.o;have RX:=aA (HBX.o _ _ _ _ A6.o.es).get;generalize i+1+szs (z.1.2.ks.take j)=kp at x0 EC hkpl HKP;clear q1 q2 q3' hu;go_upto_region 28 with fail
   refine wp_region_held_drew (S:=fun w'=>w'.cell? (aDr gk j)=some (.I (kp:Int))/\w'.rangeAt w.heap.size 0 (cfC x)) (by kernel_rfl) ⟨x0,RX.o⟩ ?_;intro hS0;refine aCD (v:=?_) 0 ?_ ?_;rotate_left
   ·intro wz hSw;obtain⟨hs1,hs2⟩:=hSw;go_simp
    try with_reducible rfl
   dsimp only [Act.put,i7,g7,g8];simp only [f8,i8,i9];refine aCD (v:=?_) 1 ?_ ?_;rotate_left
   ·intro wz hSw;obtain⟨hs1,hs2⟩:=hSw;go_simp
    try with_reducible rfl
   dsimp only [Act.put,i7,g7,g8];simp only [f8,i8,i9];refine aCD (v:=?_) 2 ?_ ?_;rotate_left
   ·intro wz hSw;obtain⟨hs1,hs2⟩:=hSw;go_simp
    try with_reducible rfl
   dsimp only [Act.put,i7,g7,g8];simp only [f8,i8,i9];refine aCD (v:=?_) 3 ?_ ?_;rotate_left
   ·intro wz hSw;obtain⟨hs1,hs2⟩:=hSw;go_simp
    try with_reducible rfl
   dsimp only [Act.put,i7,g7,g8];simp only [f8,i8,i9];refine aCD (v:=?_) 4 ?_ ?_;rotate_left
   ·intro wz hSw;obtain⟨hs1,hs2⟩:=hSw;go_simp
    try with_reducible rfl
   dsimp only [Act.put,i7,g7,g8];simp only [f8,i8,i9];refine wpAnyH_take (i:=5) (oi:=_) (v:=_) rfl (by kernel_rfl) (by kernel_rfl) (by kernel_rfl) (fun _ _ _ h=>h) (jE (by rfl) _ rfl w.heap.size 0 rfl x (fun w h=>h.2)) (by assumption) ?_;dsimp only [Act.put,i7,g7,g8];simp only [f8,i8,i9];refine wpAnyH_ready (rs:=[6]) (by kernel_rfl) (by simp) ?_;refine AllReadyH.cons rfl (fun K hK=>?_) AllReadyH.nil;go_simp
   go_at_call 27
   refine(EC.o).mono ?_;rintro e w7 ⟨mq,mc,m,rs7,wk7,mu7,rfl,h71,h72,h73,h74,h75⟩;have I7:=aA (A6.o.into (F:=fun _=>True) h75 h71);have K7:=aA (K6.o.wmf A6.o.es.wm h75.f (fun _ e=>e.elim));have hml:=h72;have MS:=aA h73;have MC:=aA h74;clear h71 h72 h73 h74 h75;refine hK.out _ _ ⟨K7.o.cell HKP.o,(HBX.o _ _ _ _ I7.o.es).get⟩ (fun hS1=>?_);clear hK K;refine wpAnyH_ready (rs:=[7]) (by kernel_rfl) (by simp) ?_;refine AllReadyH.cons rfl (fun K hK=>?_) AllReadyH.nil;go_simp;refine hK.out _ _ ⟨K7.o.cell HKP.o,(HBX.o _ _ _ _ I7.o.es).get⟩ (fun hS2=>?_);clear hK K;refine wpAnyH_done (by kernel_rfl) ?_ _;clear hS0 hS1 hS2 x0 A5 K5;go_upto_region 30 with fail
   go_loopw [7,17] (fun ov jv wr=>∃ (b:Nat) (oq:Option Addr) (oc:Nat) (out:List Cf) (wk':Int) (mu':Bool),b<=m.length/\ov=.slice oq out.length oc/\jv=.I (b:Int)/\(mu'=false->mu7=false)/\EB12 H w2 rs wk false [x] (fun _ y=>MtA H.L (z.1.2.ks.take j) x y) 1 (fun _=>True) mq mc m b oq oc out rs7 wk' mu' wr/\Ls12 w2.heap.size wr (some (aDr gk 0)) kc (fM i z.1.2.ks)) (fun _ jv _=>m.length-(intOf jv).toNat)
   case atStart=>exact⟨0,oq,oc,out,wk7,mu7,o9 _,rfl,rfl,fun e=>e,I7.o,K7.o⟩
   case round=>
    obtain⟨b,oq8,oc8,out8,wk8,mu8,hb8,rfl,rfl,hm8,h8,hk8⟩:=hrel;have I8:=aA h8;have K8:=aA hk8;have M8:=aA hm8;clear h8 hk8 hm8 I7 K7;by_cases hbl:b<m.length
    ·have i1:(b:Int)<(m.length:Int):=by omega
     have hw4:IntKind.wrap .i64 ((b:Int)+1)=(b:Int)+1:=wrap_small _ (by omega) (by omega);obtain⟨v,hv⟩:∃ v,m[b]?=some v:=⟨_,g9 hbl⟩;have HV:=aA hv;obtain⟨gm,rfl,gm1,gm2,gm3⟩:=I8.o.ml.at (by omega);have RV:=aA (I8.o.ml.get hv);have HVG:Hid (v.g.length=10):=aA (dV y.1.2 x v (MS.o v (n8 hv)) HX.o).1.g;have hten:Hid (Ten out8):=fun t ht=>by
      rcases I8.o.s t ht with⟨x',-,h⟩ | h
      ·obtain⟨k',-,h'⟩:=(cF _ _ _).1 h;exact(dV k' x t h' HX.o).1.g
      ·exact(dV y.1.2 x t (MS.o t (aAS h.1)) HX.o).1.g
     have PU:=aA (gF I8.o.es.wm I8.o.cr I8.o.es.f.size HB2.o hten.o HVG.o I8.o.n I8.o.nw);clear hv;go_upto_region 31 with first
      |((with_reducible refine fF ?_);refine bN rfl _ rfl gm (b*21) rfl v RV.o ?_)
      |(go_at_call 51;(with_reducible refine(PU.o).mono ?_);rintro e w9 ⟨q9,c9,l9,wk9,mu9,rfl,hp9⟩;have M9:Hid (mu9=false->mu7=false):=fun e=>M8.o (by cases h2:mu8 with | false=>rfl | true=>have:=hp9.mo h2;rw [e] at this;cases this);have K9:=aA (aP2 K8.o I8.o.es.wm I8.o.cr hp9);have I9:=aA (I8.o.put HV.o trivial hp9);clear hp9)
     go_wp2;go_roundw
     case rel=>exact⟨b+1,q9,c9,l9,wk9,mu9,by omega,rfl,by go_num,M9.o,I9.o,K9.o⟩
     case measure=>simp only [intOf];omega
    ·have i1:¬ (b:Int)<(m.length:Int):=by omega
     have HT:Hid (m.take b=m):=aA (o4 (by omega));have A9:Hid (EA12 H w2 rs wk false [x] (fun _ y=>MtA H.L (z.1.2.ks.take (j+1)) x y) 1 oq8 oc8 out8 rs7 wk8 mu8 wr):=⟨I8.o.es,I8.o.cr,I8.o.n,I8.o.nw,fun t ht=>by
      refine⟨x,by simp,(HSN.o t).2 ?_⟩;rcases I8.o.s t ht with⟨x',-,h⟩ | h
      ·exact .inl h
      ·rw [HT.o] at h;exact .inr (MS.o t h.1),fun e x' hx' t ht=>by
      obtain⟨c1,c2⟩:=I8.o.c e;rcases (HSN.o t).1 ht with r | r
      ·exact c1 x' hx' t r
      ·refine c2 t ?_ trivial;rw [HT.o];exact MC.o (M8.o e) t r⟩
     go_wp2;go_roundw
     case rel=>exact⟨j+1,oq8,oc8,out8,rs7,wk8,mu8,by omega,rfl,by go_num,A9.o,K8.o⟩
     case measure=>simp only [intOf];omega
  ·have i0:¬ (j:Int)<(z.1.2.ks.length:Int):=by omega
   have HT:Hid (z.1.2.ks.take j=z.1.2.ks):=aA (o4 (by omega));go_wp2;go_ret;refine⟨oq,oc,out,rs5,wk5,mu5,rfl,bI A5.o.cr E2.o.f.size,aBL A5.o.n,fun t ht=>?_,fun e t ht=>?_,E2.o.then A5.o.es.wm A5.o.es.g A5.o.es.f (fun _ e=>e.elim) (fun e=>by cases e) A5.o.es.wkm⟩
   ·obtain⟨x',-,h⟩:=A5.o.s t ht;rw [HT.o] at h;exact(HMT.o t).2 h
   ·refine A5.o.c e x (by simp) t ?_;rw [HT.o];exact(HMT.o t).1 ht
end
section
attribute [local go_sem] Oper.semAt_some
variable {H:Gh} {V V':World} {rs rs' rs'':lOn} {wk wk':Int} {mu mu' mu'':Bool} {x:Cf}
theorem aT4(x:Cf){m:Nat}(h:m<10):(cfC x)[1+m*2]?=some (.I (ga x m)):=by
 rcases m with _ | _ | _ | _ | _ | _ | _ | _ | _ | _ | m
 all_goals first | rfl | omega
theorem aT3(x:Cf){m:Nat}(h:m<10):(cfC x)[1+m*2+1]?=some (.I (gb x m)):=by
 rcases m with _ | _ | _ | _ | _ | _ | _ | _ | _ | _ | m
 all_goals first | rfl | omega
theorem aG3{n:Nat}(hE:EnC H n)(hk:Gk H){w:World}(hw:WM H w rs wk false){i:Nat}{z:Zl}(hz:H.Z[i]?=some z)(hn:z.1.2.sz<=n+1)(hx:Vf H.L x)(hpl:¬ PlT H.L z.1.2)(hkd:z.1.2.f.k=8) :
  Calls Tryz.prog 27 #[.pointer (some ⟨H.b,0,none⟩),.I (i:Int),.agg (cfA x)] w (EnP H w rs wk false w.heap.size (Mt H.L z.1.2 x)):=by
 have HWW:=aA hw;have HKD:=aA hkd;have HEC:=aA hE;have HSZ:=aA hn;have HK:=aA hk;have B0:Hid (wBl w (w.alloc (.cells (cfA x) 69))):=bz9;have X0:Hid (BoxC (w.alloc (.cells (cfA x) 69)) w.heap.size x):=aD w _;have W0:=aA (hw.below B0.o);have hil:=(m8.1 hz).1;have iil:(i:Int)<(H.Z.length:Int):=by omega
 have hlen:=hk.len;have hsm:=hk.sm;have HZ:=aA hz;have HX:=aA hx;have HNP:=aA (((aI z.1.2).1 (hk.npz hz)).1);have HPB:Hid (plB H.L z.1.2=false):=aA (by unfold plB;simpa using hpl);have HBS:Hid (H.base<=w.heap.size):=aA (aBC (aBA hw.bb hw.b_lt));have hk2:z.1.2.ks.length<=2000:=by
  have h1:=eY z.1.2.ks;have h2:=dA z.1.2;obtain⟨r,hr⟩:=seg H.t [] i z.1 (hk.at hz);have h5:=congrArg List.length hr;rw [o5,bL,aAR] at h5;have h4:=congrArg List.length hk.mp;rw [aAC] at h4;omega
 clear hw hk hz hx hpl hE hn hkd;go_enter Tryz.func27,Tryz.ntmps27;go_upto_region 1 with fail
 generalize (w.alloc (.cells (cfA x) 69))=w1 at B0 X0 W0 ⊢;have E1:Hid (ES H w rs wk false w1 rs wk false):=⟨W0.o,Grw.refl _ _,Fr.of_below B0.o,fun e=>(by cases e),fun _=>aAW _⟩;have c0:=W0.o.cell (i:=0) rfl;have c14:=W0.o.cell (i:=14) rfl;have c17:=W0.o.cell (i:=17) (v:=.bool false) rfl;have y0:=W0.o.z.cells HZ.o (j:=0) (v:=.I z.1.2.f.k) rfl;have y1:=W0.o.z.cells HZ.o (j:=1) (v:=.I z.1.2.f.n) rfl;have y2:=W0.o.z.cells HZ.o (j:=2) (v:=.I z.1.2.f.mn) rfl;have y3:=W0.o.z.cells HZ.o (j:=3) (v:=.I z.1.2.f.mx) rfl;have y4:=W0.o.z.cells HZ.o (j:=4) (v:=.slice z.1.2.f.rq z.1.2.f.rs.length z.1.2.f.rc) rfl;have y5:=W0.o.z.cells HZ.o (j:=5) (v:=.slice z.1.2.f.kq z.1.2.f.kl z.1.2.f.kc) rfl;rw [aAJ] at y0;go_upto_region 5 with fail
 have B2:Hid (wBl w1 (w1.alloc (.cells (nDf z.1.2.f) 25))):=bz9;have N2:Hid (BoxN (w1.alloc (.cells (nDf z.1.2.f) 25)) w1.heap.size z.1.2.f):=aD w1 _;have E2:=aA (E1.o.below B2.o);have X2:=aA (X0.o.kept B2.o);have HNB:Hid (w.heap.size<w1.heap.size):=aA X0.o.lt;generalize (w1.alloc (.cells (nDf z.1.2.f) 25))=w2 at B2 E2 X2 N2 ⊢;have BW2:Hid (wBl w w2):=aA (B0.o.trans (B2.o.mono B0.o.size));clear B2;generalize w1.heap.size=nb at N2 HNB ⊢;have d14:=E2.o.wm.cell (i:=14) rfl;have p0:w2.cell? ⟨H.pb,i,none⟩=some (.bool false):=by
  have:=aP E2.o.wm.pl (j:=i) (u:=.bool (plB H.L z.1.2)) (by simp [HZ.o]);rw [this,HPB.o]
 clear c0 c14 c17 y0 y1 y2 y3 y4 y5 E1 X0 W0;obtain⟨n0,n1,n2,n3,n4,n5⟩:=N2.o.six;simp only [m7] at n1 n2 n3 n4 n5;have e5:(z.1.2.f.k==5)=false:=by rw [HKD.o];rfl
 have e6:(z.1.2.f.k==6)=false:=by rw [HKD.o];rfl
 have e7:(z.1.2.f.k==7)=false:=by rw [HKD.o];rfl
 have e8:(z.1.2.f.k==8)=true:=by rw [HKD.o];rfl
 have HMT:Hid (∀ y,Mt H.L z.1.2 x y↔fE H.L (vE x.g z.1.2.f.n) x.p=some y.p/\y.g=x.g):=fun y=>by rw [cH,if_neg (by have:=HKD.o;omega),if_neg (by have:=HKD.o;omega),if_neg (by have:=HKD.o;omega),if_pos HKD.o]
 obtain⟨m,hm,hm1,hm2⟩:∃ m:Nat,z.1.2.f.n=(m:Int)/\1<=m/\m<=9:=by
  have hb:=sL HNP.o HKD.o;exact⟨z.1.2.f.n.toNat,by omega,by omega,by omega⟩
 rw [hm] at n1;have im:(m:Int)<10:=by omega
 have HQ:Hid (vE x.g z.1.2.f.n=(ga x m,gb x m)):=aA (by rw [hm];unfold vE ga gb;rw [Int.toNat_natCast]);have pa:w2.cell? ⟨w.heap.size,1+m*2,none⟩=some (.I (ga x m)):=by
  have:=X2.o.get (1+m*2) _ (aT4 x (m:=m) (by omega));rwa [m7] at this
 have pb:w2.cell? ⟨w.heap.size,1+m*2+1,none⟩=some (.I (gb x m)):=by
  have:=X2.o.get (1+m*2+1) _ (aT3 x (m:=m) (by omega));rwa [m7] at this
 have pp:=X2.o.p;have DR:=aA ((Below.refl w2.heap.size w2).drew);have BK:=aA (aU2 (E2.o.below DR.o).wm (ga x m,gb x m) x.p HX.o.p (by omega) (by
  have h:=HX.o.q m (ga x m,gb x m) (by rw [g9 (by have:=HX.o.g;omega)];unfold ga gb;rw [aBE,g9 (by have:=HX.o.g;omega)];rfl);exact h))
 go_upto_region 42 with fail
 refine wp_region_held_drew (S:=fun w'=>w'.cell? (aDr nb 1)=some (.I (m:Int))/\w'.cell? ⟨w.heap.size,1+m*2,none⟩=some (.I (ga x m))/\w'.cell? ⟨w.heap.size,1+m*2+1,none⟩=some (.I (gb x m))/\w'.cell? (aDr w.heap.size 0)=some (.I (x.p:Int))) (by kernel_rfl) ⟨n1,pa,pb,pp⟩ ?_;intro hS0;refine aCD (v:=?_) 0 ?_ ?_;rotate_left
 ·intro wz hSw;obtain⟨hs1,hs2,hs3,hs4⟩:=hSw;go_simp
  try with_reducible rfl
 dsimp only [Act.put,i7,g7,g8];simp only [f8,i8,i9];refine aCD (v:=?_) 1 ?_ ?_;rotate_left
 ·intro wz hSw;obtain⟨hs1,hs2,hs3,hs4⟩:=hSw;go_simp
  try with_reducible rfl
 dsimp only [Act.put,i7,g7,g8];simp only [f8,i8,i9];refine aCD (v:=?_) 2 ?_ ?_;rotate_left
 ·intro wz hSw;obtain⟨hs1,hs2,hs3,hs4⟩:=hSw;go_simp
  try with_reducible rfl
 dsimp only [Act.put,i7,g7,g8];simp only [f8,i8,i9];refine aCD (v:=?_) 3 ?_ ?_;rotate_left
 ·intro wz hSw;obtain⟨hs1,hs2,hs3,hs4⟩:=hSw;go_simp
  try with_reducible rfl
 dsimp only [Act.put,i7,g7,g8];simp only [f8,i8,i9];refine aCD (v:=?_) 4 ?_ ?_;rotate_left
 ·intro wz hSw;obtain⟨hs1,hs2,hs3,hs4⟩:=hSw;go_simp
  try with_reducible rfl
 dsimp only [Act.put,i7,g7,g8];simp only [f8,i8,i9];refine aCD (v:=?_) 5 ?_ ?_;rotate_left
 ·intro wz hSw;obtain⟨hs1,hs2,hs3,hs4⟩:=hSw;go_simp
  try with_reducible rfl
 dsimp only [Act.put,i7,g7,g8];simp only [f8,i8,i9];refine aCD (v:=?_) 6 ?_ ?_;rotate_left
 ·intro wz hSw;obtain⟨hs1,hs2,hs3,hs4⟩:=hSw;go_simp
  try with_reducible rfl
 dsimp only [Act.put,i7,g7,g8];simp only [f8,i8,i9];refine aCD (v:=?_) 7 ?_ ?_;rotate_left
 ·intro wz hSw;obtain⟨hs1,hs2,hs3,hs4⟩:=hSw;go_simp
  try with_reducible rfl
 dsimp only [Act.put,i7,g7,g8];simp only [f8,i8,i9];refine wpAnyH_ready (rs:=[8]) (by kernel_rfl) (by simp) ?_;refine AllReadyH.cons rfl (fun K hK=>?_) AllReadyH.nil;go_simp
 go_at_call 54
 refine(BK.o).mono ?_;rintro e w3 ⟨rfl,h3⟩;have B3:Hid (wBl w2 w3):=aA (DR.o.trans (h3.mono DR.o.size));have E3:=aA (E2.o.below B3.o);have X3:=aA (X2.o.kept B3.o);have S3:Hid (w3.cell? (aDr nb 1)=some (.I (m:Int))/\w3.cell? ⟨w.heap.size,1+m*2,none⟩=some (.I (ga x m))/\w3.cell? ⟨w.heap.size,1+m*2+1,none⟩=some (.I (gb x m))/\w3.cell? (aDr w.heap.size 0)=some (.I (x.p:Int))):=aA ⟨by
   have h:=(show BoxN w3 nb z.1.2.f from (B3.o.block _ (aC N2.o)).trans N2.o).six.2.1;rw [hm] at h;simpa using h,by
   have:=X3.o.get (1+m*2) _ (aT4 x (m:=m) (by omega));rwa [m7] at this,by
   have:=X3.o.get (1+m*2+1) _ (aT3 x (m:=m) (by omega));rwa [m7] at this,X3.o.p⟩
 refine hK.out _ _ S3.o (fun hS1=>?_);clear hK K h3;refine wpAnyH_ready (rs:=[9]) (by kernel_rfl) (by simp) ?_;refine AllReadyH.cons rfl (fun K hK=>?_) AllReadyH.nil;go_simp;refine hK.out _ _ S3.o (fun hS2=>?_);clear hK K;refine wpAnyH_done (by kernel_rfl) ?_ _;clear hS0 hS1 hS2 S3 n0 n1 n2 n3 n4 n5 d14 p0 pa pb pp;obtain⟨t0,hi,hz0,hz1,hz2⟩:=aR nK
 cases hbk:fE H.L (ga x m,gb x m) x.p with
 | none=>
  have HBK:=aA hbk;clear hbk;dsimp only [lfV];go_wp2;go_ret;refine⟨none,0,[],rs,wk,false,rfl,CR12.nil _ _,by simp,fun y hy=>(by cases hy),fun _ y hy=>?_,E3.o⟩;have:=((HMT.o y).1 hy).1;rw [HQ.o,HBK.o] at this;cases this
 | some j=>
  have HBK:=aA hbk;clear hbk;dsimp only [lfV];have j0:(0:Int)<=(j:Int):=by omega
  have X4:=aA (X3.o.setp j);have B4:Hid (wBl w (w3.setCell (aDr w.heap.size 0) (.I (j:Int)))):=(Fr.of_below (S:=fun _=>False) (BW2.o.trans (B3.o.mono BW2.o.size))).setNew (p:=(aDr w.heap.size 0)) lz9 _ |>.below lz9 (fun _ q=>q.elim);have fz:=X3.o.frz 0;have c0:=X3.o.p;go_upto_region 45 with fail
  generalize (w3.setCell (aDr w.heap.size 0) (.I (j:Int)))=w4 at X4 B4 ⊢;have E4:=aA ((ES.refl HWW.o).below B4.o);generalize hy:(⟨j,x.g⟩:Cf)=y at X4;have RX:=aA X4.o.get;have Y7:Hid ((w4.alloc (.cells (cfA y) 69)).ownsRow (w.heap.size+1) 69 21 (.slice none 0 0) 0 []):=aAY _ _ _ _;have HNEW:Hid (∀ j u,(cfC y)[j]?=some u->(w4.alloc (.cells (cfA y) 69)).cell? (((aDr w4.heap.size 0):Addr).add j)=some u):=fU w4 (cfC y) _;have HB8:Hid (w.heap.size+1<=(w4.alloc (.cells (cfA y) 69)).heap.size):=aA (o0 (Nat.succ_le_of_lt X4.o.lt) (by simp));go_wp2_with first
   |((with_reducible refine fF ?_);refine bN rfl _ rfl w.heap.size 0 rfl y RX.o ?_)
   |((with_reducible refine tJ ?_);refine iJ rfl _ rfl y rfl ?_)
   |(at_builtin;refine wpList_append_own_at _ rfl _ _ 63 rfl (w.heap.size+1) 69 t0 tN 21 168 nG hi hz0 hz1 hz2 kY (by decide) (.slice none 0 0) 0 [] rfl Y7.o (aDr w4.heap.size 0) 1 1 (cfC y) rfl (cN y) HNEW.o (oY y) (by unfold maxLen;omega) (by omega) HB8.o ?_;intro v' w5 hown' hgrow _ hmv;obtain⟨q5,c5,rfl⟩:=aQ hown';have O5:=aA hown';have G5:=aA hgrow;clear hown' hgrow hmv)
  have B5:Hid (wBl w4 w5):=((Below.refl w4.heap.size w4).alloc lz9 (.cells (cfA y) 69)).trans (((Fr.refl (fun _=>False) _).grown G5.o (fun k e=>by cases e)).below (by simp) (fun _ e=>e.elim));have C5:Hid (CR12 w.heap.size w5 q5 c5 [y]):=bI (by simpa using O5.o) (aCA _);go_ret;refine⟨q5,c5,[y],rs,wk,false,rfl,C5.o,by simp,fun v hv=>?_,fun _ v hv=>?_,E4.o.below B5.o⟩
  ·rw [s9.1 hv,<- hy];refine(HMT.o _).2 ⟨?_,rfl⟩;rw [HQ.o,HBK.o]
  ·obtain⟨h1,h2⟩:=(HMT.o v).1 hv;rw [HQ.o,HBK.o] at h1;rw [<- hy];obtain⟨vp,vg⟩:=v;simp only at h1 h2;rw [h2,aAE h1];simp
end
section
variable {H:Gh} {V V':World} {rs rs' rs'':lOn} {wk wk':Int} {mu mu' mu'':Bool}
theorem aT2(p:Nat)(g:lIi)(hg:g.length=10){n:Nat}(hn:n<10)(A B:Int):((cfC ⟨p,g⟩).set (1+n*2) (.I A)).set (1+n*2+1) (.I B)=cfC ⟨p,g.set n (A,B)⟩:=by
 match g,hg with
 | [q0,q1,q2,q3,q4,q5,q6,q7,q8,q9],_=>
  rcases n with _ | _ | _ | _ | _ | _ | _ | _ | _ | _ | n
  all_goals first | rfl | omega
theorem vG(Ls:List (List Value)):∀ (_:∀ x∈Ls,x.length=21) {a:Nat} {x:List Value} (_:Ls[a]?=some x) (r:Nat) (_:r<21) (v:Value),Ls.flatten.set (a*21+r) v=(Ls.set a (x.set r v)).flatten:=by
 induction Ls with
 | nil=>intro _ a x h;cases h
 | cons u Ls ih=>
  intro hL a x h r hr v;have hu:=hL u (n9 ..)
  cases a with
  | zero=>
   rw [List.getElem?_cons_zero] at h;cases h;rw [List.flatten_cons,i8,List.flatten_cons,List.set_append_left _ _ (by omega)];simp
  | succ a=>
   rw [aAP] at h;rw [List.flatten_cons,i9,List.flatten_cons,aBU _ _ (by omega),hu,show (a+1)*21+r-21=a*21+r by omega,ih (fun y hy=>hL y (m9 _ hy)) h r hr v]
theorem aR4{l:List Cf}{a:Nat}{t:Cf}(h:l[a]?=some t)(ht:t.g.length=10){n:Nat}(hn:n<10)(A B:Int) :
  ((l.flatMap cfC).set (a*21+(1+n*2)) (.I A)).set (a*21+(1+n*2+1)) (.I B)=(l.set a ⟨t.p,t.g.set n (A,B)⟩).flatMap cfC:=by
 have hl:=(m8.1 h).1;rw [List.flatMap_def,vG (l.map cfC) (fun x hx=>by obtain⟨y,-,rfl⟩:=s4.1 hx;exact cN y) (a:=a) (x:=cfC t) (by rw [aAO,h];rfl) _ (by omega),
  vG _ (fun x hx=>by
   rcases List.mem_or_eq_of_mem_set hx with hx | rfl
   ·obtain⟨y,-,rfl⟩:=s4.1 hx;exact cN y
   ·rw [aAQ,cN]) (a:=a) (x:=(cfC t).set (1+n*2) (.I A)) (by rw [aAZ];simp [hl]) _ (by omega),List.set_set,aT2 t.p t.g ht hn A B,List.flatMap_def,List.map_set]
theorem CR12.setG{base g c:Nat}{l:List Cf}(h:CR12 base V (some (aDr g 0)) c l){a:Nat}{t:Cf}(ht:l[a]?=some t)(h10:t.g.length=10){n:Nat}(hn:n<10)(A B:Int) :
  CR12 base ((V.setCell ⟨g,a*21+(1+n*2),none⟩ (.I A)).setCell ⟨g,a*21+(1+n*2+1),none⟩ (.I B)) (some (aDr g 0)) c (l.set a ⟨t.p,t.g.set n (A,B)⟩):=by
 unfold CR12 at h ⊢;rw [<- aR4 ht h10 hn A B,aAQ];rcases h with⟨h1,⟨q,_⟩ | ⟨g',cap,cur,q1,q2,q3,q4,q5,q6,q7⟩⟩
 ·cases q
 ·cases q1;refine⟨by rw [aAQ,aAQ];exact h1,.inr ⟨g,c,(cur.setIfInBounds (a*21+(1+n*2)) (.I A)).setIfInBounds (a*21+(1+n*2+1)) (.I B),rfl,q2,aJ (aJ q3 _ _) _ _,q4,q5,by simpa using q6,?_⟩⟩;rw [<- q7,Array.toList_setIfInBounds,Array.toList_setIfInBounds,List.take_set,List.take_set]
structure EG12(H:Gh)(w:World)(rs:lOn)(wk:Int)(x:Cf)(N:Int)(mq:Option Addr)(mc:Nat)(m:List Cf)(a b:Nat)(m':List Cf)(oq:Option Addr)(oc:Nat)(out:List Cf)(rs':lOn)(wk':Int)(mu':Bool)(V:World):Prop where
 es:ES H w rs wk false V rs' wk' mu'
 cr:CR12 w.heap.size V oq oc out
 ml:CR12 w.heap.size V mq mc m'
 ap:∀ g,(Value.slice mq m'.length mc).ownBlock=some g->(Value.slice oq out.length oc).ownBlock≠some g
 ln:m'.length=m.length
 sm:∀ k,b<=k->m'[k]?=m[k]?
 n:out.length<=20000
 nw:mu'=false->(out.length:Int)<=wk'
 s:∀ y∈out,∃ t∈m.take a,y=eI H.L N x t
 c:mu'=false->∀ t∈m.take a,eI H.L N x t∈out
variable {w:World} {oq oq' mq:Option Addr} {oc oc' a b mc:Nat} {out out' m m':List Cf} {x:Cf} {n:Int}
theorem EG12.put{t:Cf}{wk2:Int}{mu2:Bool}(h:EG12 H w rs wk x n mq mc m a b m' oq oc out rs' wk' mu' V)(hb:b<=a+1)(ht:m[a]?=some t)(hp:PuI H V rs' wk' mu' w.heap.size oq oc out (eI H.L n x t) oq' oc' out' wk2 mu2 V'):EG12 H w rs wk x n mq mc m (a+1) (a+1) m' oq' oc' out' rs' wk2 mu2 V':=by
 have htk:m.take (a+1)=m.take a++[t]:=by rw [s7,ht];rfl
 refine⟨h.es.put h.cr lz9 hp,hp.cr,?_,fun g hg e=>?_,h.ln,fun k hk=>h.sm k (by omega),hp.n,hp.nw,fun z hz=>?_,fun e u hu=>?_⟩
 ·refine aH h.ml hp.f (fun g hg e=>?_);rcases e with e | e
  ·obtain⟨-,-,cur,hc⟩:=aF h.ml hg;exact bD hc h.es.wm.hd (by decide) e
  ·exact h.ap g hg e
 ·rcases hp.mv with r | r | ⟨g',r1,r2⟩
  ·rw [r] at e;exact h.ap g hg e
  ·rw [r] at e;cases e
  ·rw [r2] at e;have:=(aF h.ml hg).2.1;have:=aAE e;omega
 ·rw [htk];have old:z∈out->∃ u∈m.take a++[t],z=eI H.L n x u:=fun q=>by
   obtain⟨u,h1,h2⟩:=h.s z q;exact⟨u,o3.2 (.inl h1),h2⟩
  rcases hp.is with e | e
  ·rw [e] at hz;exact old hz
  ·rw [e] at hz;rcases o3.1 hz with r | r
   ·exact old r
   ·exact⟨t,by simp,s9.1 r⟩
 ·have hmu:mu'=false:=by
   cases h2:mu' with
   | false=>rfl
   | true=>have:=hp.mo h2;rw [e] at this;cases this
  rw [htk] at hu;rcases o3.1 hu with r | r
  ·have:=h.c hmu u r;rcases hp.is with e2 | e2
   ·rw [e2];exact this
   ·rw [e2];exact o3.2 (.inl this)
  ·rw [s9.1 r];exact hp.has e
theorem EG12.set{g:Nat}{t:Cf}(h:EG12 H w rs wk x n (some (aDr g 0)) mc m a a m' oq oc out rs' wk' mu' V)(hbs:H.base<=w.heap.size)(ht:m'[a]?=some t)(h10:t.g.length=10){N:Nat}(hN:N<10)(A B:Int) :
  EG12 H w rs wk x n (some (aDr g 0)) mc m a (a+1) (m'.set a ⟨t.p,t.g.set N (A,B)⟩) oq oc out rs' wk' mu' ((V.setCell ⟨g,a*21+(1+N*2),none⟩ (.I A)).setCell ⟨g,a*21+(1+N*2+1),none⟩ (.I B)):=by
 have hml:=h.ml.setG ht h10 hN A B;have hf:Fr (fun k=>k=g) V ((V.setCell ⟨g,a*21+(1+N*2),none⟩ (.I A)).setCell ⟨g,a*21+(1+N*2+1),none⟩ (.I B)):=((Fr.refl (fun k=>k=g) V).setCell (p:=⟨g,a*21+(1+N*2),none⟩) rfl _).setCell (p:=⟨g,a*21+(1+N*2+1),none⟩) rfl _;generalize ((V.setCell ⟨g,a*21+(1+N*2),none⟩ (.I A)).setCell ⟨g,a*21+(1+N*2+1),none⟩ (.I B))=V2 at hml hf ⊢;have hal:=(m8.1 ht).1;obtain⟨g',hg',h1,h2,cs,h3⟩:=h.ml.at (by omega);cases hg';have hw:WM H V2 rs' wk' mu':=h.es.wm.fr hf (fun k _ e=>by
  cases e;refine⟨o0 hbs h2,fun e=>?_,cs,_,h3,by unfold sT;decide⟩;obtain⟨-,-,cur,hc⟩:=aF h.es.wm.pl rfl;exact bD h3 hc (by decide) e)
 refine⟨h.es.then (S:=fun k=>k=g) hw (Grw.refl _ _) (hf.mono fun _ e=>.inr e) (fun _ e=>by rw [e];exact h2) (fun e=>e) (fun _=>aAW _),aH h.cr hf (fun k hk e=>?_),hml,fun k hk=>?_,by rw [aAQ];exact h.ln,fun k hk=>?_,h.n,h.nw,h.s,h.c⟩
 ·rw [e] at hk;exact h.ap g rfl hk
 ·rw [aAQ] at hk;exact h.ap k hk
 ·rw [aAZ,if_neg (by omega)];exact h.sm k (by omega)
end
section
attribute [local go_sem] Oper.semAt_some
variable {H:Gh} {V V':World} {rs rs' rs'':lOn} {wk wk':Int} {mu mu' mu'':Bool} {x:Cf}
theorem aA5(H:Gh)(wk:Int)(mu:Bool){N:Nat}(h:N<10):(H.cells wk mu)[4+N]?=some (.bool (H.L.u N)):=by
 rcases N with _ | _ | _ | _ | _ | _ | _ | _ | _ | _ | N
 all_goals first | rfl | omega
theorem EG12.below{w V V':World}{rs rs':lOn}{wk wk':Int}{mu':Bool}{n:Int}{mq oq:Option Addr}{mc a b oc:Nat}{m m' out:List Cf}(h:EG12 H w rs wk x n mq mc m a b m' oq oc out rs' wk' mu' V)(hb:wBl V V'):EG12 H w rs wk x n mq mc m a b m' oq oc out rs' wk' mu' V':=
 ⟨h.es.below hb,h.cr.kept hb,h.ml.kept hb,h.ap,h.ln,h.sm,h.n,h.nw,h.s,h.c⟩
theorem aS1{n:Nat}(hE:EnC H n)(hk:Gk H){w:World}(hw:WM H w rs wk false){i:Nat}{z:Zl}(hz:H.Z[i]?=some z)(hn:z.1.2.sz<=n+1)(hx:Vf H.L x)(hpl:¬ PlT H.L z.1.2)(hkd:z.1.2.f.k=7) :
  Calls Tryz.prog 27 #[.pointer (some ⟨H.b,0,none⟩),.I (i:Int),.agg (cfA x)] w (EnP H w rs wk false w.heap.size (Mt H.L z.1.2 x)):=by
 have HKD:=aA hkd;have HEC:=aA hE;have HSZ:=aA hn;have HK:=aA hk;have B0:Hid (wBl w (w.alloc (.cells (cfA x) 69))):=bz9;have X0:Hid (BoxC (w.alloc (.cells (cfA x) 69)) w.heap.size x):=aD w _;have W0:=aA (hw.below B0.o);have hil:=(m8.1 hz).1;have iil:(i:Int)<(H.Z.length:Int):=by omega
 have hlen:=hk.len;have hsm:=hk.sm;have HZ:=aA hz;have HX:=aA hx;have HNP:=aA (((aI z.1.2).1 (hk.npz hz)).1);have HPB:Hid (plB H.L z.1.2=false):=aA (by unfold plB;simpa using hpl);have HBS:Hid (H.base<=w.heap.size):=aA (aBC (aBA hw.bb hw.b_lt));have hk2:z.1.2.ks.length<=2000:=by
  have h1:=eY z.1.2.ks;have h2:=dA z.1.2;obtain⟨r,hr⟩:=seg H.t [] i z.1 (hk.at hz);have h5:=congrArg List.length hr;rw [o5,bL,aAR] at h5;have h4:=congrArg List.length hk.mp;rw [aAC] at h4;omega
 clear hw hk hz hx hpl hE hn hkd;go_enter Tryz.func27,Tryz.ntmps27;go_upto_region 1 with fail
 generalize (w.alloc (.cells (cfA x) 69))=w1 at B0 X0 W0 ⊢;have E1:Hid (ES H w rs wk false w1 rs wk false):=⟨W0.o,Grw.refl _ _,Fr.of_below B0.o,fun e=>(by cases e),fun _=>aAW _⟩;have c0:=W0.o.cell (i:=0) rfl;have c14:=W0.o.cell (i:=14) rfl;have c17:=W0.o.cell (i:=17) (v:=.bool false) rfl;have y0:=W0.o.z.cells HZ.o (j:=0) (v:=.I z.1.2.f.k) rfl;have y1:=W0.o.z.cells HZ.o (j:=1) (v:=.I z.1.2.f.n) rfl;have y2:=W0.o.z.cells HZ.o (j:=2) (v:=.I z.1.2.f.mn) rfl;have y3:=W0.o.z.cells HZ.o (j:=3) (v:=.I z.1.2.f.mx) rfl;have y4:=W0.o.z.cells HZ.o (j:=4) (v:=.slice z.1.2.f.rq z.1.2.f.rs.length z.1.2.f.rc) rfl;have y5:=W0.o.z.cells HZ.o (j:=5) (v:=.slice z.1.2.f.kq z.1.2.f.kl z.1.2.f.kc) rfl;rw [aAJ] at y0;go_upto_region 5 with fail
 have B2:Hid (wBl w1 (w1.alloc (.cells (nDf z.1.2.f) 25))):=bz9;have N2:Hid (BoxN (w1.alloc (.cells (nDf z.1.2.f) 25)) w1.heap.size z.1.2.f):=aD w1 _;have E2:=aA (E1.o.below B2.o);have X2:=aA (X0.o.kept B2.o);have HNB:Hid (w.heap.size<w1.heap.size):=aA X0.o.lt;generalize (w1.alloc (.cells (nDf z.1.2.f) 25))=w2 at B2 E2 X2 N2 ⊢;clear B2;generalize w1.heap.size=nb at N2 HNB ⊢;have d14:=E2.o.wm.cell (i:=14) rfl;have p0:w2.cell? ⟨H.pb,i,none⟩=some (.bool false):=by
  have:=aP E2.o.wm.pl (j:=i) (u:=.bool (plB H.L z.1.2)) (by simp [HZ.o]);rw [this,HPB.o]
 clear c0 c14 c17 y0 y1 y2 y3 y4 y5 E1 X0 W0;obtain⟨n0,n1,n2,n3,n4,n5⟩:=N2.o.six;simp only [m7] at n1 n2 n3 n4 n5;have e5:(z.1.2.f.k==5)=false:=by rw [HKD.o];rfl
 have e6:(z.1.2.f.k==6)=false:=by rw [HKD.o];rfl
 have e7:(z.1.2.f.k==7)=true:=by rw [HKD.o];rfl
 obtain⟨v,hv⟩:=xT HNP.o (.inl HKD.o);have HMT:Hid (∀ y,Mt H.L z.1.2 x y ↔ ∃ t,Mt H.L v x t/\y=eI H.L z.1.2.f.n x t):=fun y=>by
  rw [cH,if_neg (by have:=HKD.o;omega),if_neg (by have:=HKD.o;omega),if_pos HKD.o,hv];constructor
  ·rintro ⟨t,h1,h2⟩;obtain⟨u,hu,h⟩:=(cF _ _ _).1 h1;rw [s9.1 hu] at h;exact⟨t,h,h2⟩
  ·rintro ⟨t,h1,h2⟩;exact⟨t,(cF _ _ _).2 ⟨v,by simp,h1⟩,h2⟩
 obtain⟨N,hN,hN1,hN2⟩:∃ N:Nat,z.1.2.f.n=(N:Int)/\1<=N/\N<=30:=by
  have hb:=HNP.o.2 HKD.o;exact⟨z.1.2.f.n.toNat,by omega,by omega,by omega⟩
 rw [hN] at n1;have HW2:=aA E2.o.wm;have hv0:z.1.2.ks[0]?=some v:=by rw [hv];rfl
 obtain⟨y,q1,q2,q3'⟩:=HK.o.kid HZ.o hv0;rw [aAL,show szs ([]:List Tr)=0 from rfl,aAJ] at q1;have hi1:=(m8.1 q1).1;have hwi:IntKind.wrap .i64 ((i:Int)+1)=(i:Int)+1:=wrap_small _ (by omega) (by omega);have EC:=aA (HEC.o _ x y w2 rs wk false q1 (by rw [q2];have:=bW (n8 hv0);have:=HSZ.o;omega) HX.o HW2.o);rw [q2,show (((i+1:Nat):Int))=(i:Int)+1 from rfl] at EC;clear q1 q2 q3' hv0;have RX:=aA X2.o.get;go_upto_region 36 with first
  |((with_reducible refine fF ?_);refine bN rfl _ rfl w.heap.size 0 rfl x RX.o ?_)
  |(go_at_call 27;(with_reducible refine(EC.o).mono ?_);rintro e w3 ⟨mq,mc,m,rs3,wk3,mu3,rfl,h71,h72,h73,h74,h75⟩;have A0:Hid (EA12 H w2 rs wk false ([]:List Cf) (fun _ _=>False) 0 none 0 [] rs wk false w2):=aA ⟨ES.refl HW2.o,CR12.nil _ _,by simp,fun _=>by simpa using (HW2.o.wk rfl).1,fun y hy=>(by cases hy),fun _ x' hx'=>by cases hx'⟩;have I3:=aA (A0.o.into (F:=fun _=>True) h75 h71);have hml:=h72;have MS:=aA h73;have MC:=aA h74;clear h71 h72 h73 h74 h75)
 have G3:Hid (EG12 H w2 rs wk x z.1.2.f.n mq mc m 0 0 m none 0 [] rs3 wk3 mu3 w3):=aA ⟨I3.o.es,I3.o.cr,I3.o.ml,I3.o.ap,rfl,fun _ _=>rfl,I3.o.n,I3.o.nw,fun y hy=>(by cases hy),fun _ t ht=>by rw [aAL] at ht;cases ht⟩;have HBX:Hid (∀ V rs' wk' mu',ES H w2 rs wk false V rs' wk' mu'->BoxC V w.heap.size x):=fun V rs' wk' mu' h=>fR HW2.o h.f X2.o ⟨by decide,by decide,by decide⟩ (fun e=>e);have HNX:Hid (∀ V rs' wk' mu',ES H w2 rs wk false V rs' wk' mu'->BoxN V nb z.1.2.f):=fun V rs' wk' mu' h=>fR HW2.o h.f N2.o ⟨by decide,by decide,by decide⟩ (fun e=>e);have HB2:Hid (H.base<=w2.heap.size):=aA (o0 HBS.o E2.o.f.size);have HVM:Hid (∀ t∈m,Vf H.L t):=aA fun t ht=>(dV v x t (MS.o t ht) HX.o).1;have hgl:∀ t:Cf,t.g.length=10->(eI H.L z.1.2.f.n x t).g.length=10:=fun t ht=>by unfold eI;dsimp only;split <;> simp [ht]
 have HGL:=aA hgl;clear hgl n0 n1 n2 n3 n4 n5 d14 p0 RX I3 A0 EC;go_loopw [7,19] (fun ov av wr=>∃ (a:Nat) (oq:Option Addr) (oc:Nat) (out:List Cf) (m':List Cf) (wk':Int) (mu':Bool),a<=m.length/\ov=.slice oq out.length oc/\av=.I (a:Int)/\(mu'=false->mu3=false)/\EG12 H w2 rs wk x z.1.2.f.n mq mc m a a m' oq oc out rs3 wk' mu' wr) (fun _ av _=>m.length-(intOf av).toNat)
 case atStart=>exact⟨0,none,0,[],m,wk3,mu3,o9 _,rfl,rfl,fun e=>e,G3.o⟩
 case round=>
  obtain⟨a,oq,oc,out,m',wk5,mu5,ha,rfl,rfl,hm5,h5⟩:=hrel;have G5:=aA h5;have M5:=aA hm5;clear h5 hm5 G3;by_cases hal:a<m.length
  ·have i0:(a:Int)<(m.length:Int):=by omega
   have hw2:IntKind.wrap .i64 ((a:Int)+1)=(a:Int)+1:=wrap_small _ (by omega) (by omega);obtain⟨t,ht⟩:∃ t,m[a]?=some t:=⟨_,g9 hal⟩;have HT:=aA ht;have HT':Hid (m'[a]?=some t):=aA ((G5.o.sm a lz9).trans ht);have H10:Hid (t.g.length=10):=aA (HVM.o t (n8 ht)).g;have HTN:Hid (Ten out):=fun u hu=>by
    obtain⟨t',h1,h2⟩:=G5.o.s u hu;rw [h2];exact HGL.o t' (HVM.o t' (aAS h1)).g
   have hgt:0<m'.length:=by rw [G5.o.ln];omega
   obtain⟨gm,rfl,gm1,gm2,gm3⟩:=G5.o.ml.at hgt;clear ht hgt;have n1:=(HNX.o _ _ _ _ G5.o.es).six.2.1;rw [hN,m7] at n1;by_cases hT:N<10
   ·have i1:(N:Int)<10:=by omega
    have u1:wr.cell? ⟨H.b,4+N,none⟩=some (.bool (H.L.u N)):=G5.o.es.wm.cell (aA5 H _ _ hT);go_upto_region 38 with fail
    refine wp_region_held_drew (S:=fun w'=>w'.cell? (aDr nb 1)=some (.I (N:Int))/\w'.cell? ⟨H.b,4+N,none⟩=some (.bool (H.L.u N))) (by kernel_rfl) ⟨n1,u1⟩ ?_;intro hS0;refine aCD (v:=?_) 0 ?_ ?_;rotate_left
    ·intro wz hSw;obtain⟨hs1,hs2⟩:=hSw;go_simp
     try with_reducible rfl
    dsimp only [Act.put,i7,g7,g8];simp only [f8,i8,i9];refine aCD (v:=?_) 1 ?_ ?_;rotate_left
    ·intro wz hSw;obtain⟨hs1,hs2⟩:=hSw;go_simp
     try with_reducible rfl
    dsimp only [Act.put,i7,g7,g8];simp only [f8,i8,i9];refine aCD (v:=?_) 2 ?_ ?_;rotate_left
    ·intro wz hSw;obtain⟨hs1,hs2⟩:=hSw;go_simp
     try with_reducible rfl
    dsimp only [Act.put,i7,g7,g8];simp only [f8,i8,i9];refine aCD (v:=?_) 3 ?_ ?_;rotate_left
    ·intro wz hSw;obtain⟨hs1,hs2⟩:=hSw;go_simp
     try with_reducible rfl
    dsimp only [Act.put,i7,g7,g8];simp only [f8,i8,i9];refine aCD (v:=?_) 4 ?_ ?_;rotate_left
    ·intro wz hSw;obtain⟨hs1,hs2⟩:=hSw;go_simp
     try with_reducible rfl
    dsimp only [Act.put,i7,g7,g8];simp only [f8,i8,i9];refine aCD (v:=?_) 5 ?_ ?_;rotate_left
    ·intro wz hSw;obtain⟨hs1,hs2⟩:=hSw;go_simp
     try with_reducible rfl
    dsimp only [Act.put,i7,g7,g8];simp only [f8,i8,i9];refine aCD (v:=?_) 6 ?_ ?_;rotate_left
    ·intro wz hSw;obtain⟨hs1,hs2⟩:=hSw;go_simp
     try with_reducible rfl
    dsimp only [Act.put,i7,g7,g8];simp only [f8,i8,i9];refine aCD (v:=?_) 7 ?_ ?_;rotate_left
    ·intro wz hSw;obtain⟨hs1,hs2⟩:=hSw;go_simp
     try with_reducible rfl
    dsimp only [Act.put,i7,g7,g8];simp only [f8,i8,i9];refine aCD (v:=?_) 8 ?_ ?_;rotate_left
    ·intro wz hSw;obtain⟨hs1,hs2⟩:=hSw;go_simp
     try with_reducible rfl
    dsimp only [Act.put,i7,g7,g8];simp only [f8,i8,i9];refine aCD (v:=?_) 9 ?_ ?_;rotate_left
    ·intro wz hSw;obtain⟨hs1,hs2⟩:=hSw;go_simp
     try with_reducible rfl
    dsimp only [Act.put,i7,g7,g8];simp only [f8,i8,i9];refine aCD (v:=?_) 10 ?_ ?_;rotate_left
    ·intro wz hSw;obtain⟨hs1,hs2⟩:=hSw;go_simp
     try with_reducible rfl
    dsimp only [Act.put,i7,g7,g8];simp only [f8,i8,i9];refine aCD (v:=?_) 11 ?_ ?_;rotate_left
    ·intro wz hSw;obtain⟨hs1,hs2⟩:=hSw;go_simp
     try with_reducible rfl
    dsimp only [Act.put,i7,g7,g8];simp only [f8,i8,i9];refine wpAnyH_done (by kernel_rfl) ?_ _
    cases hu:H.L.u N with
    | false=>
     have G6:Hid (EG12 H w2 rs wk x z.1.2.f.n (some (aDr gm 0)) mc m a a m' oq oc out rs3 wk5 mu5 wr.drew):=aA (G5.o.below ((Below.refl wr.heap.size wr).drew));have HGS:Hid (eI H.L z.1.2.f.n x t=t):=aA (by unfold eI;rw [if_neg (by unfold kep;rw [hN,Int.toNat_natCast,hu];simp)]);have HY10:=H10;clear hS0 u1 hu;have RV:=aA (G6.o.ml.get HT'.o);have PU:=aA (gF (x:=t) G6.o.es.wm G6.o.cr G6.o.es.f.size HB2.o HTN.o HY10.o G6.o.n G6.o.nw);go_upto_region 37 with first
      |((with_reducible refine fF ?_);refine bN rfl _ rfl gm (a*21) rfl t RV.o ?_)
      |(go_at_call 51;(with_reducible refine(PU.o).mono ?_);rintro e w9 ⟨q9,c9,l9,wk9,mu9,rfl,hp9⟩;have M9:Hid (mu9=false->mu3=false):=fun e=>M5.o (by cases h2:mu5 with | false=>rfl | true=>have:=hp9.mo h2;rw [e] at this;cases this);have I9:=aA (G6.o.put (by omega) HT.o (by rw [HGS.o];exact hp9));clear hp9)
     go_wp2;go_roundw
     case rel=>exact⟨a+1,q9,c9,l9,_,wk9,mu9,by omega,rfl,by go_num,M9.o,I9.o⟩
     case measure=>simp only [intOf];omega
    | true=>
     have DD:Hid (wBl wr wr.drew.drew):=aA (((Below.refl wr.heap.size wr).drew).drew);have G55:Hid (EG12 H w2 rs wk x z.1.2.f.n (some (aDr gm 0)) mc m a a m' oq oc out rs3 wk5 mu5 wr.drew.drew):=aA (G5.o.below DD.o);have r1:=(HNX.o _ _ _ _ G55.o.es).six.2.1;rw [hN,m7] at r1;have r2:=(HBX.o _ _ _ _ G55.o.es).p;have r3:wr.drew.drew.cell? ⟨gm,a*21,none⟩=some (.I (t.p:Int)):=by
      have:=G55.o.ml.get HT'.o 0 _ rfl;rwa [aAJ] at this
     have r4:wr.drew.drew.cell? ⟨gm,a*21+(1+N*2),none⟩=some (.I (ga t N)):=G55.o.ml.get HT'.o (1+N*2) _ (aT4 t hT);have r5:wr.drew.drew.cell? ⟨gm,a*21+(1+N*2+1),none⟩=some (.I (gb t N)):=G55.o.ml.get HT'.o (1+N*2+1) _ (aT3 t hT);obtain⟨rcs,hrow0⟩:=gm3;have hrow:=(DD.o.block _ gm1).trans hrow0;have r6:wr.drew.drew.frozen? ⟨gm,a*21+(1+N*2),none⟩=false:=aK hrow _;have r7:wr.drew.drew.frozen? ⟨gm,a*21+(1+N*2+1),none⟩=false:=aK hrow _;rw [<- aAU] at r4 r6;rw [<- aAU,<- aAU] at r5 r7;have G6:Hid (EG12 H w2 rs wk x z.1.2.f.n (some (aDr gm 0)) mc m a (a+1) (m'.set a ⟨t.p,t.g.set N ((x.p:Int),(t.p:Int))⟩) oq oc out rs3 wk5 mu5 ((wr.drew.drew.setCell ⟨gm,a*21+1+N*2,none⟩ (.I (x.p:Int))).setCell ⟨gm,a*21+1+N*2+1,none⟩ (.I (t.p:Int)))):=aA (by
      have:=G55.o.set HB2.o HT'.o H10.o hT (x.p:Int) (t.p:Int);simpa only [aAU] using this)
     have HGS:Hid (eI H.L z.1.2.f.n x t=⟨t.p,t.g.set N ((x.p:Int),(t.p:Int))⟩):=aA (by unfold eI;rw [if_pos (by unfold kep;rw [hN,Int.toNat_natCast,hu];simp [i1]),hN,Int.toNat_natCast]);have HY10:Hid ((t.g.set N ((x.p:Int),(t.p:Int))).length=10):=aA (by rw [aAQ];exact H10.o);have HS2:Hid ((m'.set a ⟨t.p,t.g.set N ((x.p:Int),(t.p:Int))⟩)[a]?=some ⟨t.p,t.g.set N ((x.p:Int),(t.p:Int))⟩):=aA (by rw [aAZ,if_pos rfl,if_pos (m8.1 HT'.o).1]);go_upto_region 39 with fail
     refine wp_region_held_drew (S:=fun w'=>w'.cell? (aDr nb 1)=some (.I (N:Int))/\w'.cell? (aDr w.heap.size 0)=some (.I (x.p:Int))/\w'.cell? ⟨gm,a*21,none⟩=some (.I (t.p:Int))) (by kernel_rfl) ⟨r1,r2,r3⟩ ?_;intro hS1;clear G55 DD hrow r1 r2 r3;generalize wr.drew.drew=w7 at hS1 r4 r5 r6 r7 G6 ⊢;refine aCD (v:=?_) 0 ?_ ?_;rotate_left
     ·intro wz hSw;obtain⟨hs1,hs2,hs3⟩:=hSw;go_simp
      try with_reducible rfl
     dsimp only [Act.put,i7,g7,g8];simp only [f8,i8,i9];refine aCD (v:=?_) 1 ?_ ?_;rotate_left
     ·intro wz hSw;obtain⟨hs1,hs2,hs3⟩:=hSw;go_simp
      try with_reducible rfl
     dsimp only [Act.put,i7,g7,g8];simp only [f8,i8,i9];refine aCD (v:=?_) 2 ?_ ?_;rotate_left
     ·intro wz hSw;obtain⟨hs1,hs2,hs3⟩:=hSw;go_simp
      try with_reducible rfl
     dsimp only [Act.put,i7,g7,g8];simp only [f8,i8,i9];refine aCD (v:=?_) 3 ?_ ?_;rotate_left
     ·intro wz hSw;obtain⟨hs1,hs2,hs3⟩:=hSw;go_simp
      try with_reducible rfl
     dsimp only [Act.put,i7,g7,g8];simp only [f8,i8,i9];refine aCD (v:=?_) 4 ?_ ?_;rotate_left
     ·intro wz hSw;obtain⟨hs1,hs2,hs3⟩:=hSw;go_simp
      try with_reducible rfl
     dsimp only [Act.put,i7,g7,g8];simp only [f8,i8,i9];refine aCD (v:=?_) 5 ?_ ?_;rotate_left
     ·intro wz hSw;obtain⟨hs1,hs2,hs3⟩:=hSw;go_simp
      try with_reducible rfl
     dsimp only [Act.put,i7,g7,g8];simp only [f8,i8,i9];refine aCD (v:=?_) 6 ?_ ?_;rotate_left
     ·intro wz hSw;obtain⟨hs1,hs2,hs3⟩:=hSw;go_simp
      try with_reducible rfl
     dsimp only [Act.put,i7,g7,g8];simp only [f8,i8,i9];refine aCD (v:=?_) 7 ?_ ?_;rotate_left
     ·intro wz hSw;obtain⟨hs1,hs2,hs3⟩:=hSw;go_simp
      try with_reducible rfl
     dsimp only [Act.put,i7,g7,g8];simp only [f8,i8,i9];refine aCD (v:=?_) 8 ?_ ?_;rotate_left
     ·intro wz hSw;obtain⟨hs1,hs2,hs3⟩:=hSw;go_simp
      try with_reducible rfl
     dsimp only [Act.put,i7,g7,g8];simp only [f8,i8,i9];refine aCD (v:=?_) 9 ?_ ?_;rotate_left
     ·intro wz hSw;obtain⟨hs1,hs2,hs3⟩:=hSw;go_simp
      try with_reducible rfl
     dsimp only [Act.put,i7,g7,g8];simp only [f8,i8,i9];refine aCD (v:=?_) 10 ?_ ?_;rotate_left
     ·intro wz hSw;obtain⟨hs1,hs2,hs3⟩:=hSw;go_simp
      try with_reducible rfl
     dsimp only [Act.put,i7,g7,g8];simp only [f8,i8,i9];refine aCD (v:=?_) 11 ?_ ?_;rotate_left
     ·intro wz hSw;obtain⟨hs1,hs2,hs3⟩:=hSw;go_simp
      try with_reducible rfl
     dsimp only [Act.put,i7,g7,g8];simp only [f8,i8,i9];refine aCD (v:=?_) 12 ?_ ?_;rotate_left
     ·intro wz hSw;obtain⟨hs1,hs2,hs3⟩:=hSw;go_simp
      try with_reducible rfl
     dsimp only [Act.put,i7,g7,g8];simp only [f8,i8,i9];refine aCD (v:=?_) 13 ?_ ?_;rotate_left
     ·intro wz hSw;obtain⟨hs1,hs2,hs3⟩:=hSw;go_simp
      try with_reducible rfl
     dsimp only [Act.put,i7,g7,g8];simp only [f8,i8,i9];refine aCD (v:=?_) 14 ?_ ?_;rotate_left
     ·intro wz hSw;obtain⟨hs1,hs2,hs3⟩:=hSw;go_simp
      try with_reducible rfl
     dsimp only [Act.put,i7,g7,g8];simp only [f8,i8,i9];refine wpAnyH_ready (rs:=[15]) (by kernel_rfl) (by simp) ?_;refine AllReadyH.cons rfl (fun K hK=>?_) AllReadyH.nil;go_simp;generalize ((w7.setCell ⟨gm,a*21+1+N*2,none⟩ (.I (x.p:Int))).setCell ⟨gm,a*21+1+N*2+1,none⟩ (.I (t.p:Int)))=w8 at G6 ⊢;have t1:=(HNX.o _ _ _ _ G6.o.es).six.2.1;rw [hN,m7] at t1;have t2:=(HBX.o _ _ _ _ G6.o.es).p;have t3:w8.cell? ⟨gm,a*21,none⟩=some (.I (t.p:Int)):=by
      have:=G6.o.ml.get HS2.o 0 _ rfl;rwa [aAJ] at this
     refine hK.out _ _ ⟨t1,t2,t3⟩ (fun hS2=>?_);clear hK K;refine wpAnyH_done (by kernel_rfl) ?_ _;clear hS0 hS1 hS2 u1 r4 r5 r6 r7 n1 t1 t2 t3 hu;have RV:=aA (G6.o.ml.get HS2.o);have PU:=aA (gF (x:=⟨t.p,t.g.set N ((x.p:Int),(t.p:Int))⟩) G6.o.es.wm G6.o.cr G6.o.es.f.size HB2.o HTN.o HY10.o G6.o.n G6.o.nw);go_upto_region 37 with first
      |((with_reducible refine fF ?_);refine bN rfl _ rfl gm (a*21) rfl ⟨t.p,t.g.set N ((x.p:Int),(t.p:Int))⟩ RV.o ?_)
      |(go_at_call 51;(with_reducible refine(PU.o).mono ?_);rintro e w9 ⟨q9,c9,l9,wk9,mu9,rfl,hp9⟩;have M9:Hid (mu9=false->mu3=false):=fun e=>M5.o (by cases h2:mu5 with | false=>rfl | true=>have:=hp9.mo h2;rw [e] at this;cases this);have I9:=aA (G6.o.put (by omega) HT.o (by rw [HGS.o];exact hp9));clear hp9)
     go_wp2;go_roundw
     case rel=>exact⟨a+1,q9,c9,l9,_,wk9,mu9,by omega,rfl,by go_num,M9.o,I9.o⟩
     case measure=>simp only [intOf];omega
   ·have i1:¬ (N:Int)<10:=by omega
    go_upto_region 38 with fail
    refine wp_region_held_drew (S:=fun w'=>w'.cell? (aDr nb 1)=some (.I (N:Int))/\True) (by kernel_rfl) ⟨n1,trivial⟩ ?_;intro hS0;refine aCD (v:=?_) 0 ?_ ?_;rotate_left
    ·intro wz hSw;obtain⟨hs1,hs2⟩:=hSw;go_simp
     try with_reducible rfl
    dsimp only [Act.put,i7,g7,g8];simp only [f8,i8,i9];refine aCD (v:=?_) 1 ?_ ?_;rotate_left
    ·intro wz hSw;obtain⟨hs1,hs2⟩:=hSw;go_simp
     try with_reducible rfl
    dsimp only [Act.put,i7,g7,g8];simp only [f8,i8,i9];refine aCD (v:=?_) 2 ?_ ?_;rotate_left
    ·intro wz hSw;obtain⟨hs1,hs2⟩:=hSw;go_simp
     try with_reducible rfl
    dsimp only [Act.put,i7,g7,g8];simp only [f8,i8,i9];refine aCD (v:=?_) 3 ?_ ?_;rotate_left
    ·intro wz hSw;obtain⟨hs1,hs2⟩:=hSw;go_simp
     try with_reducible rfl
    dsimp only [Act.put,i7,g7,g8];simp only [f8,i8,i9];refine wpAnyH_take (i:=4) (oi:=_) (v:=undef) rfl (by kernel_rfl) (by kernel_rfl) (by kernel_rfl) (fun _ _ _ h=>h) (Or.inr ⟨by rfl,rfl⟩) (by assumption) ?_;dsimp only [Act.put,i7,g7,g8];simp only [f8,i8,i9];refine wpAnyH_take (i:=5) (oi:=_) (v:=undef) rfl (by kernel_rfl) (by kernel_rfl) (by kernel_rfl) (fun _ _ _ h=>h) (Or.inr ⟨by rfl,rfl⟩) (by assumption) ?_;dsimp only [Act.put,i7,g7,g8];simp only [f8,i8,i9];refine wpAnyH_take (i:=6) (oi:=_) (v:=undef) rfl (by kernel_rfl) (by kernel_rfl) (by kernel_rfl) (fun _ _ _ h=>h) (Or.inr ⟨by rfl,rfl⟩) (by assumption) ?_;dsimp only [Act.put,i7,g7,g8];simp only [f8,i8,i9];refine wpAnyH_take (i:=7) (oi:=_) (v:=undef) rfl (by kernel_rfl) (by kernel_rfl) (by kernel_rfl) (fun _ _ _ h=>h) (Or.inr ⟨by rfl,rfl⟩) (by assumption) ?_;dsimp only [Act.put,i7,g7,g8];simp only [f8,i8,i9];refine wpAnyH_take (i:=8) (oi:=_) (v:=undef) rfl (by kernel_rfl) (by kernel_rfl) (by kernel_rfl) (fun _ _ _ h=>h) (Or.inr ⟨by rfl,rfl⟩) (by assumption) ?_;dsimp only [Act.put,i7,g7,g8];simp only [f8,i8,i9];refine wpAnyH_take (i:=9) (oi:=_) (v:=undef) rfl (by kernel_rfl) (by kernel_rfl) (by kernel_rfl) (fun _ _ _ h=>h) (Or.inr ⟨by rfl,rfl⟩) (by assumption) ?_;dsimp only [Act.put,i7,g7,g8];simp only [f8,i8,i9];refine wpAnyH_take (i:=10) (oi:=_) (v:=undef) rfl (by kernel_rfl) (by kernel_rfl) (by kernel_rfl) (fun _ _ _ h=>h) (Or.inr ⟨by rfl,rfl⟩) (by assumption) ?_;dsimp only [Act.put,i7,g7,g8];simp only [f8,i8,i9];refine aCD (v:=?_) 11 ?_ ?_;rotate_left
    ·intro wz hSw;obtain⟨hs1,hs2⟩:=hSw;go_simp
     try with_reducible rfl
    dsimp only [Act.put,i7,g7,g8];simp only [f8,i8,i9];refine wpAnyH_done (by kernel_rfl) ?_ _;have G6:Hid (EG12 H w2 rs wk x z.1.2.f.n (some (aDr gm 0)) mc m a a m' oq oc out rs3 wk5 mu5 wr.drew):=aA (G5.o.below ((Below.refl wr.heap.size wr).drew));have HGS:Hid (eI H.L z.1.2.f.n x t=t):=aA (by unfold eI;rw [if_neg (by unfold kep;rw [hN];simp;omega)]);have HY10:=H10;clear hS0;have RV:=aA (G6.o.ml.get HT'.o);have PU:=aA (gF (x:=t) G6.o.es.wm G6.o.cr G6.o.es.f.size HB2.o HTN.o HY10.o G6.o.n G6.o.nw);go_upto_region 37 with first
     |((with_reducible refine fF ?_);refine bN rfl _ rfl gm (a*21) rfl t RV.o ?_)
     |(go_at_call 51;(with_reducible refine(PU.o).mono ?_);rintro e w9 ⟨q9,c9,l9,wk9,mu9,rfl,hp9⟩;have M9:Hid (mu9=false->mu3=false):=fun e=>M5.o (by cases h2:mu5 with | false=>rfl | true=>have:=hp9.mo h2;rw [e] at this;cases this);have I9:=aA (G6.o.put (by omega) HT.o (by rw [HGS.o];exact hp9));clear hp9)
    go_wp2;go_roundw
    case rel=>exact⟨a+1,q9,c9,l9,_,wk9,mu9,by omega,rfl,by go_num,M9.o,I9.o⟩
    case measure=>simp only [intOf];omega
  ·have i0:¬ (a:Int)<(m.length:Int):=by omega
   have HT:Hid (m.take a=m):=aA (o4 (by omega));go_wp2;go_ret;refine⟨oq,oc,out,rs3,wk5,mu5,rfl,bI G5.o.cr E2.o.f.size,aBL G5.o.n,fun y hy=>?_,fun e y hy=>?_,E2.o.then G5.o.es.wm G5.o.es.g G5.o.es.f (fun _ e=>e.elim) (fun e=>by cases e) G5.o.es.wkm⟩
   ·obtain⟨t,h1,h2⟩:=G5.o.s y hy;rw [HT.o] at h1;exact(HMT.o y).2 ⟨t,MS.o t h1,h2⟩
   ·obtain⟨t,h1,h2⟩:=(HMT.o y).1 hy;rw [h2];refine G5.o.c e t ?_;rw [HT.o];exact MC.o (M5.o e) t h1
end
section
attribute [local go_sem] Oper.semAt_some
variable {H:Gh} {rs:lOn} {wk:Int} {x:Cf}
theorem aG2{w:World}(hw:WM H w rs wk true)(i:Nat)(R:Cf->Prop) :
  Calls Tryz.prog 27 #[.pointer (some ⟨H.b,0,none⟩),.I (i:Int),.agg (cfA x)] w (EnP H w rs wk true w.heap.size R):=by
 have B0:Hid (wBl w (w.alloc (.cells (cfA x) 69))):=bz9;have E0:=aA ((ES.refl hw).below B0.o);clear hw;go_enter Tryz.func27,Tryz.ntmps27;go_upto_region 1 with fail
 generalize (w.alloc (.cells (cfA x) 69))=w1 at B0 E0 ⊢;have c17:=E0.o.wm.cell (i:=17) (v:=.bool true) rfl;go_wp2;go_ret;exact⟨none,0,[],rs,wk,true,rfl,CR12.nil _ _,by simp,fun y hy=>(by cases hy),fun e=>(by cases e),E0.o⟩
end
section
variable {H:Gh} {V V':World} {rs rs' rs'':lOn} {wk wk':Int} {mu mu' mu'':Bool} {x:Cf} {w:World}
theorem CR12.one(W:World)(y:Cf){base:Nat}(h:base<=W.heap.size):CR12 base (W.alloc (.cells (cfA y) 69)) (some (aDr W.heap.size 0)) 1 [y]:=by
 refine⟨by simp [cN],.inr ⟨W.heap.size,1,cfA y,rfl,h,aD W _,t8 _,by decide,by rw [jU],?_⟩⟩;rw [vU,o4 (by rw [cN];exact t8 _)];simp
theorem yR{L:Ln}{R:Cf->Cf->Prop}{mn:Nat}(hR:∀ a b,R a b->Vf L a->Vf L b){x:Cf}(hx:Vf L x):∀ (k:Nat) (y:Cf),Tn R mn k x y->Vf L y
 | 0,y,h=>by rw [show y=x from h];exact hx
 | k+1,y,h=>by
  obtain⟨z,h1,h2,-⟩:=h;exact hR z y h2 (yR hR hx k z h1)
structure TI12(H:Gh)(w:World)(rs:lOn)(wk:Int)(R:Cf->Cf->Prop)(mn:Nat)(mx:Int)(x:Cf)(t:Nat)(nb:Nat)(f:Fl)(oq:Option Addr)(oc:Nat)(out:List Cf)(nq:Option Addr)(nc:Nat)(now:List Cf)(rs':lOn)(wk':Int)(mu':Bool)(V:World):Prop where
 es:ES H w rs wk false V rs' wk' mu'
 bx:BoxN V nb f
 cr:CR12 w.heap.size V oq oc out
 nr:CR12 w.heap.size V nq nc now
 ap:∀ g,(Value.slice nq now.length nc).ownBlock=some g->(Value.slice oq out.length oc).ownBlock≠some g
 n:out.length<=20000
 nl:now.length<=20001
 wl:mu'=false->(out.length:Int)<=wk'
 ts:TS R mn mx x t (·∈out) (·∈now)
 tc:mu'=false->TC R mn mx x t (·∈out) (·∈now)
variable {R:Cf->Cf->Prop} {mn:Nat} {mx:Int} {t nb:Nat} {f:Fl} {oq nq:Option Addr} {oc nc:Nat} {out now l:List Cf}
theorem TI12.far(h:TI12 H w rs wk R mn mx x t nb f oq oc out nq nc now rs' wk' mu' V)(hR:∀ a b,R a b->Vf H.L a->Vf H.L b)(hx:Vf H.L x)(hn:0<now.length):t<=mn+H.L.s.size:=by
 obtain⟨y,hy⟩:∃ y,now[0]?=some y:=⟨_,g9 hn⟩;have h1:=(h.ts.n y (n8 hy)).1;have h2:=aI9 h1;have h3:=(yR hR hx t y h1).p;omega
theorem TI12.valid(h:TI12 H w rs wk R mn mx x t nb f oq oc out nq nc now rs' wk' mu' V)(hR:∀ a b,R a b->Vf H.L a->Vf H.L b)(hx:Vf H.L x):∀ y∈now,Vf H.L y:=fun y hy=>yR hR hx t y (h.ts.n y hy).1
theorem rT{q6:Option Addr}{c6:Nat}{l6:List Cf}{rs6:lOn}{wk6:Int}{mu6:Bool}{W6:World}{fu:Bool}
  (hes:ES H w rs wk false V rs' wk' mu') (hbx:BoxN V nb f) (hcr:CR12 w.heap.size V oq oc out) (hn:out.length<=20000) (hwl:mu'=false->(out.length:Int)<=wk')
  (hts:∀ N':Cf->Prop,(∀ z,N' z->∃ y∈l,R y z/\fuP fu y.p z.p)->TS R mn mx x (t+1) (·∈out) N')
  (htc:mu'=false->∀ N':Cf->Prop,(∀ z,N' z->∃ y∈l,R y z/\fuP fu y.p z.p)->(∀ y∈l,∀ z,R y z->fuP fu y.p z.p->N' z)->TC R mn mx x (t+1) (·∈out) N')
  (h1:CR12 V.heap.size W6 q6 c6 l6) (h2:l6.length<=20001) (h3:∀ y∈l6,∃ v∈l,R v y/\fuP fu v.p y.p) (h4:mu6=false->∀ y,(∃ v∈l,R v y/\fuP fu v.p y.p)->y∈l6) (h5:ES H V rs' wk' mu' W6 rs6 wk6 mu6) :
  TI12 H w rs wk R mn mx x (t+1) nb f oq oc out q6 c6 l6 rs6 wk6 mu6 W6:=by
 have hmu:mu6=false->mu'=false:=fun e=>by
  cases h2:mu' with
  | false=>rfl
  | true=>have:=h5.mo h2;rw [e] at this;cases this
 refine⟨hes.then h5.wm h5.g h5.f (fun _ e=>e.elim) h5.mo h5.wkm,fR hes.wm h5.f hbx ⟨by decide,by decide,by decide⟩ (fun e=>e),cT hcr hes.wm h5.f (fun _ _ e=>e) ⟨by decide,by decide,by decide⟩,bI h1 hes.f.size,fun g hg e=>?_,hn,h2,fun e=>Int.le_trans (hwl (hmu e)) (h5.wkm e),hts _ h3,fun e=>htc (hmu e) _ h3 (fun y hy z a b=>h4 e z ⟨y,hy,a,b⟩)⟩;have a1:=(aF h1 hg).1;have a2:=(aF hcr e).2.1;omega
end
section
attribute [local go_sem] Oper.semAt_some
variable {H:Gh} {V V':World} {rs rs' rs'':lOn} {wk wk':Int} {mu mu' mu'':Bool} {x:Cf}
theorem CR12.cap{base c:Nat}{q:Option Addr}{l:List Cf}(h:CR12 base V q c l):l.length<=c:=by
 rcases h.2 with⟨e,h0⟩ | ⟨g,cap,cur,e,-,-,hc,-⟩
 ·omega
 ·injection e with _ _ e3;omega
theorem CR12.behind{base c:Nat}{q:Option Addr}{l8 out ad:List Cf}(h:CR12 base V q c l8)(e:l8=out++ad):ArgC V (if c=out.length then q else q.map (·.add (out.length*21))) ad:=fun i y hy=>by
 have hi:=(m8.1 hy).1;have hl:l8.length=out.length+ad.length:=by rw [e,o5]
 have hc:=h.cap;have h8:l8[out.length+i]?=some y:=by rw [e,aAA (by omega),Nat.add_sub_cancel_left];exact hy
 obtain⟨g,rfl,h1,h2,h3⟩:=h.at (by omega);rw [if_neg (by omega)];have hg:=h.get h8;rw [Nat.add_mul] at hg;refine⟨g,out.length*21,?_,h3,hg⟩;simp only [Option.map_some,Addr.add]
 split
 ·next h=>rw [h]
 ·rw [m7]
theorem aB0{n:Nat}(hE:EnC H n)(hk:Gk H){w:World}(hw:WM H w rs wk false){i:Nat}{z:Zl}(hz:H.Z[i]?=some z)(hn:z.1.2.sz<=n+1)(hx:Vf H.L x)(hkd:z.1.2.f.k=9) :
  Calls Tryz.prog 55 #[.pointer (some ⟨H.b,0,none⟩),.I (i:Int),.agg (cfA x)] w (EnP H w rs wk false w.heap.size (Mt H.L z.1.2 x)):=by
 have HWW:=aA hw;have HKD:=aA hkd;have HEC:=aA hE;have HSZ:=aA hn;have HK:=aA hk;have B0:Hid (wBl w (w.alloc (.cells (cfA x) 69))):=bz9;have X0:Hid (BoxC (w.alloc (.cells (cfA x) 69)) w.heap.size x):=aD w _;have W0:=aA (hw.below B0.o);have hil:=(m8.1 hz).1;have iil:(i:Int)<(H.Z.length:Int):=by omega
 have hlen:=hk.len;have hsm:=hk.sm;have HZ:=aA hz;have HX:=aA hx;have HNP:=aA (((aI z.1.2).1 (hk.npz hz)).1);have HBS:Hid (H.base<=w.heap.size):=aA (aBC (aBA hw.bb hw.b_lt));clear hw hk hz hx hE hn hkd;go_enter Tryz.func55,Tryz.ntmps55;go_upto_region 1 with fail
 generalize (w.alloc (.cells (cfA x) 69))=w1 at B0 X0 W0 ⊢;have E1:Hid (ES H w rs wk false w1 rs wk false):=⟨W0.o,Grw.refl _ _,Fr.of_below B0.o,fun e=>(by cases e),fun _=>aAW _⟩;have c0:=W0.o.cell (i:=0) rfl;have y0:=W0.o.z.cells HZ.o (j:=0) (v:=.I z.1.2.f.k) rfl;have y1:=W0.o.z.cells HZ.o (j:=1) (v:=.I z.1.2.f.n) rfl;have y2:=W0.o.z.cells HZ.o (j:=2) (v:=.I z.1.2.f.mn) rfl;have y3:=W0.o.z.cells HZ.o (j:=3) (v:=.I z.1.2.f.mx) rfl;have y4:=W0.o.z.cells HZ.o (j:=4) (v:=.slice z.1.2.f.rq z.1.2.f.rs.length z.1.2.f.rc) rfl;have y5:=W0.o.z.cells HZ.o (j:=5) (v:=.slice z.1.2.f.kq z.1.2.f.kl z.1.2.f.kc) rfl;rw [aAJ] at y0;go_upto_region 3 with fail
 have B2:Hid (wBl w1 (w1.alloc (.cells (nDf z.1.2.f) 25))):=bz9;have N2:Hid (BoxN (w1.alloc (.cells (nDf z.1.2.f) 25)) w1.heap.size z.1.2.f):=aD w1 _;have E2:=aA (E1.o.below B2.o);have X2:=aA (X0.o.kept B2.o);generalize (w1.alloc (.cells (nDf z.1.2.f) 25))=w2 at B2 E2 X2 N2 ⊢;clear B2 c0 y0 y1 y2 y3 y4 y5 E1 X0 W0;generalize w1.heap.size=nb at N2 ⊢;have RX:=aA X2.o.get;have HX2:Hid (w.heap.size<w2.heap.size):=aA X2.o.lt;go_upto_region 4 with first
  |((with_reducible refine fF ?_);refine bN rfl _ rfl w.heap.size 0 rfl x RX.o ?_)
  |((with_reducible refine tJ ?_);refine iJ rfl _ rfl x rfl ?_)
 have B3:Hid (wBl w2 (w2.alloc (.cells (cfA x) 69))):=bz9;have C3:Hid (CR12 w.heap.size (w2.alloc (.cells (cfA x) 69)) (some (aDr w2.heap.size 0)) 1 [x]):=aA (CR12.one w2 x (aBC HX2.o));have E3:=aA (E2.o.below B3.o);have N3:Hid (BoxN (w2.alloc (.cells (cfA x) 69)) nb z.1.2.f):=aA ((B3.o.block _ (aC N2.o)).trans N2.o);generalize w2.heap.size=g3 at C3 ⊢;generalize (w2.alloc (.cells (cfA x) 69))=w3 at C3 E3 N3 ⊢;clear B3 N2 X2 RX E2;obtain⟨v,hv⟩:=xT HNP.o (.inr HKD.o);have hbd:=aN8 HNP.o HKD.o;obtain⟨M,hM⟩:∃ M:Nat,z.1.2.f.mn=(M:Int):=⟨z.1.2.f.mn.toNat,by omega⟩;obtain⟨X,hX⟩:∃ X:Int,z.1.2.f.mx=X:=⟨_,rfl⟩;have HM:=aA hM;have HXX:=aA hX;rw [hM,hX] at hbd;clear hM hX;have HMT:Hid (∀ y,Mt H.L z.1.2 x y↔Rp (Mt H.L v) (M:Int) X x y):=fun y=>by
  rw [cH,if_neg (by have:=HKD.o;omega),if_neg (by have:=HKD.o;omega),if_neg (by have:=HKD.o;omega),if_neg (by have:=HKD.o;omega),if_pos HKD.o,hv,HM.o,HXX.o];have:(fun x y=>MtA H.L [v] x y)=Mt H.L v:=by
   funext a b
   refine propext ⟨fun h=>?_,fun h=>(cF _ _ _).2 ⟨v,by simp,h⟩⟩;obtain⟨u,hu,h⟩:=(cF _ _ _).1 h;rw [s9.1 hu] at h;exact h
  rw [this]
 have HVR:Hid (∀ a b,Mt H.L v a b->Vf H.L a->Vf H.L b):=fun a b h ha=>(dV v a b h ha).1;have hv0:z.1.2.ks[0]?=some v:=by rw [hv];rfl
 obtain⟨y,q1,q2,q3'⟩:=HK.o.kid HZ.o hv0;rw [aAL,show szs ([]:List Tr)=0 from rfl,aAJ] at q1;have hi1:=(m8.1 q1).1;have hwi:IntKind.wrap .i64 ((i:Int)+1)=(i:Int)+1:=wrap_small _ (by omega) (by omega);have EC:Hid (∀ (W:World) (rs5:lOn) (wk5:Int) (mu5:Bool) (q:Option Addr) (c k:Nat) (l:List Cf) (fu:Bool),WM H W rs5 wk5 mu5->ArgC W q l->(∀ x∈l,Vf H.L x)->l.length<=20001->k=l.length ->
   Calls Tryz.prog 53 #[.pointer (some ⟨H.b,0,none⟩),.slice q k c,.I ((i:Int)+1),.bool fu] W (EnP H W rs5 wk5 mu5 W.heap.size (fun y=>∃ x∈l,Mt H.L v x y/\fuP fu x.p y.p))):=aA fun W rs5 wk5 mu5 q c k l fu hW ha hq hl hkl=>by
  rw [hkl];have:=vL HEC.o hW q1 (by rw [q2];have:=bW (n8 hv0);have:=HSZ.o;omega) (c:=c) ha hq hl fu;rw [q2] at this;exact this
 clear q1 q2 q3' hv0;have I3:Hid (TI12 H w rs wk (Mt H.L v) M X x 0 nb z.1.2.f none 0 [] (some (aDr g3 0)) 1 [x] rs wk false w3):=aA ⟨E3.o,N3.o,CR12.nil _ _,C3.o,fun g _ e=>(by cases e),by simp,by simp,fun _=>by simpa using (E3.o.wm.wk rfl).1,by
   have:=yP (R:=Mt H.L v) (mn:=M) (mx:=X) (x:=x) (by omega);refine⟨fun y hy=>this.n y (s9.1 hy),fun y hy=>(by cases hy),fun _ y hy=>(by cases hy)⟩,fun _=>by
   have:=yV (R:=Mt H.L v) (mn:=M) (mx:=X) (x:=x);have e1:(fun y:Cf=>y∈([]:List Cf))=fun _=>False:=(by funext y;simp);have e2:(fun y:Cf=>y∈[x])=fun y=>y=x:=(by funext y;simp);rw [e1,e2];exact this⟩
 clear C3 E3 N3;go_upto_region 5 with fail
 go_loopw [8,9,10] (fun ov nv tv wr=>∃ (t:Nat) (oq:Option Addr) (oc:Nat) (out:List Cf) (nq:Option Addr) (nc:Nat) (now:List Cf) (rs':lOn) (wk':Int) (mu':Bool),t<=2000/\ov=.slice oq out.length oc/\nv=.slice nq now.length nc/\tv=.I (t:Int)/\TI12 H w rs wk (Mt H.L v) M X x t nb z.1.2.f oq oc out nq nc now rs' wk' mu' wr) (fun _ _ tv _=>2001-(intOf tv).toNat)
 case atStart=>exact⟨0,none,0,[],some (aDr g3 0),1,[x],rs,wk,false,by omega,rfl,rfl,rfl,I3.o⟩
 case round=>
  obtain⟨t,oq,oc,out,nq,nc,now,rs5,wk5,mu5,ht,rfl,rfl,rfl,h5⟩:=hrel;have I5:=aA h5;clear h5 I3;have c17:=I5.o.es.wm.cell (i:=17) (v:=.bool mu5) rfl;by_cases hnl:0<now.length
  ·have i0:(0:Int)<(now.length:Int):=by omega
   cases mu5 with
   | true=>
    go_wp2;go_ret;exact⟨oq,oc,out,rs5,wk5,true,rfl,I5.o.cr,aBL I5.o.n,fun y hy=>(HMT.o y).2 (I5.o.ts.o y hy),fun e=>(by cases e),I5.o.es⟩
   | false=>
    have hfar:=I5.o.far HVR.o HX.o hnl;have htl:t<=1260:=(by omega);have hw2:IntKind.wrap .i64 ((t:Int)+1)=(t:Int)+1:=wrap_small _ (by omega) (by omega);have n2:=I5.o.bx.six.2.2.1;have n3:=I5.o.bx.six.2.2.2.1;rw [m7,HM.o] at n2;rw [m7,HXX.o] at n3;by_cases hge:M<=t
    ·have i1:(M:Int)<=(t:Int):=by omega
     have S5:Hid (EB12 H w rs wk false out (fun a b=>b=a) out.length (fun _=>True) nq nc now 0 oq oc out rs5 wk5 false wr):=aA ⟨I5.o.es,I5.o.cr,I5.o.nr,I5.o.ap,I5.o.n,I5.o.wl,fun y hy=>.inl ⟨y,by rw [aBQ];exact hy,rfl⟩,fun _=>⟨fun a ha b hb=>by rw [aBQ] at ha;rw [hb];exact ha,fun y hy=>by rw [aAL] at hy;cases hy⟩⟩;have HTS:=aA I5.o.ts;have HTC:=aA (I5.o.tc rfl);have HVN:=aA (I5.o.valid HVR.o HX.o);have HNL:=aA I5.o.nl;have hnl2:now.length<=20001:=I5.o.nl;have BX5:=aA I5.o.bx;have HVO:Hid (∀ y∈out,Vf H.L y):=aA fun y hy=>by
      obtain⟨k,-,-,h⟩:=I5.o.ts.o y hy;exact yR HVR.o HX.o k y (by simpa using h)
     go_upto_region 10 with fail
     clear n2 n3 c17 I5;go_loopw [8,12] (fun ov av wr=>∃ (b:Nat) (oq:Option Addr) (oc:Nat) (l8:List Cf) (wk':Int) (mu':Bool),b<=now.length/\ov=.slice oq l8.length oc/\av=.I (b:Int)/\(∃ ad,l8=out++ad/\∀ y∈ad,y∈now.take b)/\BoxN wr nb z.1.2.f/\EB12 H w rs wk false out (fun a b=>b=a) out.length (fun _=>True) nq nc now b oq oc l8 rs5 wk' mu' wr) (fun _ av _=>now.length-(intOf av).toNat)
     case atStart=>exact⟨0,oq,oc,out,wk5,false,o9 _,rfl,rfl,⟨[],by rw [t9],fun y hy=>(by cases hy)⟩,BX5.o,S5.o⟩
     case round=>
      obtain⟨b,oq8,oc8,l8,wk8,mu8,hb8,rfl,rfl,had,hbx8,h8⟩:=hrel;have I8:=aA h8;have A8:=aA had;have BX8:=aA hbx8;clear h8 had hbx8 S5 BX5;by_cases hbl:b<now.length
      ·have i3:(b:Int)<(now.length:Int):=by omega
       have hw4:IntKind.wrap .i64 ((b:Int)+1)=(b:Int)+1:=wrap_small _ (by omega) (by omega);obtain⟨u,hu⟩:∃ u,now[b]?=some u:=⟨_,g9 hbl⟩;have HV:=aA hu;obtain⟨gm,rfl,gm1,gm2,gm3⟩:=I8.o.ml.at (by omega);have RV:=aA (I8.o.ml.get hu);have HVG:Hid (u.g.length=10):=aA (HVN.o u (n8 hu)).g;have hten:Hid (Ten l8):=fun y hy=>by
        obtain⟨ad,e,had⟩:=A8.o;rw [e] at hy;rcases o3.1 hy with h | h
        ·exact(HVO.o y h).g
        ·exact(HVN.o y (aAS (had y h))).g
       have PU:=aA (gF I8.o.es.wm I8.o.cr I8.o.es.f.size HBS.o hten.o HVG.o I8.o.n I8.o.nw);clear hu;go_upto_region 11 with first
        |((with_reducible refine fF ?_);refine bN rfl _ rfl gm (b*21) rfl u RV.o ?_)
        |(go_at_call 51;(with_reducible refine(PU.o).mono ?_);rintro e w9 ⟨q9,c9,l9,wk9,mu9,rfl,hp9⟩;have BX9:=aA (bK5 BX8.o I8.o.es.wm I8.o.cr hp9);have I9:=aA (I8.o.put HV.o trivial hp9);have IS9:=aA hp9.is;clear hp9)
       have D9:Hid (∃ ad9,l9=out++ad9/\∀ y∈ad9,y∈now.take (b+1)):=aA (by
        have hk:now.take (b+1)=now.take b++[u]:=(by rw [s7,HV.o];rfl);obtain⟨ad,e0,had⟩:=A8.o;rcases IS9.o with e | e
        ·exact⟨ad,e.trans e0,fun y hy=>by rw [hk];exact o3.2 (.inl (had y hy))⟩
        ·refine⟨ad++[u],by rw [e,e0,r8],fun y hy=>?_⟩;rw [hk];rcases o3.1 hy with h | h
         ·exact o3.2 (.inl (had y h))
         ·exact o3.2 (.inr h))
       clear IS9;go_wp2;go_roundw
       case rel=>exact⟨b+1,q9,c9,l9,wk9,mu9,by omega,rfl,by go_num,D9.o,BX9.o,I9.o⟩
       case measure=>simp only [intOf];omega
      ·have i3:¬ (b:Int)<(now.length:Int):=by omega
       have HT:Hid (now.take b=now):=aA (o4 (by omega));have HAD:Hid (∃ ad,l8=out++ad/\∀ y∈ad,y∈now):=aA (by
        obtain⟨ad,e,had⟩:=A8.o;exact⟨ad,e,fun y hy=>by have:=had y hy;rwa [HT.o] at this⟩)
       have HO1:Hid (∀ y,y∈out->y∈l8):=aA fun y hy=>by
        obtain⟨ad,e,-⟩:=HAD.o;rw [e];exact o3.2 (.inl hy)
       have HO3:Hid (∀ y,y∈l8->y∈out\/(M<=t/\y∈now)):=aA fun y hy=>by
        obtain⟨ad,e,had⟩:=HAD.o;rw [e] at hy;exact(o3.1 hy).imp id fun h=>⟨hge,had y h⟩
       have HO2:Hid (mu8=false->∀ y∈now,y∈l8):=aA fun e y hy=>(I8.o.c e).2 y (by rw [HT.o];exact hy) trivial;have m2:=BX8.o.six.2.2.1;have m3:=BX8.o.six.2.2.2.1;rw [m7,HM.o] at m2;rw [m7,HXX.o] at m3;by_cases hmx:(t:Int)=X
       ·go_wp2;go_ret;refine⟨oq8,oc8,l8,rs5,wk8,mu8,rfl,I8.o.cr,aBL I8.o.n,fun y hy=>(HMT.o y).2 ?_,fun e y hy=>?_,I8.o.es⟩
        ·rcases HO3.o y hy with h | ⟨-,h⟩
         ·exact HTS.o.o y h
         ·obtain⟨a,c⟩:=HTS.o.n y h;exact⟨t,by simpa using hge,c,by simpa using a⟩
        ·rcases (aW0 HTS.o HTC.o hmx hge y).2 ((HMT.o y).1 hy) with h | h
         ·exact HO1.o y h
         ·exact HO2.o e y h
       ·by_cases hinf:X=-1
        ·subst hinf;obtain⟨ad,hl8,had⟩:=HAD.o;have HA:=aA hl8;have HD:=aA had;have hle:(out.length:Int)<=(l8.length:Int):=(by rw [hl8,o5];omega);have hll:l8.length-out.length=ad.length:=(by rw [hl8,o5];omega);have hal:ad.length<=20001:=(by have:=I8.o.n;omega);clear hl8 had;have CE:=aA (EC.o wr rs5 wk8 mu8 _ (oc8-out.length) (l8.length-out.length) ad true I8.o.es.wm (I8.o.cr.behind HA.o) (fun y hy=>HVN.o y (HD.o y hy)) hal hll);clear hll hal;go_upto_region 16 with fail
         generalize (if oc8=out.length then oq8 else Option.map (fun x=>x.add (out.length*21)) oq8)=qd at CE ⊢;go_upto_region 6 with (go_at_call 53;(with_reducible refine(CE.o).mono ?_);rintro e w6 ⟨q6,c6,l6,rs6,wk6,mu6,rfl,h61,h62,h63,h64,h65⟩;have I6:Hid (TI12 H w rs wk (Mt H.L v) M (-1) x (t+1) nb z.1.2.f oq8 oc8 l8 q6 c6 l6 rs6 wk6 mu6 w6):=aA (rT I8.o.es BX8.o I8.o.cr I8.o.n I8.o.nw (fun N' hN=>oJ HTS.o HO3.o (fun z hz=>by obtain⟨y,a,b,c⟩:=hN z hz;exact⟨hmx,y,HD.o y a,b,fun _=>c rfl⟩)) (fun e N' _ hN=>oM HTS.o HTC.o (fun y hy=>HO1.o y hy) (fun _ y hy=>HO2.o e y hy) HO3.o (fun y z a b c _=>by have h9:=HO2.o e y a;rw [HA.o] at h9;exact(o3.1 h9).elim (fun h=>.inr ⟨rfl,hge,.inr h⟩) (fun h=>.inl (hN y h z b (fun _=>c hge))))) h61 h62 h63 h64 h65);clear h61 h62 h63 h64 h65)
         go_wp2;go_roundw
         case rel=>exact⟨t+1,oq8,oc8,l8,q6,c6,l6,rs6,wk6,mu6,by omega,rfl,rfl,by go_num,I6.o⟩
         case measure=>simp only [intOf];omega
        ·have CE:=aA (EC.o wr rs5 wk8 mu8 nq nc _ now true I8.o.es.wm I8.o.ml.arg HVN.o hnl2 rfl);go_upto_region 6 with (go_at_call 53;(with_reducible refine(CE.o).mono ?_);rintro e w6 ⟨q6,c6,l6,rs6,wk6,mu6,rfl,h61,h62,h63,h64,h65⟩;have I6:Hid (TI12 H w rs wk (Mt H.L v) M X x (t+1) nb z.1.2.f oq8 oc8 l8 q6 c6 l6 rs6 wk6 mu6 w6):=aA (rT I8.o.es BX8.o I8.o.cr I8.o.n I8.o.nw (fun N' hN=>oJ HTS.o HO3.o (fun z hz=>by obtain⟨y,a,b,c⟩:=hN z hz;exact⟨hmx,y,a,b,fun _=>c rfl⟩)) (fun e N' _ hN=>oM HTS.o HTC.o (fun y hy=>HO1.o y hy) (fun _ y hy=>HO2.o e y hy) HO3.o (fun y z a b c _=>.inl (hN y a z b (fun _=>c hge)))) h61 h62 h63 h64 h65);clear h61 h62 h63 h64 h65)
         go_wp2;go_roundw
         case rel=>exact⟨t+1,oq8,oc8,l8,q6,c6,l6,rs6,wk6,mu6,by omega,rfl,rfl,by go_num,I6.o⟩
         case measure=>simp only [intOf];omega
    ·have i1:¬ (M:Int)<=(t:Int):=by omega
     have i2:¬ (t:Int)=X:=(by omega);have CE:=aA (EC.o wr rs5 wk5 false nq nc _ now false I5.o.es.wm I5.o.nr.arg (I5.o.valid HVR.o HX.o) I5.o.nl rfl);go_upto_region 6 with (go_at_call 53;(with_reducible refine(CE.o).mono ?_);rintro e w6 ⟨q6,c6,l6,rs6,wk6,mu6,rfl,h61,h62,h63,h64,h65⟩;have I6:Hid (TI12 H w rs wk (Mt H.L v) M X x (t+1) nb z.1.2.f oq oc out q6 c6 l6 rs6 wk6 mu6 w6):=aA (rT I5.o.es I5.o.bx I5.o.cr I5.o.n I5.o.wl (fun N' hN=>oJ I5.o.ts (fun y hy=>.inl hy) (fun z hz=>by obtain⟨y,a,b,_⟩:=hN z hz;exact⟨by omega,y,a,b,fun e=>absurd e hge⟩)) (fun _ N' _ hN=>oM I5.o.ts (I5.o.tc rfl) (fun y hy=>hy) (fun e=>absurd e hge) (fun y hy=>.inl hy) (fun y z a b _ _=>.inl (hN y a z b (fun e=>by cases e)))) h61 h62 h63 h64 h65);clear h61 h62 h63 h64 h65)
     go_wp2;go_roundw
     case rel=>exact⟨t+1,oq,oc,out,q6,c6,l6,rs6,wk6,mu6,by omega,rfl,rfl,by go_num,I6.o⟩
     case measure=>simp only [intOf];omega
  ·have i0:¬ (0:Int)<(now.length:Int):=by omega
   have HNIL:Hid (∀ y,¬ y∈now):=aA fun y hy=>by
    have:=List.length_pos_of_mem hy;omega
   go_wp2;go_ret;exact⟨oq,oc,out,rs5,wk5,mu5,rfl,I5.o.cr,aBL I5.o.n,fun y hy=>(HMT.o y).2 (I5.o.ts.o y hy),fun e y hy=>(aJ6 I5.o.ts (I5.o.tc e) HNIL.o y).2 ((HMT.o y).1 hy),I5.o.es⟩
end
end Go.Proofs.YtlamifbjklpdbaaGreat
