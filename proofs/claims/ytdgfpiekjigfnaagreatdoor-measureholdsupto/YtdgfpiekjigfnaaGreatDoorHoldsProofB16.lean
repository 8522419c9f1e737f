/-
  Parts of the proof.
-/
import Derived.Test.YtdgfpiekjigfnaaGreatDoorHoldsProofA0
import Derived.Test.YtdgfpiekjigfnaaGreatDoorHoldsProofA1
import Derived.Test.YtdgfpiekjigfnaaGreatDoorHoldsProofB15
import Derived.Test.YtdgfpiekjigfnaaGreatDoorHoldsProofB7
import Derived.Test.YtdgfpiekjigfnaaGreatDoorHoldsProofB6
import Derived.BigQuiet
import Derived.Test.YtdgfpiekjigfnaaGreatDoorHoldsProofB2
import Derived.Deep.RegionHeld
import Derived.Laws.EntriesVeiled
import Derived.Test.YtdgfpiekjigfnaaGreatDoorHoldsProofB4
set_option maxRecDepth 100000
set_option maxHeartbeats 8000000
namespace Go.Proofs.YtdgfpiekjigfnaaGreatDoor
open Go Go.RowKit
def NP(c o:Bool)(t:Tr):Prop:=dA c o t/\(t.f.k=7->1<=t.f.n/\t.f.n<=30)
theorem NP.wf{c o:Bool}{t:Tr}(h:NP c o t)(hk:t.f.k=7):(Lit.int .i64 t.f.n).wf=true:=by
 have:=h.2 hk;simp [Lit.wf,IntKind.min,IntKind.max,IntKind.signed,IntKind.bits];omega
theorem tE{P:Tr->Prop}(t:Tr):∀ p,(∀ z∈pp p t,P z.2)->bK P t:=by
 refine Tr.ind (P:=fun t=>∀ p,(∀ z∈pp p t,P z.2)->bK P t) (fun t ih p h=>?_) t;rw [cM] at h;refine(aQ t).2 ⟨h (p,t) (r9 ..),(bS _).2 ?_⟩;have:∀ (ks:List Tr) (i:Nat),(∀ u∈ks,u∈t.ks)->(∀ z∈pps t p i ks,P z.2)->∀ u∈ks,bK P u:=by
  intro ks
  induction ks with
  | nil=>intro i _ _ u hu;cases hu
  | cons v vs ih2=>
   intro i hs hz u hu;rw [bM] at hz;rcases aBB.1 hu with e | e
   ·subst e;exact ih u (hs u (r9 ..)) _ (fun z q=>hz z (o3.2 (.inl q)))
   ·exact ih2 (i+1) (fun x hx=>hs x (r8 _ hx)) (fun z q=>hz z (o3.2 (.inr q))) u e
 exact this t.ks 0 (fun _ h=>h) (fun z hz=>h z (r8 _ hz))
theorem aW9{p:Way}{k:Int}(h:eJ p k=true):eL k=true:=by
 unfold eJ at h
 split at h
 ·exact h
 ·exact sI h
theorem eW{c o:Bool}{t:Tr}(h:aW c o 0 0 (pp [] t)=0):bK (NP c o) t:=by
 refine tE t [] fun z hz=>?_;obtain⟨pre,post,e⟩:=List.append_of_mem hz;have q:=mE _ 0 0 h pre z post e;obtain⟨h1,h2,h3⟩:=kH q;have:=(jK (g:=((0+cD pre:Nat):Int)+1)).1 ⟨aW9 h1,by simpa using h2,h3⟩;refine⟨this.1,fun hk=>?_⟩;have g:=zJ q hk;omega
theorem jM{c o:Bool}{t:Tr}(h:aW c o 0 0 (pp [] t)=0):t.sz<=2000:=by
 rw [<- cT t []];exact mD h
theorem aP5{c o:Bool}{t:Tr}(h:aW c o 0 0 (pp [] t)=0):GpL 0 (pp [] t):=by
 refine aY4 h fun x hx hk=>?_;have:=(((aQ x.2).1 (gN t [] (eW h) x hx)).1).1;unfold dA at this;rw [hk] at this;simp at this;exact this.1.1
section
open Go Go.RowKit Go.Shelf
attribute [local go_sem] Oper.semAt_some
def bks(L:List El):List Int:=L.flatMap fun x=>if x.2.f.k=8 then [x.2.f.n] else []
theorem tM(L:List El)(x:El):bks (L++[x])=bks L++(if x.2.f.k=8 then [x.2.f.n] else []):=by simp [bks]
theorem aN0(L:List El):(bks L).length<=L.length:=by
 induction L with
 | nil=>simp [bks]
 | cons x L ih=>
  rw [show bks (x :: L)=(if x.2.f.k=8 then [x.2.f.n] else [])++bks L from rfl,o4]
  split <;> simp <;> omega
def usd(t:Tr):List Int:=Lib.compact (srt (bks (pp [] t)))
structure UI(w:World)(t:Tr)(bl:Nat)(pre:List (El×Fl))(V:World):Prop where
 ls:∃ (q:Option Addr) (c:Nat),V.heap[bl]?=some (.cells #[.slice q (bks (pre.map (·.1))).length c] 44 (0,0))/\tS w.heap.size V q c (bks (pre.map (·.1)))
 pfx:pre.map (·.1) <+: (pp [] t).take 2000
 bel:wBl w V
theorem aZ3{V V':World}{row:Option Nat}{B b:Nat}{e:TypeId}{size n:Nat}{v:Value}{xs:List Value}(h:V.ownsRow b e size v n xs)(hg:V.grownBy V' row)(hr:∀ r,row=some r->B<=r/\∃ o:Obj,V.heap[r]?=some o/\o.isCells=false):V'.ownsRow b e size v n xs:=by
 refine⟨h.1,?_⟩;rcases h.2 with z | ⟨g,cap,cur,z1,z2,z3,z4⟩
 ·exact .inl z
 ·exact .inr ⟨g,cap,cur,z1,z2,cU hg hr z3,z4⟩
theorem UI.row{w:World}{t:Tr}{bl B:Nat}{pre:List (El×Fl)}{V V':World}{row:Option Nat}(h:UI w t bl pre V)(hn:w.heap.size<=B)(hg:V.grownBy V' row)(hr:∀ r,row=some r->B<=r/\∃ o:Obj,V.heap[r]?=some o/\o.isCells=false):UI w t bl pre V':=by
 obtain⟨⟨q,c,h1,h2⟩,h3,h4⟩:=h;exact⟨⟨q,c,cU hg hr h1,aZ3 h2 hg hr⟩,h3,mQ h4 lz9 hn hg hr⟩
theorem UI.len{w:World}{t:Tr}{bl:Nat}{pre:List (El×Fl)}{V:World}(h:UI w t bl pre V):pre.length<=2000:=by
 have:=h.pfx.length_le;rw [aAE,aAA] at this;omega
theorem bQ9{w V w6:World}{t:Tr}{B bl:Nat}{pre:List (El×Fl)}{x:El×Fl}{V0:World}{q q6:Option Addr}{c c6:Nat}{ob:Obj}(hn:w.heap.size<=bl)(hblB:bl<B)(hk8:x.1.2.f.k=8)
  (h2:V.heap[bl]?=some (.cells #[.slice q (bks (pre.map (·.1))).length c] 44 (0,0))) (h3:tS w.heap.size V q c (bks (pre.map (·.1)))) (hpfx:(pre++[x]).map (·.1) <+: (pp [] t).take 2000) (hbel:wBl w V) (hk0:KXi B x V0 V)
  (o6:w6.ownsRow w.heap.size 3 1 (.slice q6 ((bks (pre.map (·.1))).length+1) c6) ((bks (pre.map (·.1))).length+1) ((bks (pre.map (·.1))).map (Value.int .i64)++[.I x.1.2.f.n])) (hg:(V.alloc ob).grownBy w6 (Value.slice q (bks (pre.map (·.1))).length c).ownBlock) :
  KeepsFrom B V (w6.setCell (aDr bl 0) (.slice q6 ((bks (pre.map (·.1))).length+1) c6))/\KXi B x V0 (w6.setCell (aDr bl 0) (.slice q6 ((bks (pre.map (·.1))).length+1) c6))/\UI w t bl (pre++[x]) (w6.setCell (aDr bl 0) (.slice q6 ((bks (pre.map (·.1))).length+1) c6)):=by
 have F6:Fr (fun z=>(Value.slice q (bks (pre.map (·.1))).length c).ownBlock=some z) V w6:=((Fr.refl _ V).alloc ob).grown hg fun k hk=>hk;have FV:Fr (fun z=>z=bl\/(Value.slice q (bks (pre.map (·.1))).length c).ownBlock=some z) V (w6.setCell (aDr bl 0) (.slice q6 ((bks (pre.map (·.1))).length+1) c6)):=(F6.mono fun k hk=>.inr hk).setCell (p:=(aDr bl 0)) (.inl rfl) _;have lo:∀ k,(k=bl\/(Value.slice q (bks (pre.map (·.1))).length c).ownBlock=some k)->w.heap.size<=k:=fun k hk=>by
  rcases hk with rfl | hk
  ·exact hn
  ·exact(aF h3 hk).1
 have bl6:w6.heap[bl]?=some (.cells #[.slice q (bks (pre.map (·.1))).length c] 44 (0,0)):=lN F6 h2 (fun hk=>aO h3 h2 (by decide) hk);have bl8:=aN bl6 0 (.slice q6 ((bks (pre.map (·.1))).length+1) c6);have hbk:bks ((pre++[x]).map (·.1))=bks (pre.map (·.1))++[x.1.2.f.n]:=by rw [aBS,aBP,aCE,tM,if_pos hk8]
 refine⟨⟨FV.size,fun k o hk ho hc=>(FV.block k (aB ho) fun hs=>?_).trans ho⟩,⟨m8 hk0.size FV.size,fun k cur ty fr hk ht hc=>?_⟩,⟨⟨q6,c6,?_,?_⟩,hpfx,hbel.trans (FV.below (by have:=hbel.size;omega) lo)⟩⟩
 ·rcases hs with rfl | hs
  ·rw [h2] at ho;cases ho;cases hc
  ·obtain⟨_,_,cur,q1⟩:=aF h3 hs;rw [q1] at ho;cases ho;cases hc
 ·have hv:=hk0.same k cur ty fr hk ht hc;refine lN FV hv fun hs=>?_;rcases hs with rfl | hs
  ·have:=hk.1;omega
  ·obtain⟨_,_,cur,q1⟩:=aF h3 hs;rw [q1] at hv;cases hv;exact ht rfl
 ·rw [hbk,o4];exact bl8
 ·unfold tS;rw [hbk,o4,aBS];exact aH o6 ((Fr.refl (fun z=>z=bl) w6).setCell (p:=(aDr bl 0)) rfl _) fun k hk e=>by subst e;exact aO o6 bl6 (by decide) hk
end
section
open Go Go.RowKit Go.Shelf
attribute [local go_sem] Oper.semAt_some
def UsIs(w:World)(L:List Int)(e:Ending)(w':World):Prop:=∃ (q:Option Addr) (c:Nat),e=.returned (.slice q L.length c)/\tS w.heap.size w' q c L/\wBl w w'
theorem aN1{w V V':World}{q:Option Addr}{c:Nat}{zs:List Int}(hb:wBl w V)(h:tS w.heap.size V q c zs)(hg:V.grownBy V' (Value.slice q zs.length c).ownBlock):wBl w V':=
 hb.trans ⟨hg.os,hg.tape,hg.output,hg.size,fun k hk=>hg.block k (by have:=hb.size;omega) (fun e=>by have:=(aF h e.symm).1;omega)⟩
theorem bH7(n:Nat)(hn:4<=n){w:World}{t:Tr}(hta:TB w t)(hlen:(pp [] t).length<=2000) :
  CallsIn Fence.wide n Tryz.prog 40 #[.agg (nDf t.f)] w (UsIs w (usd t)):=by
 have hfn:∀ f,Fence.wide.fn f:=fun _=>trivial;refine callsIn_of_wp_marks Tryz.func40 rfl trivial ?_ rfl;simp only [Tryz.ntmps40,aBK,o5,List.length_nil,Nat.reduceAdd,Nat.reduceSub,aBQ,aBV,aCA,aBW,aAO,aAF];refine wpIn_wide.2 ?_;have HTA:=aC hta;have HLEN:=aC hlen;have B1:Hid (wBl w ((w.alloc (.cells (nDf t.f) 25)).alloc (.cells #[.slice none 0 0] 44))):=(bz9).alloc (by simp) _;have X1:Hid (BoxN ((w.alloc (.cells (nDf t.f) 25)).alloc (.cells #[.slice none 0 0] 44)) w.heap.size t.f):=(Below.heap_alloc _ _ _ (by simp)).trans (aE w _);have X2:Hid (((w.alloc (.cells (nDf t.f) 25)).alloc (.cells #[.slice none 0 0] 44)).heap[w.heap.size+1]?=some (.cells #[.slice none 0 0] 44 (0,0))):=aK _ (by simp only [f4]);clear hta hlen;go_upto_region 2 with fail
 generalize ((w.alloc (.cells (nDf t.f) 25)).alloc (.cells #[.slice none 0 0] 44))=w3 at B1 X1 X2 ⊢;obtain⟨z0,z1,z2,z3,z4,z5⟩:=X1.o.six;simp only [m9] at z1 z2 z3 z4 z5;go_wp2_with (go_at_call 78;(with_reducible refine(bY6 _ _).mono ?_);rintro e w7 ⟨rfl,rfl⟩)
 have K5:wBl w3 (w3.alloc (.cells (nDf t.f) 25)):=bz9;have L5:BoxN (w3.alloc (.cells (nDf t.f) 25)) w3.heap.size t.f:=aE w3 _;have M5:=(K5.block _ (aB X2.o)).trans X2.o;have B5:=aJ B1.o K5 lz9;have HX:=aC (⟨L5,M5,B5⟩:_/\_/\_);have hlb5:w.heap.size+1<(w3.alloc (.cells (nDf t.f) 25)).heap.size:=aB M5;clear L5 M5 B5 K5;generalize (w3.alloc (.cells (nDf t.f) 25))=w5 at HX hlb5 ⊢;generalize w3.heap.size=bq at HX ⊢;obtain⟨L5,M5,B5⟩:=HX.o;have HLB:=aC hlb5;clear HX hlb5 z0 z1 z2 z3 z4 z5 X1 X2 B1;refine(wpIn_wide (n:=n)).1 ?_;refine aY6 hn 8 9 bq rfl rfl L5 HTA.o (CK.of_below B5) (UI w t (w.heap.size+1)) (fun _ _ _=>False) (fun pre A A' row h hg hr=>h.row B5.size hg hr) (fun _ _ _ _ _ h _ _=>h) (fun pre W h=>by have:=h.len;omega) ⟨⟨none,0,M5,aBG _ _ _ _⟩,aCM,B5⟩
  (fun s y x a' W=>∃ bx,BoxN W bx x.2/\a'={ y with tmps:=y.tmps.setIfInBounds 5 (.pointer (some (aDr bx 0))) }) ?_ ?_ ?_ ?_ (fun _ _ _ _ _ _ h _=>h.elim)
 ·rintro s y x a' _ A A' row ⟨bx,h1,h2⟩ hg hr;exact⟨bx,cU hg hr h1,h2⟩
 ·intro l pre x V K _ _ hK;simp only [nE]
  gi_wp2
  exact hK _ _ (bz9) ⟨_,aE V _,rfl⟩
 ·rintro l pre x a' V0 V h ht ⟨bx,hbx,rfl⟩ hk0 hv0;have hlen:=h.len;have hbl:=aN0 (pre.map (·.1));rw [aAE] at hbl;have okk:x.2.k=x.1.2.f.k:=ht.ok.k;have okn:x.2.n=x.1.2.f.n:=ht.ok.n;obtain⟨n0,n1,n2,n3,n4,n5⟩:=hbx.six;simp only [m9] at n1 n2 n3 n4 n5;obtain⟨q,c,h2,h3⟩:=h.ls;have HH:=aC h;have HT:=aC ht;have HK0:=aC hk0;have H2:=aC h2;have H3:=aC h3;have k0:=aA h2 (i:=0) rfl;have hVs:w.heap.size<=V.heap.size:=h.bel.size;simp only [nE];by_cases hk8:x.1.2.f.k=8
  ·have e8:(x.2.k==8)=true:=by rw [okk,hk8];rfl
   have HK8:=aC hk8;rw [okn] at n1;clear h ht hk0 h2 h3 hbx okk okn hk8 n2 n3 n4 n5;obtain⟨t0,hi,hz0,hz1,hz2⟩:=aV aX4;have Y7:Hid ((V.alloc (.cells #[.I x.1.2.f.n] 3)).ownsRow w.heap.size 3 1 (.slice q (bks (pre.map (·.1))).length c) (bks (pre.map (·.1))).length ((bks (pre.map (·.1))).map (Value.int .i64))):=o8 H3.o _;have HNEW:Hid (∀ j u,([.I x.1.2.f.n]:List Value)[j]?=some u->(V.alloc (.cells #[.I x.1.2.f.n] 3)).cell? (((aDr V.heap.size 0):Addr).add j)=some u):=bI V [.I x.1.2.f.n] _;have HB8:Hid (w.heap.size<=(V.alloc (.cells #[.I x.1.2.f.n] 3)).heap.size):=m8 hVs (by simp);have HK9:Hid ((V.alloc (.cells #[.I x.1.2.f.n] 3)).heap[w.heap.size+1]?=some (.cells #[.slice q (bks (pre.map (·.1))).length c] 44 (0,0))):=(Below.heap_alloc _ _ _ (aB H2.o)).trans H2.o
   gi_wp2_with (gi_at_builtin;refine wpListIn_append_own_at _ rfl _ _ 44 rfl w.heap.size 3 t0 (.I 0) 1 8 wF hi hz0 hz1 hz2 rfl (by decide) (.slice q (bks (pre.map (·.1))).length c) (bks (pre.map (·.1))).length ((bks (pre.map (·.1))).map (Value.int .i64)) rfl Y7.o (aDr V.heap.size 0) 1 1 [.I x.1.2.f.n] rfl rfl HNEW.o (by simp [Value.oneCell']) (by unfold maxLen;omega) (by omega) HB8.o ?_;intro v' w6 hown' hgrow _ _;obtain⟨q6,c6,rfl⟩:=aR hown';have O6:=aC hown';have G6:=aC hgrow;have K9:w6.heap[w.heap.size+1]?=some (.cells #[.slice q (bks (pre.map (·.1))).length c] 44 (0,0)):=(hgrow.block _ (aB HK9.o) (fun e=>aO Y7.o HK9.o (by decide) e.symm)).trans HK9.o;have k9:=aA K9 (i:=0) rfl;have f9:=aG K9 0;clear hown' hgrow)
   exact bQ9 (Nat.le_succ _) HLB.o HK8.o H2.o H3.o HT.o.pfx HH.o.bel HK0.o O6.o G6.o
  ·have e8:(x.2.k==8)=false:=by rw [okk];simpa using hk8
   have HK8:=aC hk8;clear h ht hk0 h2 h3 hbx okk okn hk8 n1 n2 n3 n4 n5
   gi_wp2
   refine⟨KeepsFrom.refl _ _,HK0.o,⟨⟨q,c,?_,?_⟩,HT.o.pfx,HH.o.bel⟩⟩
   ·rw [aBS,aBP,aCE,tM,if_neg HK8.o,aBR];exact H2.o
   ·rw [aBS,aBP,aCE,tM,if_neg HK8.o,aBR];exact H3.o
 ·rintro D xs V hD hxs h hK;have he:xs.map (·.1)=pp [] t:=by rw [hxs,n8 HLEN.o]
  obtain⟨q,c,h2,h3⟩:=h.ls;rw [he] at h2 h3;have hbl:=aN0 (pp [] t);have HL:Hid ((bks (pp [] t)).length<=2000):=m8 hbl HLEN.o;obtain⟨L,hL⟩:∃ L,bks (pp [] t)=L:=⟨_,rfl⟩;rw [hL] at h2 h3 HL;have HU:=aC (show usd t=Lib.compact (srt L) by unfold usd;rw [hL]);clear hL hbl;have HB:=aC h.bel;have H2:=aC h2;have H3:=aC h3;have HK:=aC hK;have HD:=aC hD;have SO:=aC (aX1 h3 HL.o);have k0:=aA h2 (i:=0) rfl;have NK:Hid (∀ k,(Value.slice q L.length c).ownBlock=some k->k≠w.heap.size+1/\k≠D):=fun k hk=>⟨fun e=>by subst e;exact aO H3.o H2.o (by decide) hk,fun e=>by
   subst e;obtain⟨_,_,cur,q1⟩:=aF H3.o hk;rw [q1] at hK;cases hK⟩
  clear h hK hD he hxs h2 h3;simp only [fV];go_upto_region 7 with (go_at_call 79;refine(SO.o).mono ?_;rintro e V6 ⟨rfl,o6,g6⟩;have O6:=aC o6;have G6:=aC g6;clear o6 g6)
  have M6:=aC ((G6.o.block _ (aB H2.o) (fun e=>(NK.o _ e.symm).1 rfl)).trans H2.o);have D6:=aC ((G6.o.block _ (aB HK.o) (fun e=>(NK.o _ e.symm).2 rfl)).trans HK.o);have B6:=aC (aN1 HB.o H3.o G6.o);have O7:=aC (show tS w.heap.size V6 q c (srt L) from O6.o);have CO:=aC (zZ O7.o (by rw [rF];exact HL.o));have hsl:=rF L;rw [hsl] at CO;clear k0 SO;have k0:=aA M6.o (i:=0) rfl;go_wp2_with (go_at_call 80;refine(CO.o).mono ?_;rintro e V7 ⟨rfl,o7,g7⟩;have O8:=aC o7;have G8:=aC g7;clear o7 g7)
  have D8:=aC ((G8.o.block _ (aB D6.o) (fun e=>(NK.o _ e.symm).2 rfl)).trans D6.o);have B8:=aC (aN1 B6.o O7.o (by rw [hsl];exact G8.o));refine⟨by simp,.inl ⟨_,_,rfl,run_takeDeferred D8.o,?_⟩⟩;refine⟨.slice q (Lib.compact (srt L)).length c,by simp [results,Tryz.results40,go_sem],q,c,by rw [HU.o],?_,pP _ B8.o (m8 B5.size HD.o)⟩;rw [HU.o];exact rH _ D8.o rfl O8.o
theorem aV3{w:World}{t:Tr}(hta:TB w t)(hlen:(pp [] t).length<=2000):Calls Tryz.prog 40 #[.agg (nDf t.f)] w (UsIs w (usd t)):=callsIn_wide.1 (bH7 4 (by decide) hta hlen)
end
section
open Go Go.RowKit Go.Shelf
attribute [local go_sem] Oper.semAt_some
noncomputable def usV (c o:Bool) (t:Tr):List Int:=if aW c o 0 0 (pp [] t)=0 then usd t else []
noncomputable def frV (c o:Bool) (t:Tr):Bool:=if aW c o 0 0 (pp [] t)=0 then ((usd t).length:Int)==0 else false
theorem UsIs.later{w W w':World}{L:List Int}{e:Ending}(hb:wBl w W)(h:UsIs W L e w'):UsIs w L e w':=by
 obtain⟨q,c,h1,h2,h3⟩:=h;exact⟨q,c,h1,bE h2 hb.size,aJ hb h3 lz9⟩
theorem bG5{w:World}{t:Tr}(c o:Bool)(hta:TB w t):Calls Tryz.prog 19 #[.agg (nDf t.f),.agg #[.bool c,.bool o]] w (UsIs w (usV c o t)):=by
 have B1:Hid (wBl w ((w.alloc (.cells (nDf t.f) 25)).alloc (.cells #[.bool c,.bool o] 27))):=(bz9).alloc (by simp) _;have X1:Hid (BoxN ((w.alloc (.cells (nDf t.f) 25)).alloc (.cells #[.bool c,.bool o] 27)) w.heap.size t.f):=(Below.heap_alloc _ _ _ (by simp)).trans (aE w _);have X2:Hid (((w.alloc (.cells (nDf t.f) 25)).alloc (.cells #[.bool c,.bool o] 27)).heap[w.heap.size+1]?=some (.cells #[.bool c,.bool o] 27 (0,0))):=aK _ (by simp only [f4]);have HTA:=aC hta;clear hta;go_enter Tryz.func19,Tryz.ntmps19;go_upto_region 1 with fail
 generalize ((w.alloc (.cells (nDf t.f) 25)).alloc (.cells #[.bool c,.bool o] 27))=w1 at B1 X1 X2 ⊢;obtain⟨n0,n1,n2,n3,n4,n5⟩:=X1.o.six;simp only [m9] at n1 n2 n3 n4 n5;have a0:=aA X2.o (i:=0) rfl;have a1:=aA X2.o (i:=1) rfl;have RT:=aC (dW c o (HTA.o.kept B1.o));obtain⟨r,hr⟩:∃ r,aW c o 0 0 (pp [] t)=r:=⟨_,rfl⟩;have HR:=aC hr;rw [hr] at RT;clear hr;by_cases hr0:r=0
 ·subst hr0;have E:Hid (usV c o t=usd t):=aC (by unfold usV;rw [if_pos HR.o]);have UC:Hid (∀ W,wBl w W->Calls Tryz.prog 40 #[.agg (nDf t.f)] W (UsIs W (usd t))):=fun W hW=>aV3 (HTA.o.kept hW) (mD HR.o);go_upto_region 3 with (go_at_call 39;refine(RT.o).mono ?_;rintro e w2 ⟨rfl,h2⟩;have B2:=aC (aJ B1.o h2 lz9);have Y1:Hid (BoxN w2 w.heap.size t.f):=(h2.block _ (aB X1.o)).trans X1.o;clear h2)
  clear n0 n1 n2 n3 n4 n5 a0 a1;obtain⟨n0,n1,n2,n3,n4,n5⟩:=Y1.o.six;simp only [m9] at n1 n2 n3 n4 n5;go_wp2_with (go_at_call 40;refine(UC.o _ B2.o).mono ?_;intro e w3 h3;have U3:=aC (UsIs.later B2.o h3);obtain⟨q3,c3,rfl,h4,h5⟩:=h3;clear h4 h5)
  go_ret;rw [E.o];exact U3.o
 ·have E:Hid (usV c o t=[]):=aC (by unfold usV;rw [if_neg (by rw [HR.o];exact hr0)]);have q0:(r != 0)=true:=by simpa using hr0
  have q1:(r==0)=false:=by simpa using hr0
  clear hr0;go_wp2_with (go_at_call 39;refine(RT.o).mono ?_;rintro e w2 ⟨rfl,h2⟩;have B2:=aC (aJ B1.o h2 lz9);clear h2)
  go_ret;rw [E.o];exact⟨none,0,rfl,aBG _ _ _ _,B2.o⟩
theorem aB4{w:World}{t:Tr}(c o:Bool)(hta:TB w t):Calls Tryz.prog 21 #[.agg (nDf t.f),.agg #[.bool c,.bool o]] w fun e w'=>e=.returned (.bool (frV c o t))/\wBl w w':=by
 have B1:Hid (wBl w ((w.alloc (.cells (nDf t.f) 25)).alloc (.cells #[.bool c,.bool o] 27))):=(bz9).alloc (by simp) _;have X1:Hid (BoxN ((w.alloc (.cells (nDf t.f) 25)).alloc (.cells #[.bool c,.bool o] 27)) w.heap.size t.f):=(Below.heap_alloc _ _ _ (by simp)).trans (aE w _);have X2:Hid (((w.alloc (.cells (nDf t.f) 25)).alloc (.cells #[.bool c,.bool o] 27)).heap[w.heap.size+1]?=some (.cells #[.bool c,.bool o] 27 (0,0))):=aK _ (by simp only [f4]);have HTA:=aC hta;clear hta;go_enter Tryz.func21,Tryz.ntmps21;go_upto_region 1 with fail
 generalize ((w.alloc (.cells (nDf t.f) 25)).alloc (.cells #[.bool c,.bool o] 27))=w1 at B1 X1 X2 ⊢;obtain⟨n0,n1,n2,n3,n4,n5⟩:=X1.o.six;simp only [m9] at n1 n2 n3 n4 n5;have a0:=aA X2.o (i:=0) rfl;have a1:=aA X2.o (i:=1) rfl;have RT:=aC (dW c o (HTA.o.kept B1.o));obtain⟨r,hr⟩:∃ r,aW c o 0 0 (pp [] t)=r:=⟨_,rfl⟩;have HR:=aC hr;rw [hr] at RT;clear hr;by_cases hr0:r=0
 ·subst hr0;obtain⟨N,hN⟩:∃ N,(usd t).length=N:=⟨_,rfl⟩;have E:Hid (frV c o t=((N:Int)==0)):=aC (by unfold frV;rw [if_pos HR.o,hN]);have UC:Hid (∀ W,wBl w W->Calls Tryz.prog 40 #[.agg (nDf t.f)] W (fun e w'=>(∃ (q:Option Addr) (k:Nat),e=.returned (.slice q N k))/\wBl W w')):=fun W hW=>(aV3 (HTA.o.kept hW) (mD HR.o)).mono (by
   rintro e w' ⟨q,k,h1,h2,h3⟩;rw [hN] at h1;exact⟨⟨q,k,h1⟩,h3⟩)
  clear hN;go_wp2_with (first |(go_at_call 39;refine(RT.o).mono ?_;rintro e w2 ⟨rfl,h2⟩;have B2:=aC (aJ B1.o h2 lz9);have Y1:Hid (BoxN w2 w.heap.size t.f):=(h2.block _ (aB X1.o)).trans X1.o;clear h2 n0 n1 n2 n3 n4 n5 a0 a1;obtain⟨n0,n1,n2,n3,n4,n5⟩:=Y1.o.six;simp only [m9] at n1 n2 n3 n4 n5) |(go_at_call 40;refine(UC.o _ B2.o).mono ?_;rintro e w3 ⟨⟨q3,k3,rfl⟩,h3⟩;have B3:=aC (aJ B2.o h3 lz9);clear h3))
  go_ret;exact⟨by rw [E.o];rfl,B3.o⟩
 ·have E:Hid (frV c o t=false):=aC (by unfold frV;rw [if_neg (by rw [HR.o];exact hr0)]);have q0:(r != 0)=true:=by simpa using hr0
  have q1:(r==0)=false:=by simpa using hr0
  clear hr0;go_wp2_with (go_at_call 39;refine(RT.o).mono ?_;rintro e w2 ⟨rfl,h2⟩;have B2:=aC (aJ B1.o h2 lz9);clear h2)
  go_ret;exact⟨by rw [E.o];rfl,B2.o⟩
end
section
attribute [local go_sem] Oper.semAt_some
noncomputable def tvI (ρ:dJ (Int)) (c o:Bool) (t:Tr):Int:=if aW c o 0 0 (pp [] t)=0 then (ev ρ (fun _=>0) t).1 else 0
theorem bR5{Glo:World->Prop}(hglo:∀ {A B:World},CK A B->Glo A->Glo B){w:World}(hgw:Glo w){t:Tr}{Good:Int->Prop}{ρ:dJ (Int)}{c o:Bool}(hta:TB w t)(hr:RuI Glo (NP c o) Good ρ c o)(hg:∀ t xs g,NP c o t->xs.length=t.ks.length->(∀ x∈xs,Good x)->(∀ i,Good (g i))->Good (ρ t.f t.ks xs g))(h0:Good 0) :
  Calls Tryz.prog 41 #[.agg (nDf t.f),.agg #[.bool c,.bool o],.func (.func 42) #[] #[]] w fun e w'=>e=.returned (enI (tvI ρ c o t))/\wBl w w':=by
 have HTA:=aC hta;have HGW:=aC hgw;have HR:=aC hr;clear hgw;have HG:=aC hg;have H0:=aC h0;clear hta hr hg h0;by_cases hz:aW c o 0 0 (pp [] t)=0
 ·have HV:Hid (tvI ρ c o t=(ev ρ (fun _=>0) t).1):=if_pos hz;have HZ:=aC hz;clear hz;have hmm:=@run_makeMap Tryz.prog;go_enter Tryz.func41,Tryz.ntmps41;go_upto_region 8 with (go_at_call 39;refine(dW c o (HTA.o.kept (((bz9).alloc (by simp only [f4];omega) _).alloc (by simp only [f4];omega) _))).mono ?_;rintro e w1 ⟨rfl,h1⟩;have B1:=aC h1;clear h1;have rz:=HZ.o)
  have l1:(((w.alloc (.cells (nDf t.f) 25)).alloc (.cells #[.bool c,.bool o] 27)).alloc (.cells #[.func (.func 42) #[] #[]] 97)).heap.size<=w1.heap.size:=B1.o.size;simp only [f4] at l1;have b1:w1.heap[w.heap.size]?=some (.cells (nDf t.f) 25 (0,0)):=(B1.o.block _ (by simp only [f4];omega)).trans (by(repeat (first | exact aK _ (by first | rfl | simp only [f4]) | rw [Below.heap_alloc _ _ _ (by first | omega |(simp only [f4];omega))])));have b2:w1.heap[w.heap.size+1]?=some (.cells #[.bool c,.bool o] 27 (0,0)):=(B1.o.block _ (by simp only [f4];omega)).trans (by(repeat (first | exact aK _ (by first | rfl | simp only [f4]) | rw [Below.heap_alloc _ _ _ (by first | omega |(simp only [f4];omega))])));have b3:w1.heap[w.heap.size+1+1]?=some (.cells #[.func (.func 42) #[] #[]] 97 (0,0)):=(B1.o.block _ (by simp only [f4];omega)).trans (by(repeat (first | exact aK _ (by first | rfl | simp only [f4]) | rw [Below.heap_alloc _ _ _ (by first | omega |(simp only [f4];omega))])));have TT:Hid (TWI ((((w1.alloc (.map #[] 0)).alloc (.cells #[.map (some w1.heap.size)] 153)).alloc (.cells #[.func (.func 81) #[] #[.pointer (some ⟨w1.heap.size+1,0,none⟩)]] 112)).alloc (.cells #[.func (.func 82) #[] #[.pointer (some ⟨w.heap.size+1,0,none⟩),.pointer (some ⟨w1.heap.size+1+1,0,none⟩),.pointer (some ⟨w1.heap.size+1+1+1,0,none⟩),.pointer (some ⟨w.heap.size+1+1,0,none⟩),.pointer (some ⟨w1.heap.size+1,0,none⟩)]] 154)) (w.heap.size+1) (w1.heap.size+1+1) (w1.heap.size+1+1+1) (w.heap.size+1+1) (w1.heap.size+1) w1.heap.size c o):=⟨by rw [<- b2];(repeat (first | exact aK _ (by first | rfl | simp only [f4]) | rw [Below.heap_alloc _ _ _ (by first | omega |(simp only [f4];omega))])),by(repeat (first | exact aK _ (by first | rfl | simp only [f4]) | rw [Below.heap_alloc _ _ _ (by first | omega |(simp only [f4];omega))])),by(repeat (first | exact aK _ (by first | rfl | simp only [f4]) | rw [Below.heap_alloc _ _ _ (by first | omega |(simp only [f4];omega))])),by rw [<- b3];(repeat (first | exact aK _ (by first | rfl | simp only [f4]) | rw [Below.heap_alloc _ _ _ (by first | omega |(simp only [f4];omega))])),by(repeat (first | exact aK _ (by first | rfl | simp only [f4]) | rw [Below.heap_alloc _ _ _ (by first | omega |(simp only [f4];omega))]))⟩;have BX:Hid (wBl w1 ((((w1.alloc (.map #[] 0)).alloc (.cells #[.map (some w1.heap.size)] 153)).alloc (.cells #[.func (.func 81) #[] #[.pointer (some ⟨w1.heap.size+1,0,none⟩)]] 112)).alloc (.cells #[.func (.func 82) #[] #[.pointer (some ⟨w.heap.size+1,0,none⟩),.pointer (some ⟨w1.heap.size+1+1,0,none⟩),.pointer (some ⟨w1.heap.size+1+1+1,0,none⟩),.pointer (some ⟨w.heap.size+1+1,0,none⟩),.pointer (some ⟨w1.heap.size+1,0,none⟩)]] 154))):=(((bz9).alloc (by simp only [f4];omega) _).alloc (by simp only [f4];omega) _).alloc (by simp only [f4];omega) _;have MM:Hid (MapV ((((w1.alloc (.map #[] 0)).alloc (.cells #[.map (some w1.heap.size)] 153)).alloc (.cells #[.func (.func 81) #[] #[.pointer (some ⟨w1.heap.size+1,0,none⟩)]] 112)).alloc (.cells #[.func (.func 82) #[] #[.pointer (some ⟨w.heap.size+1,0,none⟩),.pointer (some ⟨w1.heap.size+1+1,0,none⟩),.pointer (some ⟨w1.heap.size+1+1+1,0,none⟩),.pointer (some ⟨w.heap.size+1+1,0,none⟩),.pointer (some ⟨w1.heap.size+1,0,none⟩)]] 154)) (.I 0) w1.heap.size 0 (fun _=>enI 0)):=(((MapV.made w1 (.I 0)).kept (bz9)).kept (bz9)).kept (bz9);have BN:=aC ((BX.o.block _ (aB b1)).trans b1);generalize hWX:((((w1.alloc (.map #[] 0)).alloc (.cells #[.map (some w1.heap.size)] 153)).alloc (.cells #[.func (.func 81) #[] #[.pointer (some ⟨w1.heap.size+1,0,none⟩)]] 112)).alloc (.cells #[.func (.func 82) #[] #[.pointer (some ⟨w.heap.size+1,0,none⟩),.pointer (some ⟨w1.heap.size+1+1,0,none⟩),.pointer (some ⟨w1.heap.size+1+1+1,0,none⟩),.pointer (some ⟨w.heap.size+1+1,0,none⟩),.pointer (some ⟨w1.heap.size+1,0,none⟩)]] 154))=WX at TT BX MM BN ⊢;clear hWX b1 b2 b3;have B9:Hid (wBl w WX):=aJ (aJ (((bz9).alloc (by simp only [f4];omega) _).alloc (by simp only [f4];omega) _) B1.o lz9) BX.o lz9;have hO:=bZ3 hglo HR.o (fun t h k=>h.wf k) HG.o (w.heap.size+1) (w1.heap.size+1+1) (w1.heap.size+1+1+1) (w.heap.size+1+1) (w1.heap.size+1) w1.heap.size t.sz t WX 0 (fun _=>0) lz9 (by have:=jM HZ.o;omega) (hglo (CK.of_below B9.o) HGW.o) (HTA.o.kept B9.o) (eW HZ.o) (fun _=>H0.o) TT.o MM.o;obtain⟨x,hx⟩:∃ x,tvI ρ c o t=x:=⟨_,rfl⟩;have HC:Hid (Calls Tryz.prog 82 #[.agg (nDf t.f),.pointer (some ⟨w.heap.size+1,0,none⟩),.pointer (some ⟨w1.heap.size+1+1,0,none⟩),.pointer (some ⟨w1.heap.size+1+1+1,0,none⟩),.pointer (some ⟨w.heap.size+1+1,0,none⟩),.pointer (some ⟨w1.heap.size+1,0,none⟩)] WX (fun e w'=>e=.returned (.I x)/\Fr (fun k=>k=w1.heap.size) WX w')):=aC (hO.mono fun e w' h=>⟨by rw [h.1,<- HV.o,hx];rfl,h.2.2⟩);have HX:=aC hx;clear hO hx;have o0:WX.cell? ⟨w1.heap.size+1+1+1,0,none⟩=some (.func (.func 82) #[] #[.pointer (some ⟨w.heap.size+1,0,none⟩),.pointer (some ⟨w1.heap.size+1+1,0,none⟩),.pointer (some ⟨w1.heap.size+1+1+1,0,none⟩),.pointer (some ⟨w.heap.size+1+1,0,none⟩),.pointer (some ⟨w1.heap.size+1,0,none⟩)]):=aA TT.o.o (i:=0) rfl;have n0:WX.cell? (aDr w.heap.size 0)=some (.I t.f.k):=aA BN.o (i:=0) rfl;have n1:WX.cell? (aDr w.heap.size 1)=some (.I t.f.n):=aA BN.o (i:=1) rfl;have n2:WX.cell? (aDr w.heap.size 2)=some (.I t.f.mn):=aA BN.o (i:=2) rfl;have n3:WX.cell? (aDr w.heap.size 3)=some (.I t.f.mx):=aA BN.o (i:=3) rfl;have n4:WX.cell? (aDr w.heap.size 4)=some (.slice t.f.rq t.f.rs.length t.f.rc):=aA BN.o (i:=4) rfl;have n5:WX.cell? (aDr w.heap.size 5)=some (.slice t.f.kq t.f.kl t.f.kc):=aA BN.o (i:=5) rfl;go_wp2_with (go_at_call 82;refine HC.o.mono ?_;rintro e w5 ⟨rfl,h5⟩;have F5:=aC h5;clear h5)
  go_ret;exact⟨by rw [HX.o];rfl,bB B9.o F5.o lz9 (fun k e=>by rw [e];exact m8 (by omega) l1)⟩
 ·have HV:Hid (tvI ρ c o t=0):=if_neg hz;have HZ:=aC hz;obtain⟨r,hrr⟩:∃ r,aW c o 0 0 (pp [] t)=r:=⟨_,rfl⟩;have rz:(r==0)=false:=by rw [<- hrr];simpa using hz
  have rz2:(r != 0)=true:=by rw [bne,rz];rfl
  have HQ:=aC hrr;clear hz hrr;go_enter Tryz.func41,Tryz.ntmps41;go_wp2_with (go_at_call 39;refine(dW c o (HTA.o.kept (((bz9).alloc (by simp only [f4];omega) _).alloc (by simp only [f4];omega) _))).mono ?_;rw [HQ.o];rintro e w1 ⟨rfl,h1⟩;have B1:=aC h1;clear h1)
  go_ret;exact⟨by rw [HV.o];rfl,aJ (((bz9).alloc (by simp only [f4];omega) _).alloc (by simp only [f4];omega) _) B1.o lz9⟩
end
section
attribute [local go_sem] Oper.semAt_some aS
def wide(l:lIi):Int:=16*((l.filter fun r=>decide (127<r.2)).length:Int)
def gS(l:lIi):Int:=if l.any (fun r=>decide (r.2<=127)) then 1 else 0
def oE(c:Bool)(l:lIi):Int:=if c then max (wide l+gS l) 1 else 1
theorem aO1(l:lIi)(r:Int×Int):wide (l++[r])=wide l+(if 127<r.2 then 16 else 0):=by
 unfold wide;rw [List.filter_append];by_cases h:127<r.2
 ·simp [h];omega
 ·simp [h]
theorem zE(l:lIi)(r:Int×Int):gS (l++[r])=if 127<r.2 then gS l else 1:=by
 unfold gS;rw [List.any_append];by_cases h:127<r.2
 ·have e:[r].any (fun r=>decide (r.2<=127))=false:=by simp;omega
  rw [e,Bool.or_false,if_pos h]
 ·have e:[r].any (fun r=>decide (r.2<=127))=true:=by simp;omega
  rw [e,Bool.or_true,if_neg h]
  rfl
theorem aI0(l:lIi):0<=wide l/\wide l<=16*(l.length:Int):=by
 unfold wide;have:=List.length_filter_le (fun r:Int×Int=>decide (127<r.2)) l;omega
theorem vF(l:lIi):0<=gS l/\gS l<=1:=by unfold gS;split <;> omega
theorem aP4{w:World}{q:Option Addr}{k:Nat}{L:lIi}(c o:Bool)(h:ArgR w (.slice q L.length k) L)(hl:L.length<=600000) :
  Calls Tryz.prog 83 #[.slice q L.length k,.agg #[.bool c,.bool o]] w fun e w'=>e=.returned (.I (oE c L))/\wBl w w':=by
 have B0:Hid (wBl w (w.alloc (.cells #[.bool c,.bool o] 27))):=bz9
 cases c with
 | false=>
  go_enter Tryz.func83,Tryz.ntmps83;go_wp2;go_ret;exact⟨rfl,B0.o⟩
 | true=>
  obtain⟨q',k',e,h1,h2,h3⟩:=h.slice;injection e with e1 _ e3;subst e1 e3;have H3:=aC h3;have h9:L.length<=9223372036854775807:=h1;clear h3 h h1;obtain⟨mx,hmx⟩:∃ m,oE true L=m:=⟨_,rfl⟩;have hmr:∀ t ty w,(Builtin.max_ t ty #[.I (wide L+gS L),.I 1]).run Tryz.prog w=.ok (.I mx) w:=fun t ty w=>by rw [iZ,<- hmx];rfl
  have HX:=aC hmx;have hb1:=aI0 L;have hb2:=vF L;clear hmx;go_enter Tryz.func83,Tryz.ntmps83;go_wp2;go_loopw [5,6,14] (fun a b i wr=>∃ j:Nat,j<=L.length/\i=.I (j:Int)/\a=.I (wide (L.take j))/\b=.I (gS (L.take j))/\wBl w wr) (fun _ _ i _=>L.length-(intOf i).toNat)
  case atStart=>exact⟨0,o9 _,rfl,rfl,rfl,B0.o⟩
  case round=>
   obtain⟨j,hj,rfl,rfl,rfl,hb⟩:=hrel;have HB:=aC hb;clear hb;by_cases hjl:j<L.length
   ·obtain⟨r,hr⟩:∃ r,L[j]?=some r:=⟨_,i9 hjl⟩;obtain⟨g,off,rfl,hg,c1,c2⟩:=H3.o j r hr;have e1:(j:Int)<(L.length:Int):=(by omega);have c3:=(HB.o.cell (p:=⟨g,off+2*j,none⟩) hg).trans c1;have c4:=(HB.o.cell (p:=⟨g,off+2*j+1,none⟩) hg).trans c2;rw [aAU] at c3 c4;have T1:Hid (L.take (j+1)=L.take j++[r]):=(by rw [t7,hr];rfl);have S1:=aC (aO1 (L.take j) r);have S2:=aC (zE (L.take j) r);have w1:=aI0 (L.take j);have w2:=vF (L.take j);have w3:(L.take j).length<=L.length:=(by rw [aAA];omega);clear c1 c2 hr;by_cases hw:127<r.2
    ·rw [if_pos hw] at S1 S2;go_wp2;go_roundw
     case rel=>exact⟨j+1,by omega,by go_num,by rw [T1.o,S1.o];try go_num,by rw [T1.o,S2.o],HB.o.alloc HB.o.size _⟩
     case measure=>simp only [intOf];omega
    ·rw [if_neg hw] at S1 S2;go_wp2;go_roundw
     case rel=>exact⟨j+1,by omega,by go_num,by rw [T1.o,S1.o];try go_num,by rw [T1.o,S2.o],HB.o.alloc HB.o.size _⟩
     case measure=>simp only [intOf];omega
   ·have e1:¬ (j:Int)<(L.length:Int):=by omega
    rw [n8 (by omega)];go_wp2;go_ret;exact⟨by rw [HX.o];rfl,HB.o⟩
def gQ(f:Fl):Int:=if f.mx=-1 then f.mn+1 else max f.mx 1
theorem bI1{f:Fl}(w:World)(hb:fI f.mn f.mx=true):Calls Tryz.prog 84 #[.agg #[.I f.k,.I f.n,.I f.mn,.I f.mx,.slice f.rq f.rs.length f.rc,.slice f.kq f.kl f.kc]] w fun e w'=>e=.returned (.I (gQ f))/\wBl w w':=by
 have B0:Hid (wBl w (w.alloc (.cells #[.I f.k,.I f.n,.I f.mn,.I f.mx,.slice f.rq f.rs.length f.rc,.slice f.kq f.kl f.kc] 25))):=bz9;have hb':0<=f.mn/\f.mn<=255:=by simp [fI] at hb;omega
 clear hb;by_cases hi:f.mx=-1
 ·have h1:(f.mx==-1)=true:=by simpa using hi
  have HV:Hid (gQ f=f.mn+1):=if_pos hi;clear hi;go_enter Tryz.func84,Tryz.ntmps84;go_wp2;go_ret;exact⟨by rw [HV.o];go_num,B0.o⟩
 ·have h1:(f.mx==-1)=false:=by simpa using hi
  have HV:Hid (gQ f=max f.mx 1):=if_neg hi;have hm:∀ t ty w,(Builtin.max_ t ty #[.I f.mx,.I 1]).run Tryz.prog w=.ok (.I (max f.mx 1)) w:=fun t ty w=>iZ _ t ty w _ _;clear hi;go_enter Tryz.func84,Tryz.ntmps84;go_wp2;go_ret;exact⟨by rw [HV.o];rfl,B0.o⟩
def cG(c:Bool)(f:Fl)(xs:List Int):Int:=if f.k=2 then oE c f.rs else if f.k=5\/f.k=6 then (xs.length:Int)+xs.sum else if f.k=7 then xs.headD 0+2 else if f.k=9 then (xs.headD 0+2)*gQ f else 1
def fW(c:Bool):dJ Int:=fun f _ xs _=>min (cG c f xs) 10001
def fX(x:Int):Prop:=0<=x/\x<=10001
theorem aM9(xs:List Int):ceI xs=xs.map (Value.int .i64):=by
 induction xs with
 | nil=>rfl
 | cons x l ih=>rw [aBP,<- ih];rfl
theorem sF{l:List Int}(h:∀ x∈l,fX x):0<=l.sum/\l.sum<=10001*(l.length:Int):=by
 induction l with
 | nil=>simp
 | cons x l ih=>
  have h1:=h x (r9 ..);have h2:=ih fun y hy=>h y (r8 _ hy);unfold fX at h1;rw [List.sum_cons,o5];omega
theorem jP{c o:Bool}{t:Tr}(h:NP c o t):t.f.k=1\/t.f.k=2\/t.f.k=3\/t.f.k=4\/t.f.k=5\/t.f.k=6\/t.f.k=7\/t.f.k=8\/t.f.k=9:=by
 have:=sE h.1;simp [eL] at this;omega
theorem sW{c o:Bool}{t:Tr}(h:NP c o t)(hk:t.f.k=2):nD c o t.f.rs:=by
 have:=h.1;unfold dA at this;rw [hk] at this;simp at this;exact this.1
theorem aK4{c o:Bool}{t:Tr}(h:NP c o t)(hk:t.f.k=5\/t.f.k=6):1<t.ks.length:=by
 have:=h.1;unfold dA at this;rcases hk with hk | hk <;> (rw [hk] at this;simp at this;exact this.1)
theorem gR{c o:Bool}{t:Tr}(h:NP c o t)(hk:t.f.k=7\/t.f.k=9):t.ks.length=1:=by
 have:=h.1;unfold dA at this;rcases hk with hk | hk
 ·rw [hk] at this;simp at this;exact this.1
 ·rw [hk] at this;simp at this;exact this.2.1
theorem nH{c o:Bool}{t:Tr}(h:NP c o t)(hk:t.f.k=9):fI t.f.mn t.f.mx=true:=by
 have:=h.1;unfold dA at this;rw [hk] at this;simp at this;exact this.1
theorem aK5{c o:Bool}{t:Tr}(h:NP c o t)(hk:t.f.k=8):1<=t.f.n/\t.f.n<=9:=by
 have:=h.1;unfold dA at this;rw [hk] at this;simp at this;exact this.1
theorem yI{f:Fl}(h:fI f.mn f.mx=true):1<=gQ f/\gQ f<=256:=by
 simp [fI] at h;unfold gQ
 split <;> omega
theorem aX7(c:Bool)(l:lIi):1<=oE c l:=by
 unfold oE
 split <;> omega
theorem uZ{c o:Bool}(t:Tr)(xs:List Int)(g:Int->Int)(hn:NP c o t)(_:xs.length=t.ks.length)(hx:∀ x∈xs,fX x)(_:∀ i,fX (g i)):fX (fW c t.f t.ks xs g):=by
 have:0<=cG c t.f xs:=by
  have hh:0<=xs.headD 0:=by
   cases xs with
   | nil=>simp
   | cons x l=>have:=hx x (r9 ..);unfold fX at this;simpa using this.1
  unfold cG
  split
  ·have:=aX7 c t.f.rs;omega
  ·split
   ·have:=sF hx;omega
   ·split
    ·omega
    ·split
     ·rename_i hk
      have:=yI (nH hn hk);exact aCL (by omega) (by omega)
     ·omega
 unfold fW fX;omega
theorem bS1(c o:Bool):RuI (fun _=>True) (NP c o) fX (fW c) c o:=by
 intro t xs g W v bp bb n base _ hnp hsz hnb hlen hgx _ hown _ _;obtain⟨qv,cv,rfl⟩:=aR hown;have B0:Hid (wBl W (W.alloc (.cells (cX t.f c o (.slice qv xs.length cv) (.func (.func 81) #[] #[bx bp])) 156))):=bz9;have HO:=aC hown;have HLEN:=aC hlen;have HNB:=aC hnb;have HGX:=aC hgx;have HV:Hid (fW c t.f t.ks xs g=min (cG c t.f xs) 10001):=rfl;have hxl:xs.length<=9223372036854775807:=by
  rcases hown.2 with⟨_,h0⟩ | ⟨_,cap,_,_,_,_,h1,h2,_⟩
  ·omega
  ·unfold maxLen at h2;omega
 have hmin:∀ t' ty w,(Builtin.min_ t' ty #[.I (cG c t.f xs),.I 10001]).run Tryz.prog w=.ok (.I (fW c t.f t.ks xs g)) w:=fun t' ty w=>oN _ t' ty w _ _;have hsum:=sF hgx;have hkl:t.ks.length<=1000000:=hsz;clear hown hnb hgx hlen;unfold cX at *;rcases jP hnp with hk | hk | hk | hk | hk | hk | hk | hk | hk
 ·have ha:cG c t.f xs=1:=by unfold cG;rw [hk];rfl
  rw [ha] at hmin;rw [hk] at B0 ⊢;clear hk ha hnp hsum;go_enter Tryz.func42,Tryz.ntmps42;go_wp2;go_ret;exact⟨rfl,B0.o⟩
 ·have ha:cG c t.f xs=oE c t.f.rs:=by unfold cG;rw [hk];rfl
  have HM:=aC (sW hnp hk);rw [ha] at hmin;rw [hk] at B0 ⊢;clear hk ha hnp hsum;have HC:=aC (aP4 (w:=W.alloc (.cells #[.I 2,.I t.f.n,.I t.f.mn,.I t.f.mx,.slice t.f.rq t.f.rs.length t.f.rc,.slice t.f.kq t.f.kl t.f.kc,.bool c,.bool o,.slice qv xs.length cv,.func (.func 81) #[] #[bx bp]] 156)) c o (HNB.o.r.kept B0.o) (oF HM.o.1));go_enter Tryz.func42,Tryz.ntmps42;go_wp2_with (go_at_call 83;refine HC.o.mono ?_;rintro e w5 ⟨rfl,h5⟩;have B5:=aC h5;clear h5)
  go_ret;exact⟨rfl,aJ B0.o B5.o lz9⟩
 ·have ha:cG c t.f xs=1:=by unfold cG;rw [hk];rfl
  rw [ha] at hmin;rw [hk] at B0 ⊢;clear hk ha hnp hsum;go_enter Tryz.func42,Tryz.ntmps42;go_wp2;go_ret;exact⟨rfl,B0.o⟩
 ·have ha:cG c t.f xs=1:=by unfold cG;rw [hk];rfl
  rw [ha] at hmin;rw [hk] at B0 ⊢;clear hk ha hnp hsum;go_enter Tryz.func42,Tryz.ntmps42;go_wp2;go_ret;exact⟨rfl,B0.o⟩
 ·have ha:cG c t.f xs=(xs.length:Int)+xs.sum:=by unfold cG;rw [hk];rfl
  rw [ha] at hmin;rw [hk] at B0 ⊢;clear hk ha hnp;have hc:∀ (i:Nat) (x:Int),xs[i]?=some x->∃ gb,qv=some (aDr gb 0)/\gb<W.heap.size/\W.cell? (aDr gb i)=some (.I x):=fun i x hx=>by
   have hi:=(m7.1 hx).1;obtain⟨gb,cb,e⟩:=aL HO.o (by omega);injection e with e1 e2 e3;subst e1 e3;exact⟨gb,rfl,(aF HO.o rfl).2.1,aM HO.o (by rw [aM9];simp [hx])⟩
  have HC:=aC hc;clear hc;have hl:xs.length<=1000000:=by rw [HLEN.o];exact hkl
  go_enter Tryz.func42,Tryz.ntmps42;go_wp2;go_loopw [3,26] (fun a i wr=>∃ j:Nat,j<=xs.length/\i=.I (j:Int)/\a=.I ((xs.length:Int)+(xs.take j).sum)/\wBl W wr) (fun _ i _=>xs.length-(intOf i).toNat)
  case atStart=>exact⟨0,o9 _,rfl,by simp,B0.o⟩
  case round=>
   obtain⟨j,hj,rfl,rfl,hb⟩:=hrel;have HB:=aC hb;clear hb;by_cases hjl:j<xs.length
   ·obtain⟨x,hx⟩:∃ x,xs[j]?=some x:=⟨_,i9 hjl⟩;obtain⟨gb,rfl,hg,c1⟩:=HC.o j x hx;have e1:(j:Int)<(xs.length:Int):=(by omega);have c3:=(HB.o.cell (p:=(aDr gb j)) hg).trans c1;have T1:=aC (show (xs.take (j+1)).sum=(xs.take j).sum+x by rw [t7,hx];simp);have s1:=sF (l:=xs.take j) fun y hy=>HGX.o y (aAJ hy);have s2:=HGX.o x (n7 hx);have s3:(xs.take j).length<=xs.length:=(by rw [aAA];omega);unfold fX at s2;clear c1 hx;go_wp2;go_roundw
    case rel=>exact⟨j+1,by omega,by go_num,by rw [T1.o];go_num,HB.o⟩
    case measure=>simp only [intOf];omega
   ·have e1:¬ (j:Int)<(xs.length:Int):=by omega
    rw [n8 (by omega)];go_wp2;go_ret;exact⟨rfl,HB.o⟩
 ·have ha:cG c t.f xs=(xs.length:Int)+xs.sum:=by unfold cG;rw [hk];rfl
  rw [ha] at hmin;rw [hk] at B0 ⊢;clear hk ha hnp;have hc:∀ (i:Nat) (x:Int),xs[i]?=some x->∃ gb,qv=some (aDr gb 0)/\gb<W.heap.size/\W.cell? (aDr gb i)=some (.I x):=fun i x hx=>by
   have hi:=(m7.1 hx).1;obtain⟨gb,cb,e⟩:=aL HO.o (by omega);injection e with e1 e2 e3;subst e1 e3;exact⟨gb,rfl,(aF HO.o rfl).2.1,aM HO.o (by rw [aM9];simp [hx])⟩
  have HC:=aC hc;clear hc;have hl:xs.length<=1000000:=by rw [HLEN.o];exact hkl
  go_enter Tryz.func42,Tryz.ntmps42;go_wp2;go_loopw [3,26] (fun a i wr=>∃ j:Nat,j<=xs.length/\i=.I (j:Int)/\a=.I ((xs.length:Int)+(xs.take j).sum)/\wBl W wr) (fun _ i _=>xs.length-(intOf i).toNat)
  case atStart=>exact⟨0,o9 _,rfl,by simp,B0.o⟩
  case round=>
   obtain⟨j,hj,rfl,rfl,hb⟩:=hrel;have HB:=aC hb;clear hb;by_cases hjl:j<xs.length
   ·obtain⟨x,hx⟩:∃ x,xs[j]?=some x:=⟨_,i9 hjl⟩;obtain⟨gb,rfl,hg,c1⟩:=HC.o j x hx;have e1:(j:Int)<(xs.length:Int):=(by omega);have c3:=(HB.o.cell (p:=(aDr gb j)) hg).trans c1;have T1:=aC (show (xs.take (j+1)).sum=(xs.take j).sum+x by rw [t7,hx];simp);have s1:=sF (l:=xs.take j) fun y hy=>HGX.o y (aAJ hy);have s2:=HGX.o x (n7 hx);have s3:(xs.take j).length<=xs.length:=(by rw [aAA];omega);unfold fX at s2;clear c1 hx;go_wp2;go_roundw
    case rel=>exact⟨j+1,by omega,by go_num,by rw [T1.o];go_num,HB.o⟩
    case measure=>simp only [intOf];omega
   ·have e1:¬ (j:Int)<(xs.length:Int):=by omega
    rw [n8 (by omega)];go_wp2;go_ret;exact⟨rfl,HB.o⟩
 ·obtain⟨x,rfl⟩:∃ x,xs=[x]:=by
   have:=gR hnp (.inl hk)
   match xs,HLEN.o with
   | [x],_=>exact⟨x,rfl⟩
   | [],e=>rw [this] at e;simp at e
   | _ :: _ :: _,e=>rw [this] at e;simp at e
  have ha:cG c t.f [x]=x+2:=by unfold cG;rw [hk];rfl
  rw [ha] at hmin;rw [hk] at B0 ⊢;have hx:=HGX.o x (r9 ..);unfold fX at hx;clear hk ha hnp hsum;simp only [o5,List.length_nil,m9] at B0 HO ⊢;obtain⟨gb,cb,e⟩:=aL HO.o (by omega);injection e with e1 e2 e3;subst e1 e3;have hg:=(aF HO.o rfl).2.1;have c1:W.cell? (aDr gb 0)=some (.I x):=aM HO.o (j:=0) rfl;clear e2;go_enter Tryz.func42,Tryz.ntmps42;go_wp2;go_ret;exact⟨rfl,B0.o⟩
 ·have ha:cG c t.f xs=1:=by unfold cG;rw [hk];rfl
  rw [ha] at hmin;rw [hk] at B0 ⊢;clear hk ha hnp hsum;go_enter Tryz.func42,Tryz.ntmps42;go_wp2;go_ret;exact⟨rfl,B0.o⟩
 ·obtain⟨x,rfl⟩:∃ x,xs=[x]:=by
   have:=gR hnp (.inr hk)
   match xs,HLEN.o with
   | [x],_=>exact⟨x,rfl⟩
   | [],e=>rw [this] at e;simp at e
   | _ :: _ :: _,e=>rw [this] at e;simp at e
  have hbd:=nH hnp hk;have htl:=yI hbd;have hx:=HGX.o x (r9 ..);unfold fX at hx;obtain⟨tn,htn⟩:∃ y,gQ t.f=y:=⟨_,rfl⟩;have HT:=aC htn;rw [htn] at htl;have hmul:0<=(x+2)*tn/\(x+2)*tn<=10003*256:=⟨aCL (by omega) (by omega),Int.mul_le_mul (by omega) htl.2 (by omega) (by omega)⟩;have ha:cG c t.f [x]=(x+2)*tn:=by unfold cG;rw [hk,htn];rfl
  have HBD:=aC hbd;have HK:=aC hk;rw [ha] at hmin;rw [hk] at B0 ⊢;clear hk ha hnp hsum hbd htn;simp only [o5,List.length_nil,m9] at B0 HO ⊢;obtain⟨gb,cb,e⟩:=aL HO.o (by omega);injection e with e1 e2 e3;subst e1 e3;have hg:=(aF HO.o rfl).2.1;have c1:W.cell? (aDr gb 0)=some (.I x):=aM HO.o (j:=0) rfl;clear e2;have tc:∀ w,Calls Tryz.prog 84 #[.agg #[.I 9,.I t.f.n,.I t.f.mn,.I t.f.mx,.slice t.f.rq t.f.rs.length t.f.rc,.slice t.f.kq t.f.kl t.f.kc]] w fun e w'=>e=.returned (.I tn)/\wBl w w':=fun w=>by
   have:=bI1 (f:=t.f) w HBD.o;rw [HT.o,HK.o] at this;exact this
  have TC:=aC tc;clear tc;go_enter Tryz.func42,Tryz.ntmps42;go_wp2;refine wx9 ?_
  repeat (go_big_quiet_step (first | exact rfl |(go_at_call 84;exact bQ (TC.o _))))
  refine wpQuiet_nil ?_;intro w3 hw;have B3:=aC (aP hw);clear hw;go_wp2;go_ret;exact⟨rfl,aJ B0.o B3.o lz9⟩
end
section
attribute [local go_sem] Oper.semAt_some
abbrev TWW:=TW 50 51 27 106 107 67 105
def enW(x:Int×Int):Value:=.agg #[.I x.1,.I x.2]
def ceW(xs:lIi):List Value:=xs.flatMap fun x=>[.I x.1,.I x.2]
theorem xL(xs:lIi)(x:Int×Int):ceW (xs++[x])=ceW xs++[.I x.1,.I x.2]:=by simp [ceW]
theorem aC7:Tryz.prog.underlying 108=some (.slice 65):=by kernel_rfl
theorem aV7:Tryz.prog.underlying 105=some (.map 3 65):=by kernel_rfl
theorem bS2:(Tryz.prog.info? 65).map (fun i=>(i.zero,i.size,i.bytes))=some (some (.agg #[.I 0,.I 0]),2,16):=by kernel_rfl
def RuW(Glo:World->Prop)(NP:Tr->Prop)(Good:Int×Int->Prop)(ρ:dJ (Int×Int))(c o:Bool):Prop:=
 ∀ (t:Tr) (xs:lIi) (g:Int->Int×Int) (W:World) (v:Value) (bp bb n base:Nat),Glo W->NP t->t.ks.length<=1000000->NB W t->xs.length=t.ks.length->(∀ x∈xs,Good x)->(∀ i,Good (g i))->W.ownsRow base 65 2 v xs.length (ceW xs) ->
  W.heap[bp]?=some (.cells #[.map (some bb)] 105 (0,0))->MapV W (.agg #[.I 0,.I 0]) bb n (fun i=>enW (g i)) ->
  Calls Tryz.prog 27 #[.agg (cX t.f c o v (.func (.func 50) #[] #[bx bp]))] W fun e w'=>e=.returned (enW (ρ t.f t.ks xs g))/\wBl W w'
def OfW(ρ:dJ (Int×Int))(w:World)(bb n:Nat)(t:Tr)(g:Int->Int×Int)(e:Ending)(w':World):Prop:=
 e=.returned (enW (ev ρ g t).1)/\MapV w' (.agg #[.I 0,.I 0]) bb (n+t.sz) (fun i=>enW ((ev ρ g t).2 i))/\Fr (fun k=>k=bb) w w'
theorem aJ4{R:Ending->World->Prop}{a:Act}{W:World}{b:Nat}{x:Int×Int}(h:W.heap[b]?=some (.cells #[.I x.1,.I x.2] 65 (0,0)))(ha:a.tmps[7]?.getD undef=.pointer (some (aDr b 0)))(hd:a.defers=[])(hR:R (.returned (enW x)) W):bodyPost Tryz.prog Tryz.f51 R .ret a W:=by
 refine bodyPost_ret (v:=enW x) ?_ hd hR;have z0:=aA h (i:=0) rfl;have z1:=aA h (i:=1) rfl;simp [results,Tryz.results51,go_sem,ha,enW,z0,z1]
structure LpW(ρ:dJ (Int×Int))(W0 wr:World)(b s n:Nat)(t:Tr)(c o:Bool)(g:Int->Int×Int)(j:Nat)(v gv:Value):Prop where
 sc:wr.heap[s]?=some (.cells (cX t.f c o v gv) 110 (0,0))
 own:wr.ownsRow W0.heap.size 65 2 v j (ceW (evs ρ g (t.ks.take j)).1)
 mp:MapV wr (.agg #[.I 0,.I 0]) b (n+szs (t.ks.take j)) (fun i=>enW ((evs ρ g (t.ks.take j)).2 i))
 fr:Fr (Wr2 b s) W0 wr
theorem bZ0{Glo:World->Prop}(hglo:∀ {A B:World},CK A B->Glo A->Glo B){NP:Tr->Prop}{Good:Int×Int->Prop}{ρ:dJ (Int×Int)}{c o:Bool}(hr:RuW Glo NP Good ρ c o)(hwf:∀ t,NP t->t.f.k=7->(Lit.int .i64 t.f.n).wf=true)(hg:∀ t xs g,NP t->xs.length=t.ks.length->(∀ x∈xs,Good x)->(∀ i,Good (g i))->Good (ρ t.f t.ks xs g))(bm bg bo br bp bb:Nat) :
  ∀ (m:Nat) (t:Tr) (w:World) (n:Nat) (g:Int->Int×Int),t.sz<=m->n+t.sz<=1000000->Glo w->TB w t->bK NP t->(∀ i,Good (g i))->TWW w bm bg bo br bp bb c o->MapV w (.agg #[.I 0,.I 0]) bb n (fun i=>enW (g i)) ->
   Calls Tryz.prog 51 #[.agg (nDf t.f),bx bm,bx bg,bx bo,bx br,bx bp] w (OfW ρ w bb n t g):=by
 intro m
 induction m with
 | zero=>intro t w n g hm;exact absurd (dQ t) (by omega)
 | succ m ih=>
  intro t w n g hm hn hgw hta hnp hgd htw hmp;have HGW:=aC hgw;clear hgw;obtain⟨t0,ti,hz0,hz1,hz2⟩:=aV bS2;have TI:Hid (Tryz.prog.info? 65=some t0/\t0.zero=some (.agg #[.I 0,.I 0])/\t0.size=2/\t0.bytes=16):=⟨ti,hz0,hz1,hz2⟩;clear ti hz0 hz1 hz2;have HTA:=aC hta;have HTW:=aC htw;obtain⟨q,cap,hkv,hk1,hk2,hk3⟩:=hta.node.k.slice;injection hkv with hkq hkl hkc;subst hkq;have HKL:=aC hkl;have HK3:=aC hk3;have hkm:t.ks.length<=9223372036854775807:=hk1;have hkz:=aC (show szs t.ks+1=t.sz from (fE t).symm);clear hkl hkc hk3 hk1;have m0:w.cell? (aDr bm 0)=some (.bool c):=aA htw.m (i:=0) rfl;have m1:w.cell? (aDr bm 1)=some (.bool o):=aA htw.m (i:=1) rfl;obtain⟨gv,hgv⟩:∃ gv,Value.func (.func 50) #[] #[bx bp]=gv:=⟨_,rfl⟩;have g0:w.cell? (aDr bg 0)=some (.func (.func 50) #[] #[bx bp]):=aA htw.g (i:=0) rfl;have l1:=aB htw.m;have l2:=aB htw.g;have IH:=aC ih;have HR:=aC hr;have HWF:=aC hwf;have HG:=aC hg;have HNP:=aC hnp;have HGD:=aC hgd;have HMP:=aC hmp;have HM:=aC hm;have HN:=aC hn;have HGV:=aC hgv;clear ih hr hwf hg hnp hgd hmp hm hn hta htw hgv;go_enter Tryz.func51,Tryz.ntmps51;go_upto_region 5 with fail
  have B0:Hid (wBl w (((w.alloc (.cells (nDf t.f) 25)).alloc (.cells #[.I 0,.I 0] 65)).alloc (.cells #[.I t.f.k,.I t.f.n,.I t.f.mn,.I t.f.mx,.slice t.f.rq t.f.rs.length t.f.rc,.slice t.f.kq t.f.kl t.f.kc,.bool c,.bool o,.slice none 0 0,.func (.func 50) #[] #[bx bp]] 110))):=((bz9).alloc (by simp only [f4];omega) _).alloc (by simp only [f4];omega) _;have N0:Hid (BoxN (((w.alloc (.cells (nDf t.f) 25)).alloc (.cells #[.I 0,.I 0] 65)).alloc (.cells #[.I t.f.k,.I t.f.n,.I t.f.mn,.I t.f.mx,.slice t.f.rq t.f.rs.length t.f.rc,.slice t.f.kq t.f.kl t.f.kc,.bool c,.bool o,.slice none 0 0,.func (.func 50) #[] #[bx bp]] 110)) w.heap.size t.f):=(Below.heap_alloc _ _ _ (by simp only [f4];omega)).trans ((Below.heap_alloc _ _ _ (by simp only [f4];omega)).trans (aE w _));have R0:Hid ((((w.alloc (.cells (nDf t.f) 25)).alloc (.cells #[.I 0,.I 0] 65)).alloc (.cells #[.I t.f.k,.I t.f.n,.I t.f.mn,.I t.f.mx,.slice t.f.rq t.f.rs.length t.f.rc,.slice t.f.kq t.f.kl t.f.kc,.bool c,.bool o,.slice none 0 0,.func (.func 50) #[] #[bx bp]] 110)).heap[w.heap.size+1]?=some (.cells #[.I 0,.I 0] 65 (0,0))):=(by have:=aE (w.alloc (.cells (nDf t.f) 25)) (.cells #[.I 0,.I 0] 65);rw [f4] at this;exact(Below.heap_alloc _ _ _ (by simp)).trans this);have S0:Hid ((((w.alloc (.cells (nDf t.f) 25)).alloc (.cells #[.I 0,.I 0] 65)).alloc (.cells #[.I t.f.k,.I t.f.n,.I t.f.mn,.I t.f.mx,.slice t.f.rq t.f.rs.length t.f.rc,.slice t.f.kq t.f.kl t.f.kc,.bool c,.bool o,.slice none 0 0,.func (.func 50) #[] #[bx bp]] 110)).heap[w.heap.size+1+1]?=some (.cells (cX t.f c o (.slice none 0 0) (.func (.func 50) #[] #[bx bp])) 110 (0,0))):=(by have:=aE ((w.alloc (.cells (nDf t.f) 25)).alloc (.cells #[.I 0,.I 0] 65)) (.cells #[.I t.f.k,.I t.f.n,.I t.f.mn,.I t.f.mx,.slice t.f.rq t.f.rs.length t.f.rc,.slice t.f.kq t.f.kl t.f.kc,.bool c,.bool o,.slice none 0 0,.func (.func 50) #[] #[bx bp]] 110);simp only [f4] at this;exact this);generalize hW0:(((w.alloc (.cells (nDf t.f) 25)).alloc (.cells #[.I 0,.I 0] 65)).alloc (.cells #[.I t.f.k,.I t.f.n,.I t.f.mn,.I t.f.mx,.slice t.f.rq t.f.rs.length t.f.rc,.slice t.f.kq t.f.kl t.f.kc,.bool c,.bool o,.slice none 0 0,.func (.func 50) #[] #[bx bp]] 110))=W0 at B0 N0 R0 S0 ⊢;clear hW0;obtain⟨bs,hbs⟩:∃ bs,w.heap.size+1+1=bs:=⟨_,rfl⟩;have HBS:Hid (w.heap.size<=bs/\bs<W0.heap.size/\bs=w.heap.size+1+1):=⟨by omega,by rw [<- hbs];exact aB S0.o,hbs.symm⟩;rw [hbs] at S0 ⊢;clear hbs;have MB:Hid (∃ es clock,W0.heap[bb]?=some (.map es clock)):=aC (by obtain⟨es,cl,hb⟩:=HMP.o.block;exact⟨es,cl,(B0.o.block _ (aB hb)).trans hb⟩);go_loopw [19] (fun i wr=>∃ (j:Nat) (v:Value),j<=t.ks.length/\i=.I (j:Int)/\LpW ρ W0 wr bb bs n t c o g j v (.func (.func 50) #[] #[bx bp])) (fun i _=>t.ks.length-(intOf i).toNat)
  case atStart=>exact⟨0,_,o9 _,rfl,S0.o,(by rw [v9,cQ];exact⟨rfl,.inl ⟨rfl,rfl⟩⟩),(by rw [v9,cQ,eP];exact HMP.o.kept B0.o),Fr.refl _ _⟩
  case round=>
   clear S0;obtain⟨j,v,hj,rfl,hlp⟩:=hrel;obtain⟨qv,cv,rfl⟩:=aR hlp.own;have LP:=aC hlp;have CW:Hid (CK w wr):=fD MB.o HBS.o.1 B0.o hlp.fr;clear hlp;by_cases hjl:j<t.ks.length
   ·have e0:(j:Int)<(t.f.kl:Int):=by rw [HKL.o];omega
    obtain⟨u,hu⟩:∃ u,t.ks[j]?=some u:=⟨_,i9 hjl⟩;obtain⟨gq,off,hq,hgl,hsix⟩:=HK3.o j u hu;rw [hq];obtain⟨c0,c1,c2,c3,c4,c5⟩:=hsix.ck CW.o hgl;have HU:=aC hu;have hin:u∈t.ks:=n7 hu;clear hsix hu;have SK:Hid (Fr (Wr2 bb bs) W0 (wr.alloc (.cells (nDf u.f) 25)).drew/\BoxN (wr.alloc (.cells (nDf u.f) 25)).drew wr.heap.size u.f):=⟨(LP.o.fr.alloc _).drew,aE wr _⟩;have NE:Hid (¬ wr.heap.size=bb/\¬ bb=bs):=⟨fun e=>by have:=LP.o.mp.lt;omega,fun e=>by
     obtain⟨es,cl,hb⟩:=LP.o.mp.block;rw [e,LP.o.sc] at hb;cases hb⟩
    have NE3:Hid (wr.heap.size≠bs):=fun e=>by have:=aB LP.o.sc;omega
    have CB:Hid ((wr.alloc (.cells (nDf u.f) 25)).drew.heap[bs]?=some (.cells (cX t.f c o (.slice qv j cv) (.func (.func 50) #[] #[bx bp])) 110 (0,0))):=(Below.heap_alloc wr _ _ (aB LP.o.sc)).trans LP.o.sc;have k8:(wr.alloc (.cells (nDf u.f) 25)).drew.cell? (aDr bs 8)=some (.slice qv j cv):=aA CB.o (i:=8) rfl;have QC:Hid (∀ w',(Fr (Wr2 bb bs) W0 w'/\BoxN w' wr.heap.size u.f)->w'.cell? (aDr bo 0)=some (.func (.func 51) #[] #[bx bm,bx bg,bx bo,bx br,bx bp])/\w'.cell? (aDr wr.heap.size 0)=some (.I u.f.k)/\w'.cell? (aDr wr.heap.size 1)=some (.I u.f.n)/\w'.cell? (aDr wr.heap.size 2)=some (.I u.f.mn)/\w'.cell? (aDr wr.heap.size 3)=some (.I u.f.mx)/\w'.cell? (aDr wr.heap.size 4)=some (.slice u.f.rq u.f.rs.length u.f.rc)/\w'.cell? (aDr wr.heap.size 5)=some (.slice u.f.kq u.f.kl u.f.kc)):=fun w' hS=>by
     have six:=hS.2.six;simp only [Six,m9] at six;exact⟨aA (HTW.o.ck (fD MB.o HBS.o.1 B0.o hS.1)).o (i:=0) rfl,six⟩
    have MK:Hid (MapV (wr.alloc (.cells (nDf u.f) 25)).drew (.agg #[.I 0,.I 0]) bb (n+szs (t.ks.take j)) (fun i=>enW ((evs ρ g (t.ks.take j)).2 i))):=LP.o.mp.kept ((bz9).drew);have OK:Hid ((wr.alloc (.cells (nDf u.f) 25)).drew.ownsRow W0.heap.size 65 2 (.slice qv j cv) j (ceW (evs ρ g (t.ks.take j)).1)):=aBY (o8 LP.o.own _);have CK2:Hid (CK w (wr.alloc (.cells (nDf u.f) 25)).drew):=fD MB.o HBS.o.1 B0.o SK.o.1;have LJ:=aC (show j<=1000000 by have:=cO t.ks;have:=hkz.o;have:=HN.o;omega);have IH0:=IH.o u (wr.alloc (.cells (nDf u.f) 25)).drew (n+szs (t.ks.take j)) (evs ρ g (t.ks.take j)).2 (by have:=cK hin;have:=HM.o;omega)
     (by have:=lB t.ks (j+1);rw [bL HU.o] at this;have:=hkz.o;have:=HN.o;omega) (hglo CK2.o HGW.o) ((HTA.o.ck CK2.o).kid hin) (bC HNP.o hin)
     (eM HG.o (t.ks.take j) g (fun u hu=>bC HNP.o (aAJ hu)) HGD.o).2 (HTW.o.ck CK2.o) MK.o
    obtain⟨x5,hx5⟩:∃ x,(ev ρ (evs ρ g (t.ks.take j)).2 u).1=x:=⟨_,rfl⟩;have IHU:Hid (Calls Tryz.prog 51 #[.agg (nDf u.f),bx bm,bx bg,bx bo,bx br,bx bp] (wr.alloc (.cells (nDf u.f) 25)).drew (fun e w'=>e=.returned (.agg #[.I x5.1,.I x5.2])/\MapV w' (.agg #[.I 0,.I 0]) bb (n+szs (t.ks.take j)+u.sz) (fun i=>enW ((ev ρ (evs ρ g (t.ks.take j)).2 u).2 i))/\Fr (fun k=>k=bb) (wr.alloc (.cells (nDf u.f) 25)).drew w')):=aC (by subst hx5;exact IH0);have HX5:=aC hx5;clear hin IH0 hx5;go_wp2;refine wp_region_held_drew (S:=fun w'=>Fr (Wr2 bb bs) W0 w'/\BoxN w' wr.heap.size u.f) (by kernel_rfl) SK.o (fun hHeld=>?_);refine aCO (v:=?_) 0 ?_ ?_;rotate_left
    ·intro wz hSw;obtain⟨q0,q1,q2,q3,q4,q5,q6⟩:=QC.o wz hSw;clear hSw;go_simp;try with_reducible rfl
    dsimp only [Act.put,g9,g4,g8];simp only [f8,i8,i7];refine aCO (v:=?_) 2 ?_ ?_;rotate_left
    ·intro wz hSw;obtain⟨q0,q1,q2,q3,q4,q5,q6⟩:=QC.o wz hSw;clear hSw;go_simp;try with_reducible rfl
    dsimp only [Act.put,g9,g4,g8];simp only [f8,i8,i7];refine aCO (v:=?_) 3 ?_ ?_;rotate_left
    ·intro wz hSw;obtain⟨q0,q1,q2,q3,q4,q5,q6⟩:=QC.o wz hSw;clear hSw;go_simp;try with_reducible rfl
    dsimp only [Act.put,g9,g4,g8];simp only [f8,i8,i7];refine wpAnyH_ready (rs:=[1,4]) (by kernel_rfl) (by simp) ?_;refine AllReadyH.cons rfl (fun K hK=>?_) (AllReadyH.cons rfl (fun K hK=>?_) AllReadyH.nil)
    ·go_simp;refine hK.out _ _ SK.o (fun hHeld1=>?_);clear hK K;refine wpAnyH_ready (rs:=[4]) (by kernel_rfl) (by simp) ?_;refine AllReadyH.cons rfl (fun K hK=>?_) AllReadyH.nil;go_simp
     go_at_call 51
     refine IHU.o.mono ?_;rintro e w5 ⟨rfl,hm5,hf5⟩;have M5:=aC hm5;have F5:=aC hf5;clear hm5 hf5;have S5:Hid (Fr (Wr2 bb bs) W0 w5/\BoxN w5 wr.heap.size u.f):=⟨SK.o.1.trans (F5.o.mono (fun k e=>.inl e)),(F5.o.block _ (aB SK.o.2) (fun e=>NE.o.1 e)).trans SK.o.2⟩;refine hK.out _ _ S5.o (fun hHeld2=>?_);clear hK K;refine wpAnyH_ready (rs:=[5]) (by kernel_rfl) (by simp) ?_;refine AllReadyH.cons rfl (fun K hK=>?_) AllReadyH.nil;go_simp;have S6:Hid (Fr (Wr2 bb bs) W0 (w5.alloc (.cells #[.I x5.1,.I x5.2] 65))/\BoxN (w5.alloc (.cells #[.I x5.1,.I x5.2] 65)) wr.heap.size u.f):=⟨S5.o.1.alloc _,(Below.heap_alloc _ _ _ (aB S5.o.2)).trans S5.o.2⟩;refine hK.out _ _ S6.o (fun hHeld3=>?_);clear hK K;refine wpAnyH_ready (rs:=[6]) (by kernel_rfl) (by simp) ?_;refine AllReadyH.cons rfl (fun K hK=>?_) AllReadyH.nil;have O6:Hid ((w5.alloc (.cells #[.I x5.1,.I x5.2] 65)).ownsRow W0.heap.size 65 2 (.slice qv j cv) j (ceW (evs ρ g (t.ks.take j)).1)):=o8 (aH OK.o F5.o (fun k e z=>bJ OK.o MK.o.block (z ▸ e))) _;refine aZ rfl _ _ 108 rfl W0.heap.size 65 t0 (.agg #[.I 0,.I 0]) 2 16 aC7 TI.o.1 TI.o.2.1 TI.o.2.2.1 TI.o.2.2.2 rfl (by decide) (.slice qv j cv) j (ceW (evs ρ g (t.ks.take j)).1) (by simp [Act.eval]) O6.o (aDr w5.heap.size 0) 1 1 [.I x5.1,.I x5.2] (by simp [Act.eval]) rfl (bI w5 [.I x5.1,.I x5.2] _) (by simp [Value.oneCell']) (by have:=LJ.o;unfold maxLen;omega) (by have:=LJ.o;omega) (m8 S5.o.1.size (by simp only [f4];omega)) ?_;intro v' w6 hown' hgrow hblk;obtain⟨g6,cap6,rfl⟩:=aL hown' (aAL _);have O7:=aC hown';have G6:=aC hgrow;clear hown' hgrow hblk;have S7:Hid (Fr (Wr2 bb bs) W0 w6/\BoxN w6 wr.heap.size u.f):=⟨S6.o.1.grownNew G6.o (fun k e=>(aF O6.o e).1),(G6.o.block _ (aB S6.o.2) (fun e=>by
      have:=(aF LP.o.own e.symm).2.1;omega)).trans S6.o.2⟩
     have C7:Hid (w6.heap[bs]?=some (.cells (cX t.f c o (.slice qv j cv) (.func (.func 50) #[] #[bx bp])) 110 (0,0))):=(by
      have e5:=(F5.o.block _ (aB CB.o) (fun e=>NE.o.2 e.symm)).trans CB.o;have e6:=(Below.heap_alloc w5 (.cells #[.I x5.1,.I x5.2] 65) _ (aB e5)).trans e5;exact(G6.o.block _ (aB e6) (fun e=>aO O6.o e6 (by decide) e.symm)).trans e6)
     have M7:Hid (MapV w6 (.agg #[.I 0,.I 0]) bb (n+szs (t.ks.take j)+u.sz) (fun i=>enW ((ev ρ (evs ρ g (t.ks.take j)).2 u).2 i))):=(by
      have m6:=M5.o.kept ((Below.refl _ _).alloc lz9 (.cells #[.I x5.1,.I x5.2] 65));exact m6.same (G6.o.block _ m6.lt (fun e=>bJ O6.o m6.block e.symm)))
     refine hK.out _ _ S7.o (fun hHeld4=>?_);clear hK K;refine aCO (v:=?_) 7 ?_ ?_;rotate_left
     ·intro wz hSw;obtain⟨q0,q1,q2,q3,q4,q5,q6⟩:=QC.o wz hSw;clear hSw;go_simp;try with_reducible rfl
     dsimp only [Act.put,g9,g4,g8];simp only [f8,i8,i7];refine wpAnyH_ready (rs:=[8]) (by kernel_rfl) (by simp) ?_;refine AllReadyH.cons rfl (fun K hK=>?_) AllReadyH.nil;have k7:w6.cell? (aDr bs 8)=some (.slice qv j cv):=aA C7.o (i:=8) rfl;have fz:=aG C7.o 8;go_simp;have S8:Hid (Fr (Wr2 bb bs) W0 (w6.setCell (aDr bs 8) (.slice (some (aDr g6 0)) (j+1) cap6))/\BoxN (w6.setCell (aDr bs 8) (.slice (some (aDr g6 0)) (j+1) cap6)) wr.heap.size u.f):=⟨S7.o.1.setCell (p:=(aDr bs 8)) (.inr rfl) _,(Below.heap_setCell _ _ _ _ (fun e=>NE3.o e)).trans S7.o.2⟩;refine hK.out _ _ S8.o (fun hHeld5=>?_);clear hK K;refine wpAnyH_done (by kernel_rfl) ?_ _;have LQ:Hid (LpW ρ W0 (w6.setCell (aDr bs 8) (.slice (some (aDr g6 0)) (j+1) cap6)) bb bs n t c o g (j+1) (.slice (some (aDr g6 0)) (j+1) cap6) (.func (.func 50) #[] #[bx bp])):=by
      obtain⟨ea,eb⟩:=dD (ρ:=ρ) HU.o g;refine⟨aN C7.o 8 _,?_,?_,S8.o.1⟩
      ·rw [ea,xL,HX5.o];exact aH O7.o ((Fr.refl (fun k=>k=bs) w6).setCell (p:=(aDr bs 8)) rfl _) (fun k e z=>aO O7.o C7.o (by decide) (z ▸ e))
      ·rw [eb,bL HU.o,<- aAN];exact M7.o.fr ((Fr.refl (fun k=>k=bs) w6).setCell (p:=(aDr bs 8)) rfl _) (fun e=>by
        obtain⟨es,cl,hb⟩:=M7.o.block;rw [e,C7.o] at hb;cases hb)
     clear k7 fz;go_wp2;go_roundw
     case rel=>exact⟨j+1,_,by omega,by go_num,LQ.o⟩
     case measure=>simp only [intOf];omega
    ·go_simp
     go_at_call 51
     refine IHU.o.mono ?_;rintro e w5 ⟨rfl,hm5,hf5⟩;have M5:=aC hm5;have F5:=aC hf5;clear hm5 hf5;have S5:Hid (Fr (Wr2 bb bs) W0 w5/\BoxN w5 wr.heap.size u.f):=⟨SK.o.1.trans (F5.o.mono (fun k e=>.inl e)),(F5.o.block _ (aB SK.o.2) (fun e=>NE.o.1 e)).trans SK.o.2⟩;refine hK.out _ _ S5.o (fun hHeld1=>?_);clear hK K;refine wpAnyH_ready (rs:=[1,5]) (by kernel_rfl) (by simp) ?_;refine AllReadyH.cons rfl (fun K hK=>?_) (AllReadyH.cons rfl (fun K hK=>?_) AllReadyH.nil)
     ·have k9:w5.cell? (aDr bs 8)=some (.slice qv j cv):=aA ((F5.o.block _ (aB CB.o) (fun e=>NE.o.2 e.symm)).trans CB.o) (i:=8) rfl;go_simp;refine hK.out _ _ S5.o (fun hHeld2=>?_);clear hK K;refine wpAnyH_ready (rs:=[5]) (by kernel_rfl) (by simp) ?_;refine AllReadyH.cons rfl (fun K hK=>?_) AllReadyH.nil;go_simp;have S6:Hid (Fr (Wr2 bb bs) W0 (w5.alloc (.cells #[.I x5.1,.I x5.2] 65))/\BoxN (w5.alloc (.cells #[.I x5.1,.I x5.2] 65)) wr.heap.size u.f):=⟨S5.o.1.alloc _,(Below.heap_alloc _ _ _ (aB S5.o.2)).trans S5.o.2⟩;refine hK.out _ _ S6.o (fun hHeld3=>?_);clear hK K;refine wpAnyH_ready (rs:=[6]) (by kernel_rfl) (by simp) ?_;refine AllReadyH.cons rfl (fun K hK=>?_) AllReadyH.nil;have O6:Hid ((w5.alloc (.cells #[.I x5.1,.I x5.2] 65)).ownsRow W0.heap.size 65 2 (.slice qv j cv) j (ceW (evs ρ g (t.ks.take j)).1)):=o8 (aH OK.o F5.o (fun k e z=>bJ OK.o MK.o.block (z ▸ e))) _;refine aZ rfl _ _ 108 rfl W0.heap.size 65 t0 (.agg #[.I 0,.I 0]) 2 16 aC7 TI.o.1 TI.o.2.1 TI.o.2.2.1 TI.o.2.2.2 rfl (by decide) (.slice qv j cv) j (ceW (evs ρ g (t.ks.take j)).1) (by simp [Act.eval]) O6.o (aDr w5.heap.size 0) 1 1 [.I x5.1,.I x5.2] (by simp [Act.eval]) rfl (bI w5 [.I x5.1,.I x5.2] _) (by simp [Value.oneCell']) (by have:=LJ.o;unfold maxLen;omega) (by have:=LJ.o;omega) (m8 S5.o.1.size (by simp only [f4];omega)) ?_;intro v' w6 hown' hgrow hblk;obtain⟨g6,cap6,rfl⟩:=aL hown' (aAL _);have O7:=aC hown';have G6:=aC hgrow;clear hown' hgrow hblk;have S7:Hid (Fr (Wr2 bb bs) W0 w6/\BoxN w6 wr.heap.size u.f):=⟨S6.o.1.grownNew G6.o (fun k e=>(aF O6.o e).1),(G6.o.block _ (aB S6.o.2) (fun e=>by
       have:=(aF LP.o.own e.symm).2.1;omega)).trans S6.o.2⟩
      have C7:Hid (w6.heap[bs]?=some (.cells (cX t.f c o (.slice qv j cv) (.func (.func 50) #[] #[bx bp])) 110 (0,0))):=(by
       have e5:=(F5.o.block _ (aB CB.o) (fun e=>NE.o.2 e.symm)).trans CB.o;have e6:=(Below.heap_alloc w5 (.cells #[.I x5.1,.I x5.2] 65) _ (aB e5)).trans e5;exact(G6.o.block _ (aB e6) (fun e=>aO O6.o e6 (by decide) e.symm)).trans e6)
      have M7:Hid (MapV w6 (.agg #[.I 0,.I 0]) bb (n+szs (t.ks.take j)+u.sz) (fun i=>enW ((ev ρ (evs ρ g (t.ks.take j)).2 u).2 i))):=(by
       have m6:=M5.o.kept ((Below.refl _ _).alloc lz9 (.cells #[.I x5.1,.I x5.2] 65));exact m6.same (G6.o.block _ m6.lt (fun e=>bJ O6.o m6.block e.symm)))
      refine hK.out _ _ S7.o (fun hHeld4=>?_);clear hK K;refine aCO (v:=?_) 7 ?_ ?_;rotate_left
      ·intro wz hSw;obtain⟨q0,q1,q2,q3,q4,q5,q6⟩:=QC.o wz hSw;clear hSw;go_simp;try with_reducible rfl
      dsimp only [Act.put,g9,g4,g8];simp only [f8,i8,i7];refine wpAnyH_ready (rs:=[8]) (by kernel_rfl) (by simp) ?_;refine AllReadyH.cons rfl (fun K hK=>?_) AllReadyH.nil;have k7:w6.cell? (aDr bs 8)=some (.slice qv j cv):=aA C7.o (i:=8) rfl;have fz:=aG C7.o 8;go_simp;have S8:Hid (Fr (Wr2 bb bs) W0 (w6.setCell (aDr bs 8) (.slice (some (aDr g6 0)) (j+1) cap6))/\BoxN (w6.setCell (aDr bs 8) (.slice (some (aDr g6 0)) (j+1) cap6)) wr.heap.size u.f):=⟨S7.o.1.setCell (p:=(aDr bs 8)) (.inr rfl) _,(Below.heap_setCell _ _ _ _ (fun e=>NE3.o e)).trans S7.o.2⟩;refine hK.out _ _ S8.o (fun hHeld5=>?_);clear hK K;refine wpAnyH_done (by kernel_rfl) ?_ _;have LQ:Hid (LpW ρ W0 (w6.setCell (aDr bs 8) (.slice (some (aDr g6 0)) (j+1) cap6)) bb bs n t c o g (j+1) (.slice (some (aDr g6 0)) (j+1) cap6) (.func (.func 50) #[] #[bx bp])):=by
       obtain⟨ea,eb⟩:=dD (ρ:=ρ) HU.o g;refine⟨aN C7.o 8 _,?_,?_,S8.o.1⟩
       ·rw [ea,xL,HX5.o];exact aH O7.o ((Fr.refl (fun k=>k=bs) w6).setCell (p:=(aDr bs 8)) rfl _) (fun k e z=>aO O7.o C7.o (by decide) (z ▸ e))
       ·rw [eb,bL HU.o,<- aAN];exact M7.o.fr ((Fr.refl (fun k=>k=bs) w6).setCell (p:=(aDr bs 8)) rfl _) (fun e=>by
         obtain⟨es,cl,hb⟩:=M7.o.block;rw [e,C7.o] at hb;cases hb)
      clear k7 fz;go_wp2;go_roundw
      case rel=>exact⟨j+1,_,by omega,by go_num,LQ.o⟩
      case measure=>simp only [intOf];omega
     ·go_simp;have S6:Hid (Fr (Wr2 bb bs) W0 (w5.alloc (.cells #[.I x5.1,.I x5.2] 65))/\BoxN (w5.alloc (.cells #[.I x5.1,.I x5.2] 65)) wr.heap.size u.f):=⟨S5.o.1.alloc _,(Below.heap_alloc _ _ _ (aB S5.o.2)).trans S5.o.2⟩;refine hK.out _ _ S6.o (fun hHeld2=>?_);clear hK K;refine wpAnyH_ready (rs:=[1]) (by kernel_rfl) (by simp) ?_;refine AllReadyH.cons rfl (fun K hK=>?_) AllReadyH.nil;have k9:(w5.alloc (.cells #[.I x5.1,.I x5.2] 65)).cell? (aDr bs 8)=some (.slice qv j cv):=(by have e5:=(F5.o.block _ (aB CB.o) (fun e=>NE.o.2 e.symm)).trans CB.o;exact aA ((Below.heap_alloc w5 (.cells #[.I x5.1,.I x5.2] 65) _ (aB e5)).trans e5) (i:=8) rfl);go_simp;refine hK.out _ _ S6.o (fun hHeld3=>?_);clear hK K;refine wpAnyH_ready (rs:=[6]) (by kernel_rfl) (by simp) ?_;refine AllReadyH.cons rfl (fun K hK=>?_) AllReadyH.nil;have O6:Hid ((w5.alloc (.cells #[.I x5.1,.I x5.2] 65)).ownsRow W0.heap.size 65 2 (.slice qv j cv) j (ceW (evs ρ g (t.ks.take j)).1)):=o8 (aH OK.o F5.o (fun k e z=>bJ OK.o MK.o.block (z ▸ e))) _;refine aZ rfl _ _ 108 rfl W0.heap.size 65 t0 (.agg #[.I 0,.I 0]) 2 16 aC7 TI.o.1 TI.o.2.1 TI.o.2.2.1 TI.o.2.2.2 rfl (by decide) (.slice qv j cv) j (ceW (evs ρ g (t.ks.take j)).1) (by simp [Act.eval]) O6.o (aDr w5.heap.size 0) 1 1 [.I x5.1,.I x5.2] (by simp [Act.eval]) rfl (bI w5 [.I x5.1,.I x5.2] _) (by simp [Value.oneCell']) (by have:=LJ.o;unfold maxLen;omega) (by have:=LJ.o;omega) (m8 S5.o.1.size (by simp only [f4];omega)) ?_;intro v' w6 hown' hgrow hblk;obtain⟨g6,cap6,rfl⟩:=aL hown' (aAL _);have O7:=aC hown';have G6:=aC hgrow;clear hown' hgrow hblk;have S7:Hid (Fr (Wr2 bb bs) W0 w6/\BoxN w6 wr.heap.size u.f):=⟨S6.o.1.grownNew G6.o (fun k e=>(aF O6.o e).1),(G6.o.block _ (aB S6.o.2) (fun e=>by
       have:=(aF LP.o.own e.symm).2.1;omega)).trans S6.o.2⟩
      have C7:Hid (w6.heap[bs]?=some (.cells (cX t.f c o (.slice qv j cv) (.func (.func 50) #[] #[bx bp])) 110 (0,0))):=(by
       have e5:=(F5.o.block _ (aB CB.o) (fun e=>NE.o.2 e.symm)).trans CB.o;have e6:=(Below.heap_alloc w5 (.cells #[.I x5.1,.I x5.2] 65) _ (aB e5)).trans e5;exact(G6.o.block _ (aB e6) (fun e=>aO O6.o e6 (by decide) e.symm)).trans e6)
      have M7:Hid (MapV w6 (.agg #[.I 0,.I 0]) bb (n+szs (t.ks.take j)+u.sz) (fun i=>enW ((ev ρ (evs ρ g (t.ks.take j)).2 u).2 i))):=(by
       have m6:=M5.o.kept ((Below.refl _ _).alloc lz9 (.cells #[.I x5.1,.I x5.2] 65));exact m6.same (G6.o.block _ m6.lt (fun e=>bJ O6.o m6.block e.symm)))
      refine hK.out _ _ S7.o (fun hHeld4=>?_);clear hK K;refine aCO (v:=?_) 7 ?_ ?_;rotate_left
      ·intro wz hSw;obtain⟨q0,q1,q2,q3,q4,q5,q6⟩:=QC.o wz hSw;clear hSw;go_simp;try with_reducible rfl
      dsimp only [Act.put,g9,g4,g8];simp only [f8,i8,i7];refine wpAnyH_ready (rs:=[8]) (by kernel_rfl) (by simp) ?_;refine AllReadyH.cons rfl (fun K hK=>?_) AllReadyH.nil;have k7:w6.cell? (aDr bs 8)=some (.slice qv j cv):=aA C7.o (i:=8) rfl;have fz:=aG C7.o 8;go_simp;have S8:Hid (Fr (Wr2 bb bs) W0 (w6.setCell (aDr bs 8) (.slice (some (aDr g6 0)) (j+1) cap6))/\BoxN (w6.setCell (aDr bs 8) (.slice (some (aDr g6 0)) (j+1) cap6)) wr.heap.size u.f):=⟨S7.o.1.setCell (p:=(aDr bs 8)) (.inr rfl) _,(Below.heap_setCell _ _ _ _ (fun e=>NE3.o e)).trans S7.o.2⟩;refine hK.out _ _ S8.o (fun hHeld5=>?_);clear hK K;refine wpAnyH_done (by kernel_rfl) ?_ _;have LQ:Hid (LpW ρ W0 (w6.setCell (aDr bs 8) (.slice (some (aDr g6 0)) (j+1) cap6)) bb bs n t c o g (j+1) (.slice (some (aDr g6 0)) (j+1) cap6) (.func (.func 50) #[] #[bx bp])):=by
       obtain⟨ea,eb⟩:=dD (ρ:=ρ) HU.o g;refine⟨aN C7.o 8 _,?_,?_,S8.o.1⟩
       ·rw [ea,xL,HX5.o];exact aH O7.o ((Fr.refl (fun k=>k=bs) w6).setCell (p:=(aDr bs 8)) rfl _) (fun k e z=>aO O7.o C7.o (by decide) (z ▸ e))
       ·rw [eb,bL HU.o,<- aAN];exact M7.o.fr ((Fr.refl (fun k=>k=bs) w6).setCell (p:=(aDr bs 8)) rfl _) (fun e=>by
         obtain⟨es,cl,hb⟩:=M7.o.block;rw [e,C7.o] at hb;cases hb)
      clear k7 fz;go_wp2;go_roundw
      case rel=>exact⟨j+1,_,by omega,by go_num,LQ.o⟩
      case measure=>simp only [intOf];omega
   ·have e0:¬ (j:Int)<(t.f.kl:Int):=by rw [HKL.o];omega
    obtain rfl:j=t.ks.length:=by omega
    have hk:t.ks.take t.ks.length=t.ks:=aBF;have XO:=aC (hk ▸ LP.o.own);have XM:=aC (hk ▸ LP.o.mp);have r0:wr.cell? (aDr br 0)=some (.func (.func 27) #[] #[]):=aA (HTW.o.ck CW.o).r (i:=0) rfl;have s0:wr.cell? (aDr bs 0)=some (.I t.f.k):=aA LP.o.sc (i:=0) rfl;have s1:wr.cell? (aDr bs 1)=some (.I t.f.n):=aA LP.o.sc (i:=1) rfl;have s2:wr.cell? (aDr bs 2)=some (.I t.f.mn):=aA LP.o.sc (i:=2) rfl;have s3:wr.cell? (aDr bs 3)=some (.I t.f.mx):=aA LP.o.sc (i:=3) rfl;have s4:wr.cell? (aDr bs 4)=some (.slice t.f.rq t.f.rs.length t.f.rc):=aA LP.o.sc (i:=4) rfl;have s5:wr.cell? (aDr bs 5)=some (.slice t.f.kq t.f.kl t.f.kc):=aA LP.o.sc (i:=5) rfl;have s6:wr.cell? (aDr bs 6)=some (.bool c):=aA LP.o.sc (i:=6) rfl;have s7:wr.cell? (aDr bs 7)=some (.bool o):=aA LP.o.sc (i:=7) rfl;have s8:wr.cell? (aDr bs 8)=some (.slice qv t.ks.length cv):=aA LP.o.sc (i:=8) rfl;have s9:wr.cell? (aDr bs 9)=some (.func (.func 50) #[] #[bx bp]):=aA LP.o.sc (i:=9) rfl;clear hk;obtain⟨gx,gy⟩:=eM HG.o t.ks g (fun u hu=>bC HNP.o hu) HGD.o;have hC:=HR.o t (evs ρ g t.ks).1 (evs ρ g t.ks).2 wr (.slice qv t.ks.length cv) bp bb (n+szs t.ks) W0.heap.size (hglo CW.o HGW.o) ((aQ t).1 HNP.o).1 (by have:=cO t.ks;have:=hkz.o;have:=HN.o;omega) ((HTA.o.ck CW.o).node) (fT _ _) gx gy (by rw [fT];exact XO.o) (HTW.o.ck CW.o).p XM.o;simp only [cX,enW] at hC;have HC:=aC hC;clear hC gx gy;have BN:Hid (BoxN wr w.heap.size t.f):=(LP.o.fr.block _ (aB N0.o) (fun z=>by
     rcases z with e | e
     ·obtain⟨es,cl,hb⟩:=MB.o;rw [<- e,show W0.heap[w.heap.size]?=_ from N0.o] at hb;cases hb
     ·have:=HBS.o.2.2;omega)).trans N0.o
    have BR:Hid (wr.heap[w.heap.size+1]?=some (.cells #[.I 0,.I 0] 65 (0,0))):=(LP.o.fr.block _ (aB R0.o) (fun z=>by
     rcases z with e | e
     ·obtain⟨es,cl,hb⟩:=MB.o;rw [<- e,R0.o] at hb;cases hb
     ·have:=HBS.o.2.2;omega)).trans R0.o
    have hx:(ev ρ g t).1=ρ t.f t.ks (evs ρ g t.ks).1 (evs ρ g t.ks).2:=kN g t;rw [<- hx] at HC;have HS:=aC (lP (ρ:=ρ) g t);obtain⟨x,hxx⟩:∃ x,(ev ρ g t).1=x:=⟨_,rfl⟩;rw [hxx] at HC HS;have HX:=aC hxx;clear hx hxx;have FW:Hid (Fr (fun k=>k=bb) w wr):=tD HBS.o.1 B0.o LP.o.fr;by_cases h7:t.f.k=7
    ·have h7b:(t.f.k==7)=true:=by simp [h7]
     have WF:Hid ((Lit.int .i64 t.f.n).wf=true):=HWF.o t ((aQ t).1 HNP.o).1 h7;rw [if_pos h7] at HS;clear h7;go_wp2_with first
      |(go_at_call 27;refine HC.o.mono ?_;rintro e w5 ⟨rfl,h5⟩;have B5:=aC h5;clear h5 s0 s1 s2 s3 s4 s5 s6 s7 s8 s9 r0;have N5:Hid (BoxN w5 w.heap.size t.f):=(B5.o.block _ (aB BN.o)).trans BN.o;have A5:Hid (wBl w5 (w5.alloc (.cells #[.int .i64 x.1,.int .i64 x.2] 65))):=bz9;have N6:Hid (BoxN (w5.alloc (.cells #[.int .i64 x.1,.int .i64 x.2] 65)) w.heap.size t.f):=(A5.o.block _ (aB N5.o)).trans N5.o;have R5:Hid ((w5.alloc (.cells #[.int .i64 x.1,.int .i64 x.2] 65)).heap[w.heap.size+1]?=some (.cells #[.int .i64 0,.int .i64 0] 65 (0,0))):=(A5.o.block _ (aB ((B5.o.block _ (aB BR.o)).trans BR.o))).trans ((B5.o.block _ (aB BR.o)).trans BR.o);have k0:(w5.alloc (.cells #[.int .i64 x.1,.int .i64 x.2] 65)).cell? (aDr w.heap.size 0)=some (.int .i64 t.f.k):=N6.o.six.1;have k1:(w5.alloc (.cells #[.int .i64 x.1,.int .i64 x.2] 65)).cell? (aDr w.heap.size 1)=some (.int .i64 t.f.n):=N6.o.six.2.1;have p0:(w5.alloc (.cells #[.int .i64 x.1,.int .i64 x.2] 65)).cell? (aDr bp 0)=some (.map (some bb)):=aA (((HTW.o.ck CW.o).ck (CK.of_below B5.o)).ck (CK.of_below A5.o)).p (i:=0) rfl;have z0:=aA R5.o (i:=0) rfl;have z1:=aA R5.o (i:=1) rfl;have fz:=fun z=>aG R5.o z)
      |(at_mapUpdate;refine eI _ rfl _ _ _ 105 rfl 65 aV7 (.agg #[.int .i64 0,.int .i64 0]) bb (n+szs t.ks) (fun i=>enW ((evs ρ g t.ks).2 i)) rfl ((XM.o.kept B5.o).kept (bz9)) (by have:=HN.o;have:=hkz.o;unfold maxLen;omega) t.f.n rfl WF.o (enW x) rfl ?_;intro w6 hm6 hg6;have M6:=aC hm6;have G6:=aC hg6;clear hm6 hg6;have C6:Hid (CK (w5.alloc (.cells #[.int .i64 x.1,.int .i64 x.2] 65)) w6):=xJ ((XM.o.kept B5.o).kept A5.o).block ((Fr.refl _ _).grown G6.o (fun k e=>by injection e with e;exact e.symm));have R6:Hid (w6.heap[w.heap.size+1]?=some (.cells #[.int .i64 0,.int .i64 0] 65 (0,0))):=C6.o.same _ _ _ _ (aB R5.o) R5.o;have X6:Hid (w6.heap[w5.heap.size]?=some (.cells #[.int .i64 x.1,.int .i64 x.2] 65 (0,0))):=C6.o.same _ _ _ _ (aB (aE w5 _)) (aE w5 _);clear fz z0 z1;have z0:=aA R6.o (i:=0) rfl;have x0:=aA X6.o (i:=0) rfl;have z1:=aA R6.o (i:=1) rfl;have x1:=aA X6.o (i:=1) rfl;have fz:=fun z=>aG R6.o z)
     refine aJ4 (b:=w.heap.size+1) (x:=x) (bA R6.o [.I x.1,.I x.2] rfl) rfl rfl ?_;have F7:=aY (w.heap.size+1) [.I x.1,.I x.2] 0 w6;refine⟨by rw [HX.o],?_,?_⟩
     ·rw [HS.o,<- rW,show n+t.sz=n+szs t.ks+1 by have:=hkz.o;omega];exact M6.o.fr F7 (fun e=>by
       obtain⟨es,cl,hb⟩:=M6.o.block;rw [e,R6.o] at hb;cases hb)
     ·exact lO (((FW.o.then B5.o).then (bz9)).grown G6.o (fun k e=>by injection e with e;exact e.symm)) F7 (by omega)
    ·have h7b:(t.f.k==7)=false:=by simp [h7]
     rw [if_neg h7] at HS;clear h7;go_wp2_with first
      |(go_at_call 27;refine HC.o.mono ?_;rintro e w5 ⟨rfl,h5⟩;have B5:=aC h5;clear h5 s0 s1 s2 s3 s4 s5 s6 s7 s8 s9 r0;have N5:Hid (BoxN w5 w.heap.size t.f):=(B5.o.block _ (aB BN.o)).trans BN.o;have A5:Hid (wBl w5 (w5.alloc (.cells #[.int .i64 x.1,.int .i64 x.2] 65))):=bz9;have N6:Hid (BoxN (w5.alloc (.cells #[.int .i64 x.1,.int .i64 x.2] 65)) w.heap.size t.f):=(A5.o.block _ (aB N5.o)).trans N5.o;have R5:Hid ((w5.alloc (.cells #[.int .i64 x.1,.int .i64 x.2] 65)).heap[w.heap.size+1]?=some (.cells #[.int .i64 0,.int .i64 0] 65 (0,0))):=(A5.o.block _ (aB ((B5.o.block _ (aB BR.o)).trans BR.o))).trans ((B5.o.block _ (aB BR.o)).trans BR.o);have k0:(w5.alloc (.cells #[.int .i64 x.1,.int .i64 x.2] 65)).cell? (aDr w.heap.size 0)=some (.int .i64 t.f.k):=N6.o.six.1;have k1:(w5.alloc (.cells #[.int .i64 x.1,.int .i64 x.2] 65)).cell? (aDr w.heap.size 1)=some (.int .i64 t.f.n):=N6.o.six.2.1;have p0:(w5.alloc (.cells #[.int .i64 x.1,.int .i64 x.2] 65)).cell? (aDr bp 0)=some (.map (some bb)):=aA (((HTW.o.ck CW.o).ck (CK.of_below B5.o)).ck (CK.of_below A5.o)).p (i:=0) rfl;have z0:=aA R5.o (i:=0) rfl;have z1:=aA R5.o (i:=1) rfl;have fz:=fun z=>aG R5.o z)
     refine aJ4 (b:=w.heap.size+1) (x:=x) (bA R5.o [.I x.1,.I x.2] rfl) rfl rfl ?_;have F7:=aY (w.heap.size+1) [.I x.1,.I x.2] 0 (w5.alloc (.cells #[.I x.1,.I x.2] 65));refine⟨by rw [HX.o],?_,?_⟩
     ·rw [HS.o];have M6:=((XM.o.kept B5.o).kept ((Below.refl _ _).alloc lz9 (.cells #[.I x.1,.I x.2] 65)));exact(M6.fr F7 (fun e=>by
       obtain⟨es,cl,hb⟩:=M6.block;rw [e,R5.o] at hb;cases hb)).mono (by have:=hkz.o;omega)
     ·exact lO ((FW.o.then B5.o).then (bz9)) F7 (by omega)
end
section
attribute [local go_sem] Oper.semAt_some
theorem bK2{R:Ending->World->Prop}{a:Act}{W:World}{b:Nat}{x:Int×Int}(h:W.heap[b]?=some (.cells #[.I x.1,.I x.2] 65 (0,0)))(ha:a.tmps[3]?.getD undef=.pointer (some (aDr b 0)))(hd:a.defers=[])(hR:R (.returned (enW x)) W):bodyPost Tryz.prog Tryz.f50 R .ret a W:=by
 refine bodyPost_ret (v:=enW x) ?_ hd hR;have z0:=aA h (i:=0) rfl;have z1:=aA h (i:=1) rfl;simp [results,Tryz.results50,go_sem,ha,enW,z0,z1]
theorem aI9{R:Ending->World->Prop}{a:Act}{W:World}{b:Nat}{x:Int×Int}(h:W.heap[b]?=some (.cells #[.I x.1,.I x.2] 65 (0,0)))(ha:a.tmps[6]?.getD undef=.pointer (some (aDr b 0)))(hd:a.defers=[])(hR:R (.returned (enW x)) W):bodyPost Tryz.prog Tryz.f26 R .ret a W:=by
 refine bodyPost_ret (v:=enW x) ?_ hd hR;have z0:=aA h (i:=0) rfl;have z1:=aA h (i:=1) rfl;simp [results,Tryz.results26,go_sem,ha,enW,z0,z1]
theorem bQ2(w:World):(zeroValue 65).run Tryz.prog w=.ok (.agg #[.I 0,.I 0]) w:=by kernel_rfl
theorem bX6{w:World}{bp bb n:Nat}{g:Int->Int×Int}(hp:w.heap[bp]?=some (.cells #[.map (some bb)] 105 (0,0)))(hm:MapV w (.agg #[.int .i64 0,.int .i64 0]) bb n (fun i=>enW (g i)))(i:Int)(hi:(Lit.int .i64 i).wf=true) :
  Calls Tryz.prog 50 #[.I i,bx bp] w fun e w'=>e=.returned (enW (g i))/\wBl w w':=by
 have HM:=aC hm;have HI:=aC hi;have HP:=aC hp;have lp:=aB hp;have p0:w.cell? (aDr bp 0)=some (.map (some bb)):=aA hp (i:=0) rfl;clear hm hi hp;obtain⟨x,hx⟩:∃ x,g i=x:=⟨_,rfl⟩;have HX:=aC hx;clear hx;have A1:Hid (wBl w (w.alloc (.cells #[.I 0,.I 0] 65))):=bz9;go_enter Tryz.func50,Tryz.ntmps50;go_wp2_with (at_lookup;refine mW _ rfl _ _ 105 rfl 65 aV7 (.agg #[.I 0,.I 0]) bb n (fun i=>enW (g i)) rfl (HM.o.kept A1.o) (bQ2 _) i rfl HI.o ?_;rw [HX.o];simp only [enW])
 refine bK2 (b:=w.heap.size) (x:=x) (aE w _) rfl rfl ?_;exact⟨by rw [HX.o],bz9⟩
noncomputable def tvW (ρ:dJ (Int×Int)) (c o:Bool) (t:Tr):Int×Int:=if aW c o 0 0 (pp [] t)=0 then (ev ρ (fun _=>(0,0)) t).1 else (0,0)
theorem bR3{Glo:World->Prop}(hglo:∀ {A B:World},CK A B->Glo A->Glo B){w:World}(hgw:Glo w){t:Tr}{Good:Int×Int->Prop}{ρ:dJ (Int×Int)}{c o:Bool}(hta:TB w t)(hr:RuW Glo (NP c o) Good ρ c o)(hg:∀ t xs g,NP c o t->xs.length=t.ks.length->(∀ x∈xs,Good x)->(∀ i,Good (g i))->Good (ρ t.f t.ks xs g))(h0:Good (0,0)) :
  Calls Tryz.prog 26 #[.agg (nDf t.f),.agg #[.bool c,.bool o],.func (.func 27) #[] #[]] w fun e w'=>e=.returned (enW (tvW ρ c o t))/\wBl w w':=by
 have HTA:=aC hta;have HGW:=aC hgw;have HR:=aC hr;clear hgw;have HG:=aC hg;have H0:=aC h0;clear hta hr hg h0;by_cases hz:aW c o 0 0 (pp [] t)=0
 ·have HV:Hid (tvW ρ c o t=(ev ρ (fun _=>(0,0)) t).1):=if_pos hz;have HZ:=aC hz;clear hz;have hmm:=@run_makeMap Tryz.prog;go_enter Tryz.func26,Tryz.ntmps26;go_upto_region 8 with (go_at_call 39;refine(dW c o (HTA.o.kept ((((bz9).alloc (by simp only [f4];omega) _).alloc (by simp only [f4];omega) _).alloc (by simp only [f4];omega) _))).mono ?_;rintro e w1 ⟨rfl,h1⟩;have B1:=aC h1;clear h1;have rz:=HZ.o)
  have l1:((((w.alloc (.cells (nDf t.f) 25)).alloc (.cells #[.bool c,.bool o] 27)).alloc (.cells #[.func (.func 27) #[] #[]] 67)).alloc (.cells #[.I 0,.I 0] 65)).heap.size<=w1.heap.size:=B1.o.size;simp only [f4] at l1;have b1:w1.heap[w.heap.size]?=some (.cells (nDf t.f) 25 (0,0)):=(B1.o.block _ (by simp only [f4];omega)).trans (by(repeat (first | exact aK _ (by first | rfl | simp only [f4]) | rw [Below.heap_alloc _ _ _ (by first | omega |(simp only [f4];omega))])));have b2:w1.heap[w.heap.size+1]?=some (.cells #[.bool c,.bool o] 27 (0,0)):=(B1.o.block _ (by simp only [f4];omega)).trans (by(repeat (first | exact aK _ (by first | rfl | simp only [f4]) | rw [Below.heap_alloc _ _ _ (by first | omega |(simp only [f4];omega))])));have b3:w1.heap[w.heap.size+1+1]?=some (.cells #[.func (.func 27) #[] #[]] 67 (0,0)):=(B1.o.block _ (by simp only [f4];omega)).trans (by(repeat (first | exact aK _ (by first | rfl | simp only [f4]) | rw [Below.heap_alloc _ _ _ (by first | omega |(simp only [f4];omega))])));have b4:w1.heap[w.heap.size+1+1+1]?=some (.cells #[.I 0,.I 0] 65 (0,0)):=(B1.o.block _ (by simp only [f4];omega)).trans (by(repeat (first | exact aK _ (by first | rfl | simp only [f4]) | rw [Below.heap_alloc _ _ _ (by first | omega |(simp only [f4];omega))])));have TT:Hid (TWW ((((w1.alloc (.map #[] 0)).alloc (.cells #[.map (some w1.heap.size)] 105)).alloc (.cells #[.func (.func 50) #[] #[.pointer (some ⟨w1.heap.size+1,0,none⟩)]] 106)).alloc (.cells #[.func (.func 51) #[] #[.pointer (some ⟨w.heap.size+1,0,none⟩),.pointer (some ⟨w1.heap.size+1+1,0,none⟩),.pointer (some ⟨w1.heap.size+1+1+1,0,none⟩),.pointer (some ⟨w.heap.size+1+1,0,none⟩),.pointer (some ⟨w1.heap.size+1,0,none⟩)]] 107)) (w.heap.size+1) (w1.heap.size+1+1) (w1.heap.size+1+1+1) (w.heap.size+1+1) (w1.heap.size+1) w1.heap.size c o):=⟨by rw [<- b2];(repeat (first | exact aK _ (by first | rfl | simp only [f4]) | rw [Below.heap_alloc _ _ _ (by first | omega |(simp only [f4];omega))])),by(repeat (first | exact aK _ (by first | rfl | simp only [f4]) | rw [Below.heap_alloc _ _ _ (by first | omega |(simp only [f4];omega))])),by(repeat (first | exact aK _ (by first | rfl | simp only [f4]) | rw [Below.heap_alloc _ _ _ (by first | omega |(simp only [f4];omega))])),by rw [<- b3];(repeat (first | exact aK _ (by first | rfl | simp only [f4]) | rw [Below.heap_alloc _ _ _ (by first | omega |(simp only [f4];omega))])),by(repeat (first | exact aK _ (by first | rfl | simp only [f4]) | rw [Below.heap_alloc _ _ _ (by first | omega |(simp only [f4];omega))]))⟩;have BX:Hid (wBl w1 ((((w1.alloc (.map #[] 0)).alloc (.cells #[.map (some w1.heap.size)] 105)).alloc (.cells #[.func (.func 50) #[] #[.pointer (some ⟨w1.heap.size+1,0,none⟩)]] 106)).alloc (.cells #[.func (.func 51) #[] #[.pointer (some ⟨w.heap.size+1,0,none⟩),.pointer (some ⟨w1.heap.size+1+1,0,none⟩),.pointer (some ⟨w1.heap.size+1+1+1,0,none⟩),.pointer (some ⟨w.heap.size+1+1,0,none⟩),.pointer (some ⟨w1.heap.size+1,0,none⟩)]] 107))):=(((bz9).alloc (by simp only [f4];omega) _).alloc (by simp only [f4];omega) _).alloc (by simp only [f4];omega) _;have MM:Hid (MapV ((((w1.alloc (.map #[] 0)).alloc (.cells #[.map (some w1.heap.size)] 105)).alloc (.cells #[.func (.func 50) #[] #[.pointer (some ⟨w1.heap.size+1,0,none⟩)]] 106)).alloc (.cells #[.func (.func 51) #[] #[.pointer (some ⟨w.heap.size+1,0,none⟩),.pointer (some ⟨w1.heap.size+1+1,0,none⟩),.pointer (some ⟨w1.heap.size+1+1+1,0,none⟩),.pointer (some ⟨w.heap.size+1+1,0,none⟩),.pointer (some ⟨w1.heap.size+1,0,none⟩)]] 107)) (.agg #[.I 0,.I 0]) w1.heap.size 0 (fun _=>enW (0,0))):=(((MapV.made w1 (.agg #[.I 0,.I 0])).kept (bz9)).kept (bz9)).kept (bz9);have BN:=aC ((BX.o.block _ (aB b1)).trans b1);have BR:=aC ((BX.o.block _ (aB b4)).trans b4);generalize hWX:((((w1.alloc (.map #[] 0)).alloc (.cells #[.map (some w1.heap.size)] 105)).alloc (.cells #[.func (.func 50) #[] #[.pointer (some ⟨w1.heap.size+1,0,none⟩)]] 106)).alloc (.cells #[.func (.func 51) #[] #[.pointer (some ⟨w.heap.size+1,0,none⟩),.pointer (some ⟨w1.heap.size+1+1,0,none⟩),.pointer (some ⟨w1.heap.size+1+1+1,0,none⟩),.pointer (some ⟨w.heap.size+1+1,0,none⟩),.pointer (some ⟨w1.heap.size+1,0,none⟩)]] 107))=WX at TT BX MM BN BR ⊢;clear hWX b1 b2 b3 b4;have B9:Hid (wBl w WX):=aJ (aJ ((((bz9).alloc (by simp only [f4];omega) _).alloc (by simp only [f4];omega) _).alloc (by simp only [f4];omega) _) B1.o lz9) BX.o lz9;have hO:=bZ0 hglo HR.o (fun t h k=>h.wf k) HG.o (w.heap.size+1) (w1.heap.size+1+1) (w1.heap.size+1+1+1) (w.heap.size+1+1) (w1.heap.size+1) w1.heap.size t.sz t WX 0 (fun _=>(0,0)) lz9 (by have:=jM HZ.o;omega) (hglo (CK.of_below B9.o) HGW.o) (HTA.o.kept B9.o) (eW HZ.o) (fun _=>H0.o) TT.o MM.o;obtain⟨x,hx⟩:∃ x,tvW ρ c o t=x:=⟨_,rfl⟩;have HC:Hid (Calls Tryz.prog 51 #[.agg (nDf t.f),.pointer (some ⟨w.heap.size+1,0,none⟩),.pointer (some ⟨w1.heap.size+1+1,0,none⟩),.pointer (some ⟨w1.heap.size+1+1+1,0,none⟩),.pointer (some ⟨w.heap.size+1+1,0,none⟩),.pointer (some ⟨w1.heap.size+1,0,none⟩)] WX (fun e w'=>e=.returned (.agg #[.I x.1,.I x.2])/\Fr (fun k=>k=w1.heap.size) WX w')):=aC (hO.mono fun e w' h=>⟨by rw [h.1,<- HV.o,hx];rfl,h.2.2⟩);have HX:=aC hx;clear hO hx;have o0:WX.cell? ⟨w1.heap.size+1+1+1,0,none⟩=some (.func (.func 51) #[] #[.pointer (some ⟨w.heap.size+1,0,none⟩),.pointer (some ⟨w1.heap.size+1+1,0,none⟩),.pointer (some ⟨w1.heap.size+1+1+1,0,none⟩),.pointer (some ⟨w.heap.size+1+1,0,none⟩),.pointer (some ⟨w1.heap.size+1,0,none⟩)]):=aA TT.o.o (i:=0) rfl;have n0:WX.cell? (aDr w.heap.size 0)=some (.I t.f.k):=aA BN.o (i:=0) rfl;have n1:WX.cell? (aDr w.heap.size 1)=some (.I t.f.n):=aA BN.o (i:=1) rfl;have n2:WX.cell? (aDr w.heap.size 2)=some (.I t.f.mn):=aA BN.o (i:=2) rfl;have n3:WX.cell? (aDr w.heap.size 3)=some (.I t.f.mx):=aA BN.o (i:=3) rfl;have n4:WX.cell? (aDr w.heap.size 4)=some (.slice t.f.rq t.f.rs.length t.f.rc):=aA BN.o (i:=4) rfl;have n5:WX.cell? (aDr w.heap.size 5)=some (.slice t.f.kq t.f.kl t.f.kc):=aA BN.o (i:=5) rfl;go_wp2_with (go_at_call 51;refine HC.o.mono ?_;rintro e w5 ⟨rfl,h5⟩;have F5:=aC h5;clear h5;have R5:Hid (w5.heap[w.heap.size+1+1+1]?=some (.cells #[.I 0,.I 0] 65 (0,0))):=(F5.o.block _ (aB BR.o) (fun e=>by omega)).trans BR.o;have z0:=aA R5.o (i:=0) rfl;have z1:=aA R5.o (i:=1) rfl;have fz:=fun z=>aG R5.o z)
  refine aI9 (b:=w.heap.size+1+1+1) (x:=x) (bA R5.o [.I x.1,.I x.2] rfl) rfl rfl ?_;exact⟨by rw [HX.o],bB (bB B9.o F5.o lz9 (fun k e=>by rw [e];exact m8 (by omega) l1)) (aY (w.heap.size+1+1+1) [.I x.1,.I x.2] 0 w5) lz9 (fun k e=>by omega)⟩
 ·have HV:Hid (tvW ρ c o t=(0,0)):=if_neg hz;have HZ:=aC hz;obtain⟨r,hrr⟩:∃ r,aW c o 0 0 (pp [] t)=r:=⟨_,rfl⟩;have rz:(r==0)=false:=by rw [<- hrr];simpa using hz
  have rz2:(r != 0)=true:=by rw [bne,rz];rfl
  have HQ:=aC hrr;clear hz hrr;go_enter Tryz.func26,Tryz.ntmps26;go_wp2_with (go_at_call 39;refine(dW c o (HTA.o.kept ((((bz9).alloc (by simp only [f4];omega) _).alloc (by simp only [f4];omega) _).alloc (by simp only [f4];omega) _))).mono ?_;rw [HQ.o];rintro e w1 ⟨rfl,h1⟩;have B1:=aC h1;clear h1;have l1:((((w.alloc (.cells (nDf t.f) 25)).alloc (.cells #[.bool c,.bool o] 27)).alloc (.cells #[.func (.func 27) #[] #[]] 67)).alloc (.cells #[.I 0,.I 0] 65)).heap.size<=w1.heap.size:=B1.o.size;simp only [f4] at l1;have RA:Hid ((w1.alloc (.cells #[.I 0,.I 0] 65)).heap[w.heap.size+1+1+1]?=some (.cells #[.I 0,.I 0] 65 (0,0))):=(Below.heap_alloc _ _ _ (by omega)).trans ((B1.o.block _ (by simp only [f4];omega)).trans (by(repeat (first | exact aK _ (by first | rfl | simp only [f4]) | rw [Below.heap_alloc _ _ _ (by first | omega |(simp only [f4];omega))]))));have z0:=aA RA.o (i:=0) rfl;have z1:=aA RA.o (i:=1) rfl;have fz:=fun z=>aG RA.o z)
  refine aI9 (b:=w.heap.size+1+1+1) (x:=(0,0)) (bA RA.o [.I 0,.I 0] rfl) rfl rfl ?_;exact⟨by rw [HV.o],bB ((aJ ((((bz9).alloc (by simp only [f4];omega) _).alloc (by simp only [f4];omega) _).alloc (by simp only [f4];omega) _) B1.o lz9).alloc (by have:=(aJ ((((bz9).alloc (by simp only [f4];omega) _).alloc (by simp only [f4];omega) _).alloc (by simp only [f4];omega) _) B1.o lz9).size;omega) _) (aY (w.heap.size+1+1+1) [.I 0,.I 0] 0 _) lz9 (fun k e=>by omega)⟩
end
section
attribute [local go_sem] Oper.semAt_some aS
def lst(n:Int):Int:=min n 1000000
def mst(n:Int):Int:=if 1000000<n then -1 else n
def uE(a b:Int):Int:=if a=-1\/b=-1 then -1 else mst (a+b)
def gW(a b:Int):Int:=if a=0\/b=0 then 0 else if a=-1\/b=-1 then -1 else mst (a*b)
def xB(a b:Int):Int:=if a=-1\/b=-1 then -1 else max a b
theorem vG(n:Int)(w:World):Calls Tryz.prog 53 #[.I n] w fun e w'=>e=.returned (.I (lst n))/\w'=w:=by
 have hm:∀ t ty w,(Builtin.min_ t ty #[.I n,.I 1000000]).run Tryz.prog w=.ok (.I (lst n)) w:=fun t ty w=>oN _ t ty w _ _;go_enter Tryz.func53,Tryz.ntmps53;go_wp2;go_ret;exact⟨rfl,rfl⟩
theorem zI(n:Int)(w:World):Calls Tryz.prog 89 #[.I n] w fun e w'=>e=.returned (.I (mst n))/\w'=w:=by
 by_cases h:1000000<n
 ·have hv:Hid (mst n=-1):=if_pos h;go_enter Tryz.func89,Tryz.ntmps89;go_wp2;go_ret;exact⟨by rw [hv.o];rfl,rfl⟩
 ·have hv:Hid (mst n=n):=if_neg h;go_enter Tryz.func89,Tryz.ntmps89;go_wp2;go_ret;exact⟨by rw [hv.o];rfl,rfl⟩
theorem bI6(a b:Int)(w:World)(ha:-1<=a/\a<=1000000)(hb:-1<=b/\b<=1000000):Calls Tryz.prog 54 #[.I a,.I b] w fun e w'=>e=.returned (.I (uE a b))/\w'=w:=by
 cases h1:(a==-1) with
 | true=>
  have hv:Hid (uE a b=-1):=if_pos (.inl (by simpa using h1));go_enter Tryz.func54,Tryz.ntmps54;go_wp2;go_ret;exact⟨by rw [hv.o];rfl,rfl⟩
 | false=>
  cases h2:(b==-1) with
  | true=>
   have hv:Hid (uE a b=-1):=if_pos (.inr (by simpa using h2));go_enter Tryz.func54,Tryz.ntmps54;go_wp2;go_ret;exact⟨by rw [hv.o];rfl,rfl⟩
  | false=>
   have hv:Hid (uE a b=mst (a+b)):=if_neg (by simp at h1 h2;omega);go_enter Tryz.func54,Tryz.ntmps54;go_wp2_with (go_at_call 89;refine(zI _ _).mono ?_;rintro e w5 ⟨rfl,rfl⟩)
   go_ret;exact⟨by rw [hv.o];rfl,rfl⟩
theorem yW(a b:Int)(w:World)(ha:-1<=a/\a<=255)(hb:-1<=b/\b<=1000000):Calls Tryz.prog 56 #[.I a,.I b] w fun e w'=>e=.returned (.I (gW a b))/\w'=w:=by
 cases z1:(a==0) with
 | true=>
  have hv:Hid (gW a b=0):=if_pos (.inl (by simpa using z1));go_enter Tryz.func56,Tryz.ntmps56;go_wp2;go_ret;exact⟨by rw [hv.o];rfl,rfl⟩
 | false=>
  cases z2:(b==0) with
  | true=>
   have hv:Hid (gW a b=0):=if_pos (.inr (by simpa using z2));go_enter Tryz.func56,Tryz.ntmps56;go_wp2;go_ret;exact⟨by rw [hv.o];rfl,rfl⟩
  | false=>
   have hn:¬ (a=0\/b=0):=by simp at z1 z2;omega
   cases h1:(a==-1) with
   | true=>
    have hv:Hid (gW a b=-1):=(if_neg hn).trans (if_pos (.inl (by simpa using h1)));clear hn;go_enter Tryz.func56,Tryz.ntmps56;go_wp2;go_ret;exact⟨by rw [hv.o];rfl,rfl⟩
   | false=>
    cases h2:(b==-1) with
    | true=>
     have hv:Hid (gW a b=-1):=(if_neg hn).trans (if_pos (.inr (by simpa using h2)));clear hn;go_enter Tryz.func56,Tryz.ntmps56;go_wp2;go_ret;exact⟨by rw [hv.o];rfl,rfl⟩
    | false=>
     have hv:Hid (gW a b=mst (a*b)):=(if_neg hn).trans (if_neg (by simp at h1 h2;omega));have hp:0<=a*b/\a*b<=255*1000000:=by
      simp at z1 z2 h1 h2;exact⟨aCL (by omega) (by omega),Int.mul_le_mul (by omega) (by omega) (by omega) (by omega)⟩
     clear hn;go_enter Tryz.func56,Tryz.ntmps56;go_wp2_with (go_at_call 89;refine(zI _ _).mono ?_;rintro e w5 ⟨rfl,rfl⟩)
     go_ret;exact⟨by rw [hv.o];rfl,rfl⟩
theorem aS2(a b:Int)(w:World):Calls Tryz.prog 55 #[.I a,.I b] w fun e w'=>e=.returned (.I (xB a b))/\w'=w:=by
 cases h1:(a==-1) with
 | true=>
  have hv:Hid (xB a b=-1):=if_pos (.inl (by simpa using h1));go_enter Tryz.func55,Tryz.ntmps55;go_wp2;go_ret;exact⟨by rw [hv.o];rfl,rfl⟩
 | false=>
  cases h2:(b==-1) with
  | true=>
   have hv:Hid (xB a b=-1):=if_pos (.inr (by simpa using h2));go_enter Tryz.func55,Tryz.ntmps55;go_wp2;go_ret;exact⟨by rw [hv.o];rfl,rfl⟩
  | false=>
   have hv:Hid (xB a b=max a b):=if_neg (by simp at h1 h2;omega);have hm:∀ t ty w,(Builtin.max_ t ty #[.I a,.I b]).run Tryz.prog w=.ok (.I (max a b)) w:=fun t ty w=>iZ _ t ty w _ _;go_enter Tryz.func55,Tryz.ntmps55;go_wp2;go_ret;exact⟨by rw [hv.o];rfl,rfl⟩
def uF(c:Bool)(l:lIi):Int×Int:=match l with
 | []=>(0,0)
 | r :: s=>(((gA c r.1).length:Int),((gA c ((r :: s).getLast (by simp)).2).length:Int))
theorem yU{R:Ending->World->Prop}{a:Act}{W:World}{b:Nat}{x:Int×Int}(h:W.heap[b]?=some (.cells #[.I x.1,.I x.2] 65 (0,0)))(ha:a.tmps[4]?.getD undef=.pointer (some (aDr b 0)))(hd:a.defers=[])(hR:R (.returned (enW x)) W):bodyPost Tryz.prog Tryz.f52 R .ret a W:=by
 refine bodyPost_ret (v:=enW x) ?_ hd hR;have z0:=aA h (i:=0) rfl;have z1:=aA h (i:=1) rfl;simp [results,Tryz.results52,go_sem,ha,enW,z0,z1]
theorem yO{w:World}{q:Option Addr}{k:Nat}{L:lIi}(c o:Bool)(h:ArgR w (.slice q L.length k) L)(hc:∀ r∈L,bP c r.1/\bP c r.2) :
  Calls Tryz.prog 52 #[.slice q L.length k,.agg #[.bool c,.bool o]] w fun e w'=>e=.returned (enW (uF c L))/\wBl w w':=by
 have B1:Hid (wBl w ((w.alloc (.cells #[.bool c,.bool o] 27)).alloc (.cells #[.I 0,.I 0] 65))):=(bz9).alloc (by simp) _;have R1:Hid (((w.alloc (.cells #[.bool c,.bool o] 27)).alloc (.cells #[.I 0,.I 0] 65)).heap[w.heap.size+1]?=some (.cells #[.I 0,.I 0] 65 (0,0))):=aK _ (by simp only [f4]);obtain⟨q',k',e,h1,h2,h3⟩:=h.slice;injection e with e1 _ e3;subst e1 e3;have H3:=aC h3;have h9:L.length<=9223372036854775807:=h1;have HC:=aC hc;clear h3 h h1 hc
 match L,h9,h2,H3,HC with
 | [],h9,h2,H3,HC=>
  simp only [List.length_nil];have z0:=aA R1.o (i:=0) rfl;have z1:=aA R1.o (i:=1) rfl;have fz:=fun z=>aG R1.o z;go_enter Tryz.func52,Tryz.ntmps52;go_wp2;refine yU (b:=w.heap.size+1) (x:=(0,0)) R1.o rfl rfl ?_;exact⟨rfl,B1.o⟩
 | r :: s,h9,h2,H3,HC=>
  obtain⟨z,hz⟩:∃ z,(r :: s).getLast (by simp)=z:=⟨_,rfl⟩;have HZ:=aC (show uF c (r :: s)=(((gA c r.1).length:Int),((gA c z.2).length:Int)) by rw [<- hz];rfl);have hzz:(r :: s)[(r :: s).length-1]?=some z:=by rw [<- hz,<- List.getLast?_eq_getElem?,List.getLast?_eq_some_getLast (by simp)]
  obtain⟨n,hn⟩:∃ n,s.length=n:=⟨_,rfl⟩;have hln:(r :: s).length=n+1:=by simp [hn]
  rw [hln] at hzz h9 h2 ⊢;obtain⟨g,off,rfl,hg,c1,-⟩:=H3.o 0 r rfl;obtain⟨g',off',e,-,-,c2⟩:=H3.o n z (by simpa using hzz);injection e with e;injection e with e1 e2;subst e1 e2;have W1:=aC (iX (x:=r.1) c o);have HR:=aC (HC.o r (r9 ..)).1;have HY:=aC (HC.o z (n7 hzz)).2;obtain⟨T1,hT1⟩:∃ T,gA c r.1=T:=⟨_,rfl⟩;obtain⟨T2,hT2⟩:∃ T,gA c z.2=T:=⟨_,rfl⟩;obtain⟨x1,hx1⟩:∃ x,r.1=x:=⟨_,rfl⟩;obtain⟨x2,hx2⟩:∃ x,z.2=x:=⟨_,rfl⟩;have C1:Hid (∀ w,Calls Tryz.prog 66 #[.I x1,.agg #[.bool c,.bool o]] w fun e w'=>e=.returned (.string (txt T1))/\wBl w w'):=fun w=>by rw [<- hT1,<- hx1];exact iX c o w HR.o
  have C2:Hid (∀ w,Calls Tryz.prog 66 #[.I x2,.agg #[.bool c,.bool o]] w fun e w'=>e=.returned (.string (txt T2))/\wBl w w'):=fun w=>by rw [<- hT2,<- hx2];exact iX c o w HY.o
  rw [hT1,hT2] at HZ;rw [hx1] at c1;rw [hx2] at c2;have d1:((w.alloc (.cells #[.bool c,.bool o] 27)).alloc (.cells #[.I 0,.I 0] 65)).cell? (aDr g off)=some (.I x1):=(B1.o.cell (p:=(aDr g off)) hg).trans (by simpa using c1);have d2:((w.alloc (.cells #[.bool c,.bool o] 27)).alloc (.cells #[.I 0,.I 0] 65)).cell? ⟨g,off+n*2+1,none⟩=some (.I x2):=(B1.o.cell (p:=⟨g,off+n*2+1,none⟩) hg).trans (by rw [aAU] at c2;exact c2);have hg2:g<((w.alloc (.cells #[.bool c,.bool o] 27)).alloc (.cells #[.I 0,.I 0] 65)).heap.size:=n9 hg B1.o.size;have m0:((w.alloc (.cells #[.bool c,.bool o] 27)).alloc (.cells #[.I 0,.I 0] 65)).cell? (aDr w.heap.size 0)=some (.bool c):=by simp
  have m1:((w.alloc (.cells #[.bool c,.bool o] 27)).alloc (.cells #[.I 0,.I 0] 65)).cell? (aDr w.heap.size 1)=some (.bool o):=by simp
  have l0:w.heap.size<((w.alloc (.cells #[.bool c,.bool o] 27)).alloc (.cells #[.I 0,.I 0] 65)).heap.size:=by simp only [f4];omega
  have l1:w.heap.size+1<((w.alloc (.cells #[.bool c,.bool o] 27)).alloc (.cells #[.I 0,.I 0] 65)).heap.size:=by simp
  clear c1 c2 hg hz hzz hn hln W1 HR HY HC H3 hT1 hT2 hx1 hx2;have i1:IntKind.wrap .i64 ((n:Int)+1-1)=(n:Int):=by rw [IntKind.wrap_i64];omega
  have q0:((n:Int)+1==0)=false:=by simp;omega
  generalize hWg:(w.alloc (.cells #[.bool c,.bool o] 27)).alloc (.cells #[.I 0,.I 0] 65)=Wg at B1 R1 d1 d2 hg2 m0 m1 l0 l1;have HWg:=aC hWg;clear hWg;go_enter Tryz.func52,Tryz.ntmps52;go_wp2;rw [HWg.o];refine aU (aAY _ _) (by kernel_rfl) (by kernel_rfl) (by kernel_rfl) ?_;dsimp only [List.dropLast,List.getLast]
  repeat (go_big_quiet_step (first | exact rfl |(go_at_call 66;(with_reducible exact bQ (C1.o _))) |(go_at_call 66;(with_reducible exact bQ (C2.o _)))))
  refine wpQuiet_nil ?_;intro w3 hw;have B3:=aC (aP hw);clear hw d1 d2 m0 m1;have R3:Hid (w3.heap[w.heap.size+1]?=some (.cells #[.I 0,.I 0] 65 (0,0))):=(B3.o.block _ l1).trans R1.o;have z0:=aA R3.o (i:=0) rfl;have z1:=aA R3.o (i:=1) rfl;have fz:=fun z=>aG R3.o z;go_wp2;refine yU (b:=w.heap.size+1) (x:=((T1.length:Int),(T2.length:Int))) (by have:=bA R3.o [.I (T1.length:Int),.I (T2.length:Int)] rfl;simpa [bF,jI] using this) rfl rfl ?_;have F3:=aY (w.heap.size+1) [.I (T1.length:Int),.I (T2.length:Int)] 0 w3;exact⟨by rw [HZ.o],bB (aJ B1.o B3.o lz9) (by simpa [bF,jI] using F3) lz9 (fun k e=>by omega)⟩
end
end Go.Proofs.YtdgfpiekjigfnaaGreatDoor
