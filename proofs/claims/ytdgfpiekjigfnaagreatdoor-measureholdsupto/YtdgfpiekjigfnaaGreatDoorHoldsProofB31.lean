/-
  Parts of the proof.
-/
import Derived.Test.YtdgfpiekjigfnaaGreatDoorHoldsProofA0
import Derived.Test.YtdgfpiekjigfnaaGreatDoorHoldsProofB30
import Derived.Test.YtdgfpiekjigfnaaGreatDoorHoldsProofB28
set_option maxRecDepth 100000
set_option maxHeartbeats 8000000
namespace Go.Proofs.YtdgfpiekjigfnaaGreatDoor
open Go Go.RowKit
section
attribute [local go_sem] Oper.semAt_some aS
variable {H:Gh} {rs:lOn} {wk:Int} {mu:Bool}
def kU(H:Gh)(W:World)(rs:lOn)(wk:Int)(mu:Bool)(t:Tr)(a:Nat)(e:Ending)(W':World):Prop:=∃ (q:Option Addr) (c:Nat) (l:List Nat) (rs':lOn),
 e=.returned (.slice q l.length c)/\Ls12 H.base W' q c l/\gV H.L t a l/\WM H W' rs' wk mu/\Grw W.heap.size rs rs'/\Fr (fun k=>wf H rs k\/False) W W'
def PlC(H:Gh)(n:Nat):Prop:=∀ (i a:Nat) (z:Zl) (W:World) (rs:lOn) (wk:Int) (mu:Bool),H.Z[i]?=some z->z.1.2.sz<=n->PlT H.L z.1.2->a<=H.L.s.size->WM H W rs wk mu ->
 Calls Tryz.prog 70 #[.pointer (some ⟨H.b,0,none⟩),.I (i:Int),.I (a:Int)] W (kU H W rs wk mu z.1.2 a)
def BR(base:Nat)(V:World)(g c:Nat)(is:List Bool):Prop:=V.ownsRow base 4 1 (.slice (some ⟨g,0,none⟩) is.length c) is.length (is.map Value.bool)
theorem xA(is:List Bool)(j:Nat)(b:Bool):(is.map Value.bool).set j (.bool b)=(is.set j b).map Value.bool:=by rw [List.map_set]
theorem BR.put{base g c:Nat}{V:World}{is:List Bool}(h:BR base V g c is)(j:Nat)(b:Bool):BR base (V.setCell ⟨g,j,none⟩ (.bool b)) g c (is.set j b):=by
 have:=(World.ownsRow.stored h j (.bool b)).1;unfold BR;rw [aAV,<- xA];exact this
theorem BR.cell{base g c:Nat}{V:World}{is:List Bool}(h:BR base V g c is){j:Nat}{b:Bool}(hj:is[j]?=some b):V.cell? ⟨g,j,none⟩=some (.bool b):=aM h (by simp [hj])
theorem BR.frz{base g c:Nat}{V:World}{is:List Bool}(h:BR base V g c is)(j:Nat):V.frozen? ⟨g,j,none⟩=false:=World.ownsRow.frozenAt h j
theorem BR.lt{base g c:Nat}{V:World}{is:List Bool}(h:BR base V g c is):g < V.heap.size:=(aF h rfl).2.1
theorem BR.lo{base g c:Nat}{V:World}{is:List Bool}(h:BR base V g c is):base<=g:=(aF h rfl).1
theorem BR.ty{base g c:Nat}{V:World}{is:List Bool}(h:BR base V g c is):∃ cs,V.heap[g]?=some (.cells cs 4 (0,0)):=(aF h rfl).2.2
theorem BR.kept{base g c:Nat}{V V':World}{is:List Bool}(h:BR base V g c is)(hb:wBl V V'):BR base V' g c is:=aH (S:=fun _=>False) h (Fr.of_below hb) (fun _ _ q=>q)
theorem BR.wf{base g c:Nat}{V V':World}{is:List Bool}{S:Nat->Prop}(h:BR base V g c is)(hw:WM H V rs wk mu)(hf:Fr (fun k=>wf H rs k\/S k) V V')(hS:¬ S g):BR base V' g c is:=
 iM h hw hf (fun k hk=>by cases hk;exact hS) ⟨by decide,by decide,by decide⟩
theorem uQ:¬ wZ 4:=by unfold wZ;decide
theorem WM.mark{base g c:Nat}{V V':World}{is:List Bool}(hw:WM H V rs wk mu)(h:BR base V g c is)(hf:Fr (fun k=>k=g) V V')(hb:H.base<=g)(hp:g≠H.pb):WM H V' rs wk mu:=
 hw.fr hf fun k _ e=>by
  subst e;obtain⟨cs,hc⟩:=h.ty;exact⟨hb,hp,cs,_,hc,uQ⟩
theorem pL{is:List Bool}{j k:Nat}(hk:k < is.length):((is.set k true)[j]?=some true ↔ is[j]?=some true\/j=k):=by
 rw [aBO];by_cases e:k=j
 ·subst e;rw [if_pos rfl,if_pos hk];simp
 ·rw [if_neg e];constructor
  ·exact .inl
  ·rintro (q | q)
   ·exact q
   ·exact absurd q.symm e
def MkP(H:Gh)(W:World)(rs:lOn)(wk:Int)(mu:Bool)(base g c:Nat)(is:List Bool)(P:Nat->Prop)(e:Ending)(W':World):Prop:=e=.returned (.tuple #[])/\∃ (rs':lOn) (is':List Bool),
 WM H W' rs' wk mu/\Grw W.heap.size rs rs'/\Fr (fun k=>wf H rs k\/k=g) W W'/\BR base W' g c is'/\is'.length=is.length/\∀ j,is'[j]?=some true ↔ is[j]?=some true\/P j
structure MkI(base g c:Nat)(W1:World)(is:List Bool)(P:Nat->Prop)(l:List Nat)(is':List Bool)(V:World):Prop where
 r:BR base V g c is'
 n:is'.length=is.length
 m:∀ j,is'[j]?=some true ↔ is[j]?=some true\/(j∈l/\P j)
 f:Fr (fun k=>k=g) W1 V
theorem MkI.snoc{base g c:Nat}{W1 V:World}{is is':List Bool}{P:Nat->Prop}{l:List Nat}{x:Nat}(h:MkI base g c W1 is P l is' V)(hx:x < is.length)(hP:P x):MkI base g c W1 is P (l ++ [x]) (is'.set x true) (V.setCell ⟨g,x,none⟩ (.bool true)):=by
 refine⟨h.r.put x true,by rw [aAV];exact h.n,fun j=>?_,h.f.setCell (p:=⟨g,x,none⟩) rfl _⟩;rw [pL (by rw [h.n];exact hx),h.m,o3,t8];constructor
 ·rintro ((q | ⟨q,r⟩) | rfl)
  ·exact .inl q
  ·exact .inr ⟨.inl q,r⟩
  ·exact .inr ⟨.inr rfl,hP⟩
 ·rintro (q | ⟨q | q,r⟩)
  ·exact .inl (.inl q)
  ·exact .inl (.inr ⟨q,r⟩)
  ·exact .inr q
theorem MkI.skip{base g c:Nat}{W1 V:World}{is is':List Bool}{P:Nat->Prop}{l:List Nat}{x:Nat}(h:MkI base g c W1 is P l is' V)(hP:¬ P x):MkI base g c W1 is P (l ++ [x]) is' V:=by
 refine⟨h.r,h.n,fun j=>?_,h.f⟩;rw [h.m,o3,t8];constructor
 ·rintro (q | ⟨q,r⟩)
  ·exact .inl q
  ·exact .inr ⟨.inl q,r⟩
 ·rintro (q | ⟨q | rfl,r⟩)
  ·exact .inl q
  ·exact .inr ⟨q,r⟩
  ·exact absurd r hP
theorem Ls12.cell{base:Nat}{V:World}{g c:Nat}{l:List Nat}(h:Ls12 base V (some ⟨g,0,none⟩) c l){j x:Nat}(hj:l[j]?=some x):V.cell? ⟨g,j,none⟩=some (.I (x:Int)):=aM h (by simp [hj])
theorem Ls12.at{base:Nat}{V:World}{q:Option Addr}{c:Nat}{l:List Nat}(h:Ls12 base V q c l)(hl:0 < l.length):∃ g,q=some ⟨g,0,none⟩/\g < V.heap.size/\base<=g/\∃ cs,V.heap[g]?=some (.cells cs 3 (0,0)):=by
 obtain⟨g,c',e⟩:=aL h hl;injection e with e1 _ _;subst e1;obtain⟨a,b,d⟩:=aF h rfl;exact⟨g,rfl,b,a,d⟩
def fuP(fu:Bool)(a j:Nat):Prop:=fu=true->a < j
theorem lH{n:Nat}(hp:PlC H n)(hk:Gk H){w:World}(hw:WM H w rs wk mu){i a:Nat}{z:Zl}(hz:H.Z[i]?=some z)(hn:z.1.2.sz<=n)(hpl:PlT H.L z.1.2)(ha:a<=H.L.s.size)
  {base g c:Nat} {is:List Bool} (hb:BR base w g c is) (hl:is.length=H.L.s.size+1) (hg:H.base<=g) (hgp:g≠H.pb) (fu:Bool) :
  Calls Tryz.prog 123 #[.pointer (some ⟨H.b,0,none⟩),.slice (some ⟨g,0,none⟩) is.length c,.I (i:Int),.I (a:Int),.bool fu] w
   (MkP H w rs wk mu base g c is (fun j=>Ps H.L z.1.2 a j/\fuP fu a j)):=by
 have HP:=aC (hp i a z w rs wk mu hz hn hpl ha hw);have HW:=aC hw;have HB:=aC hb;have hsm:=hk.sm;have HPS:Hid (∀ j,Ps H.L z.1.2 a j->j<=H.L.s.size):=fun j h=>(bP4 hpl ha h).2;have HLN:=aC hl;have hlm:is.length<=1001:=by omega
 clear hp hw hz hn hb hk hl;go_enter Tryz.func123,Tryz.ntmps123;go_upto_region 2 with (go_at_call 70;(with_reducible refine(HP.o).mono ?_);rintro e w1 ⟨q,cl,l,rs1,rfl,h1,h2,h3,h4,h5⟩;have L1:=aC h1;have E1:=aC h2;have W1:=aC h3;have G1:=aC h4;have F1:=aC h5;clear h1 h2 h3 h4 h5)
 have B1:=aC (HB.o.wf HW.o F1.o (fun h=>h));have hll:l.length<=1000+1:=by
  have h1:=E1.o.2;have h2:∀ j∈l,j<=H.L.s.size:=fun j hj=>HPS.o j ((E1.o.1 j).1 hj);have key:∀ (l:List Nat) (m b:Nat),l.Pairwise (· < ·)->(∀ j∈l,b<=j/\j < b+m)->l.length<=m:=by
   intro l
   induction l with
   | nil=>intro m b _ _;simp
   | cons x l ih=>
    intro m b hpw hm;obtain⟨m',rfl⟩:∃ m',m=m'+1:=⟨m - 1,by have:=hm x (by simp);omega⟩;have:=ih m' (b+1) (aAP.1 hpw).2 (fun j hj=>by
     have h3:=(aAP.1 hpw).1 j hj;have h4:=hm x (by simp);have h5:=hm j (by simp [hj]);omega)
    simp;omega
  have:=key l (H.L.s.size+1) 0 h1 (fun j hj=>by have:=h2 j hj;omega);omega
 have M1:Hid (MkI base g c w1 is (fuP fu a) (l.take 0) is w1):=⟨B1.o,rfl,fun j=>by simp,Fr.refl _ _⟩;go_loopw [11] (fun i wr=>∃ (k:Nat) (is':List Bool),k<=l.length/\i=.I (k:Int)/\MkI base g c w1 is (fuP fu a) (l.take k) is' wr) (fun i _=>l.length - (intOf i).toNat)
 case atStart=>exact⟨0,is,o9 _,rfl,M1.o⟩
 case round=>
  obtain⟨k,is',hkl,rfl,hm⟩:=hrel;have HM:=aC hm;clear hm;by_cases hlt:k < l.length
  ·have i0:(k:Int) < (l.length:Int):=by omega
   have hw2:IntKind.wrap .i64 ((k:Int)+1)=(k:Int)+1:=wrap_small _ (by omega) (by omega);obtain⟨x,hx⟩:∃ x,l[k]?=some x:=⟨_,i9 hlt⟩;have hxs:x<=H.L.s.size:=HPS.o x ((E1.o.1 x).1 (n7 hx));obtain⟨gl,rfl,gl1,gl2,gl3,gl4⟩:=L1.o.at (by omega);have hne:gl≠g:=by
    obtain⟨cs,hc⟩:=B1.o.ty;exact bH gl4 hc (by decide)
   have y0:wr.cell? ⟨gl,k,none⟩=some (.I (x:Int)):=by
    have e:=HM.o.f.block gl gl1 hne;have h1:=L1.o.cell hx;unfold World.cell? at h1 ⊢;rw [e];exact h1
   have HT:Hid (l.take (k+1)=l.take k ++ [x]):=aC (by rw [t7,hx];rfl);have hxl:(x:Int) < (is.length:Int):=(by have:=HLN.o;omega);have hfz:=HM.o.r.frz x;have hc:∃ b,wr.cell? ⟨g,x,none⟩=some (.bool b):=⟨_,HM.o.r.cell (i9 (by rw [HM.o.n];have:=HLN.o;omega))⟩;obtain⟨b0,hb0⟩:=hc;clear hx
   cases fu with
   | false=>
    have HN:=aC (HM.o.snoc (x:=x) (by have:=HLN.o;omega) (fun h=>by cases h));go_wp2;go_roundw
    case rel=>exact⟨k+1,_,by omega,by go_num,by rw [HT.o];exact HN.o⟩
    case measure=>simp only [intOf];omega
   | true=>
    by_cases hax:a < x
    ·have q0:(a:Int) < (x:Int):=by omega
     have HN:=aC (HM.o.snoc (x:=x) (by have:=HLN.o;omega) (fun _=>hax));clear hax;go_wp2;go_roundw
     case rel=>exact⟨k+1,_,by omega,by go_num,by rw [HT.o];exact HN.o⟩
     case measure=>simp only [intOf];omega
    ·have q0:¬ (a:Int) < (x:Int):=by omega
     have HN:=aC (HM.o.skip (x:=x) (fun h=>hax (h rfl)));clear hax;go_wp2;go_roundw
     case rel=>exact⟨k+1,_,by omega,by go_num,by rw [HT.o];exact HN.o⟩
     case measure=>simp only [intOf];omega
  ·have i0:¬ (k:Int) < (l.length:Int):=by omega
   have HT:Hid (l.take k=l):=aC (n8 (by omega));go_wp2
   go_end0
   refine⟨rfl,rs1,is',W1.o.mark B1.o HM.o.f hg hgp,G1.o,?_,HM.o.r,HM.o.n,fun j=>?_⟩
   ·refine⟨HM.o.f.os.trans F1.o.os,HM.o.f.tape.trans F1.o.tape,HM.o.f.output.trans F1.o.output,m8 F1.o.size HM.o.f.size,fun i hi hs=>(HM.o.f.block i (n9 hi F1.o.size) (fun e=>hs (.inr e))).trans (F1.o.block i hi (fun q=>hs (.inl (q.resolve_right fun f=>f))))⟩
   ·have:=HM.o.m j;rw [HT.o] at this;rw [this,E1.o.1]
end
section
variable {H:Gh} {rs rs' rs'':lOn} {wk:Int} {mu:Bool} {L:Ln}
theorem bA0:∀ (ks:List Tr),(∀ u∈ks,PlT L u)->Pn (fun x y=>MtC L ks x y)
 | [],_,x,y,h=>by
  have h:y=x:=(dS x y).1 h;subst h;exact⟨rfl,fun g=>(dS _ _).2 rfl⟩
 | u :: us,hu,x,y,h=>by
  obtain⟨z,h1,h2⟩:=(dY _ _ _ _).1 h;obtain⟨a,b⟩:=aK7 u (hu u (r9 ..)) x z h1;obtain⟨c,d⟩:=bA0 us (fun v hv=>hu v (r8 _ hv)) z y h2;exact⟨c.trans a,fun g=>(dY _ _ _ _).2 ⟨⟨z.p,g⟩,b g,d g⟩⟩
theorem aY9{ks:List Tr}{j:Nat}{u:Tr}(hpl:∀ v∈ks,PlT L v)(hu:ks[j]?=some u)(a x:Nat):MtC L (ks.take (j+1)) ⟨a,[]⟩ ⟨x,[]⟩ ↔ ∃ y,MtC L (ks.take j) ⟨a,[]⟩ ⟨y,[]⟩/\Ps L u y x:=by
 rw [t7,hu,aAX,zG];constructor
 ·rintro ⟨z,h1,h2⟩;have:=(bA0 (ks.take j) (fun v hv=>hpl v (aAJ hv)) _ _ h1).1;obtain⟨zp,zg⟩:=z;simp only at this;subst this;exact⟨zp,h1,h2⟩
 ·rintro ⟨y,h1,h2⟩;exact⟨⟨y,[]⟩,h1,h2⟩
theorem yV{ks:List Tr}{j:Nat}{u:Tr}(hu:ks[j]?=some u)(a x:Nat):MtA L (ks.take (j+1)) ⟨a,[]⟩ ⟨x,[]⟩ ↔ MtA L (ks.take j) ⟨a,[]⟩ ⟨x,[]⟩\/Ps L u a x:=by
 rw [t7,hu,aAX,zH]
 rfl
theorem bT6{t:Tr}(hk:t.f.k=5)(a x:Nat):Ps L t a x ↔ MtC L t.ks ⟨a,[]⟩ ⟨x,[]⟩:=by unfold Ps;rw [fP,if_pos hk]
theorem bT7{t:Tr}(hk:t.f.k=6)(a x:Nat):Ps L t a x ↔ MtA L t.ks ⟨a,[]⟩ ⟨x,[]⟩:=by unfold Ps;rw [fP,if_neg (by omega),if_pos hk]
theorem bT5{t:Tr}(hp:PlT L t)(hk:t.f.k=7)(a x:Nat):Ps L t a x ↔ MtA L t.ks ⟨a,[]⟩ ⟨x,[]⟩:=by
 have hn:=((aQ t).1 hp).1.2 hk;have e:∀ x z,iP L t.f.n x z=z:=fun x z=>by unfold iP;rw [hn];rfl
 unfold Ps;rw [fP,if_neg (by omega),if_neg (by omega),if_pos hk];constructor
 ·rintro ⟨z,h1,h2⟩;rw [e] at h2;rw [h2];exact h1
 ·intro h;exact⟨_,h,(e _ _).symm⟩
theorem bK7{t:Tr}(hk:t.f.k=1\/t.f.k=2\/t.f.k=3\/t.f.k=4)(a x:Nat):Ps L t a x ↔ dP L t.f a=some x:=by
 unfold Ps;rw [fP,if_neg (by omega),if_neg (by omega),if_neg (by omega),if_neg (by omega),if_neg (by omega)];simp
theorem bT4{t v:Tr}(hk:t.f.k=9)(hv:t.ks=[v])(a x:Nat):Ps L t a x ↔ Rp (fun x y=>Mt L v x y) t.f.mn t.f.mx ⟨a,[]⟩ ⟨x,[]⟩:=by
 have e:(fun x y=>MtA L t.ks x y)=fun x y=>Mt L v x y:=by
  funext x y
  rw [hv];refine propext ((dM _ _ _).trans ?_);simp
 unfold Ps;rw [fP,if_neg (by omega),if_neg (by omega),if_neg (by omega),if_neg (by omega),if_pos hk,e]
structure PS(H:Gh)(w:World)(rs:lOn)(wk:Int)(mu:Bool)(V:World)(rs':lOn):Prop where
 wm:WM H V rs' wk mu
 g:Grw w.heap.size rs rs'
 f:Fr (fun k=>wf H rs k\/False) w V
theorem PS.refl{w:World}(h:WM H w rs wk mu):PS H w rs wk mu w rs:=⟨h,Grw.refl _ _,Fr.refl _ _⟩
theorem PS.below{w V V':World}(h:PS H w rs wk mu V rs')(hb:wBl V V'):PS H w rs wk mu V' rs':=⟨h.wm.below hb,h.g,h.f.then hb⟩
theorem PS.mark{w V V':World}{base g c:Nat}{is:List Bool}{P:Nat->Prop}{e:Ending}(h:PS H w rs wk mu V rs')(hm:MkP H V rs' wk mu base g c is P e V')(hg:w.heap.size<=g):e=.returned (.tuple #[])/\∃ rs'' is',PS H w rs wk mu V' rs''/\Fr (fun k=>wf H rs' k\/k=g) V V'/\BR base V' g c is'/\is'.length=is.length/\∀ j,is'[j]?=some true ↔ is[j]?=some true\/P j:=by
 obtain⟨h1,rs'',is',h2,h3,h4,h5,h6,h7⟩:=hm;exact⟨h1,rs'',is',⟨h2,h.g.trans h3 h.f.size,pA h.f h.g h4 fun i e=>by subst e;exact .inr hg⟩,h4,h5,h6,h7⟩
theorem PS.put{w V V':World}{base g c:Nat}{is:List Bool}(h:PS H w rs wk mu V rs')(hb:BR base V g c is)(hf:Fr (fun k=>k=g) V V')(hg:w.heap.size<=g)(hbs:H.base<=w.heap.size)(hp:H.pb < w.heap.size):PS H w rs wk mu V' rs':=
 ⟨h.wm.mark hb hf (by omega) (by omega),h.g,⟨hf.os.trans h.f.os,hf.tape.trans h.f.tape,hf.output.trans h.f.output,m8 h.f.size hf.size,fun i hi hs=>(hf.block i (n9 hi h.f.size) (by omega)).trans (h.f.block i hi hs)⟩⟩
theorem iK{V V':World}{S:Nat->Prop}(hw:WM H V rs wk mu)(hf:Fr (fun k=>wf H rs k\/S k) V V'){k:Nat}{cs:Array Value}{ty:TypeId}(hk:V.heap[k]?=some (.cells cs ty (0,0)))(he:ty≠52/\ty≠169/\ty≠171)(hS:¬ S k):V'.heap[k]?=some (.cells cs ty (0,0)):=
 (hf.block k (aB hk) (fun q=>by
  rcases q with q | q
  ·obtain⟨-,cs',ty',h1,h2⟩:=hw.wf_ty q;rw [hk] at h1;injection h1 with h1;injection h1 with _ h1 _;subst h1;rcases h2 with r | r | r
   ·exact he.1 r
   ·exact he.2.1 r
   ·exact he.2.2 r
  ·exact hS q)).trans hk
theorem Ls12.wf{base:Nat}{V V':World}{q:Option Addr}{c:Nat}{l:List Nat}{S:Nat->Prop}(h:Ls12 base V q c l)(hw:WM H V rs wk mu)(hf:Fr (fun k=>wf H rs k\/S k) V V')(hS:∀ k,S k->∃ cs ty,V.heap[k]?=some (.cells cs ty (0,0))/\ty≠3):Ls12 base V' q c l:=
 iM h hw hf (fun k hk hs=>by
  obtain⟨-,-,cur,h3⟩:=aF h hk;obtain⟨cs,ty,h4,h5⟩:=hS k hs;rw [h3] at h4;injection h4 with h4;injection h4 with _ h4 _;exact h5 h4.symm) ⟨by decide,by decide,by decide⟩
theorem Ls12.kept{base:Nat}{V V':World}{q:Option Addr}{c:Nat}{l:List Nat}(h:Ls12 base V q c l)(hb:wBl V V'):Ls12 base V' q c l:=aH (S:=fun _=>False) h (Fr.of_below hb) (fun _ _ q=>q)
theorem Ls12.mono{base base':Nat}{V:World}{q:Option Addr}{c:Nat}{l:List Nat}(h:Ls12 base V q c l)(hb:base'<=base):Ls12 base' V q c l:=bE h hb
theorem aP2:(Tryz.prog.info? 4).map (fun i=>(i.zero,i.size,i.bytes))=some (some (.bool false),1,1):=by kernel_rfl
theorem aO6:Tryz.prog.underlying 49=some (.slice 4):=by kernel_rfl
def cZ(n:Nat):List Bool:=List.replicate n false
def noC(n:Nat):Array Value:=((cZ n).map Value.bool).toArray
theorem dO(n:Nat):(cZ n).length=n:=by simp [cZ]
theorem eZ(n:Nat)(h:n<=1000000)(w:World) :
  (Instr.makeSlice 49 (.I (n:Int)) (.I (n:Int))).run Tryz.prog w=.ok (.slice (some ⟨w.heap.size,0,none⟩) n n) (w.alloc (.cells (noC n) 4)):=by
 obtain⟨i0,hi,hz0,hz1,hz2⟩:=aV aP2;have:=run_make (P:=Tryz.prog) w 49 4 i0 (.bool false) aO6 hi hz0 .i64 .i64 (n:Int) (n:Int) (by omega) (by omega) (by rw [hz2];omega) (by omega);rw [hz1] at this;have e:madeCells #[.bool false] n=noC n:=by
  unfold noC cZ;apply Array.ext
  ·simp [madeCells]
  intro i h1 h2;simp [madeCells,Nat.mod_one]
 rw [<- e];simpa [Value.cells] using this
theorem kR{base n:Nat}{V:World}(hb:base<=V.heap.size)(hn:n<=1000000):BR base (V.alloc (.cells (noC n) 4)) V.heap.size n (cZ n):=by
 unfold BR noC cZ;refine⟨by simp,.inr ⟨V.heap.size,n,_,by simp,hb,aE V _,by simp,by unfold maxLen;omega,by simp,by simp⟩⟩
theorem eS{n j:Nat}:(cZ n)[j]?≠some true:=fun h=>by
 have:=n7 h;simp [cZ] at this
theorem nK{is:List Bool}{j:Nat}(h:is[j]?=some true):j < is.length:=(m7.1 h).1
theorem mN{t:Tr}{a:Nat}{is:List Bool}(h:∀ j,is[j]?=some true ↔ Ps L t a j):gV L t a (fH is is.length):=⟨fun j=>jO.trans (h j),aK2 _ _⟩
theorem qB{w V V':World}{t:Tr}{a:Nat}{q:Option Addr}{c:Nat}{l:List Nat}(h:PS H w rs wk mu V rs')(hl:Ls12 V.heap.size V' q c l)(hb:wBl V V')(hE:gV H.L t a l)(hbs:H.base<=w.heap.size):kU H w rs wk mu t a (.returned (.slice q l.length c)) V':=
 ⟨q,c,l,rs',rfl,hl.mono (m8 hbs h.f.size),hE,(h.below hb).wm,h.g,(h.below hb).f⟩
end
section
attribute [local go_sem] Oper.semAt_some aS
variable {H:Gh} {rs rs' rs'':lOn} {wk:Int} {mu:Bool}
structure AI12(H:Gh)(w:World)(rs:lOn)(wk:Int)(mu:Bool)(kq:Option Addr)(kc i:Nat)(ks:List Tr)(g N:Nat)(P:Nat->Prop)(rs':lOn)(is:List Bool)(V:World):Prop where
 ps:PS H w rs wk mu V rs'
 kl:Ls12 w.heap.size V kq kc (hQ i ks)
 br:BR w.heap.size V g N is
 ln:is.length=N
 m:∀ j,is[j]?=some true ↔ P j
theorem oO{base g c:Nat}{V:World}{is:List Bool}(h:BR base V g c is):∀ k,k=g->∃ cs ty,V.heap[k]?=some (.cells cs ty (0,0))/\ty≠3:=fun k e=>by
 subst e;obtain⟨cs,hc⟩:=h.ty;exact⟨cs,_,hc,by decide⟩
theorem oH{L:Ln}{t:Tr}(h:PlT L t):∀ v∈t.ks,PlT L v:=fun _ hv=>bC h hv
theorem aF3{n:Nat}(hp:PlC H n)(hk:Gk H){w:World}(hw:WM H w rs wk mu){i a:Nat}{z:Zl}(hz:H.Z[i]?=some z)(hn:z.1.2.sz<=n+1)(hpl:PlT H.L z.1.2)(ha:a<=H.L.s.size)(hkd:z.1.2.f.k=6) :
  Calls Tryz.prog 97 #[.pointer (some ⟨H.b,0,none⟩),.I (i:Int),.I (a:Int)] w (kU H w rs wk mu z.1.2 a):=by
 have HKD:=aC hkd;clear hkd;have HK:=aC hk;have HZ:=aC hz;have HSZ:=aC hn;have hil:=(m7.1 hz).1;have iil:(i:Int) < (H.Z.length:Int):=by omega
 have hlen:=hk.len;have hsm:=hk.sm;have HBS:Hid (H.base<=w.heap.size):=aC (m8 hw.bb (aBD hw.b_lt));have HPB:=aC hw.pb_lt;have HPL:=aC hpl;have HP:=aC hp;have HNP:=aC (((aQ z.1.2).1 (hk.npz hz)).1);have c0:=hw.cell (i:=0) rfl;have c1:=hw.cell (i:=1) rfl;have y0:=hw.z.cells hz (j:=0) (v:=.I z.1.2.f.k) rfl;have y1:=hw.z.cells hz (j:=1) (v:=.I z.1.2.f.n) rfl;have y2:=hw.z.cells hz (j:=2) (v:=.I z.1.2.f.mn) rfl;have y3:=hw.z.cells hz (j:=3) (v:=.I z.1.2.f.mx) rfl;have y4:=hw.z.cells hz (j:=4) (v:=.slice z.1.2.f.rq z.1.2.f.rs.length z.1.2.f.rc) rfl;have y5:=hw.z.cells hz (j:=5) (v:=.slice z.1.2.f.kq z.1.2.f.kl z.1.2.f.kc) rfl;rw [aAQ] at y0;obtain⟨N,hN⟩:∃ N,H.L.s.size+1=N:=⟨_,rfl⟩;have hwN:IntKind.wrap .i64 ((H.L.s.size:Int)+1)=(N:Int):=by rw [wrap_small _ (by omega) (by omega)];omega
 have MB:=eZ N (by omega);have HN:=aC hN;have hN1:N<=1001:=by omega
 have haN:(a:Int) < (N:Int):=by omega
 clear hN;have B0:Hid (wBl w (w.alloc (.cells (nDf z.1.2.f) 25))):=bz9;have N0:Hid (BoxN (w.alloc (.cells (nDf z.1.2.f) 25)) w.heap.size z.1.2.f):=aE w _;have P0:Hid (PS H w rs wk mu (w.alloc (.cells (nDf z.1.2.f) 25)) rs):=(PS.refl hw).below B0.o;clear hw hk hz hn hpl hp;go_enter Tryz.func97,Tryz.ntmps97;go_upto_region 2 with fail
 generalize (w.alloc (.cells (nDf z.1.2.f) 25))=w1 at B0 N0 P0 ⊢;have d1:=P0.o.wm.cell (i:=1) rfl;clear c0 c1 y0 y1 y2 y3 y4 y5;go_upto_region 3 with fail
 have B2:Hid (wBl w1 (w1.alloc (.cells (noC N) 4))):=bz9;have R2:Hid (BR w.heap.size (w1.alloc (.cells (noC N) 4)) w1.heap.size N (cZ N)):=kR B0.o.size (by omega);have P2:=aC (P0.o.below B2.o);have N2:Hid (BoxN (w1.alloc (.cells (noC N) 4)) w.heap.size z.1.2.f):=(B2.o.block _ (aB N0.o)).trans N0.o;generalize (w1.alloc (.cells (noC N) 4))=w2 at R2 P2 N2 ⊢;generalize w1.heap.size=g2 at R2 ⊢;clear d1 B0 N0 P0 B2;have HNL:Hid ((cZ N).length=N):=aC (dO N);obtain⟨n0,n1,n2,n3,n4,n5⟩:=N2.o.six;simp only [m9] at n1 n2 n3 n4 n5;have e5:(z.1.2.f.k==5)=false:=by rw [HKD.o];rfl
 have e6:(z.1.2.f.k==6)=true:=by rw [HKD.o];rfl
 have HPS:Hid (∀ x,Ps H.L z.1.2 a x ↔ MtA H.L z.1.2.ks ⟨a,[]⟩ ⟨x,[]⟩):=fun x=>bT7 HKD.o a x;have KC:=aC (lJ HK.o P2.o.wm HZ.o);go_upto_region 24 with (go_at_call 72;(with_reducible refine(KC.o).mono ?_);rintro e w3 ⟨kq,kc,rfl,h31,h32⟩;have K3:=aC h31;have B3:=aC h32;clear h31 h32)
 have A3:Hid (AI12 H w rs wk mu kq kc i z.1.2.ks g2 N (fun x=>MtA H.L (z.1.2.ks.take 0) ⟨a,[]⟩ ⟨x,[]⟩) rs (cZ N) w3):=
  ⟨P2.o.below B3.o,K3.o.mono P2.o.f.size,R2.o.kept B3.o,HNL.o,fun j=>⟨fun h=>absurd h eS,fun h=>by rw [v9,dM] at h;obtain⟨u,hu,-⟩:=h;cases hu⟩⟩
 have hkl:(hQ i z.1.2.ks).length=z.1.2.ks.length:=dZ i z.1.2.ks;have hk2:z.1.2.ks.length<=2000:=by
  have h1:=cO z.1.2.ks;have h2:=fE z.1.2;have h3:=HK.o.te i z HZ.o;obtain⟨r,hr⟩:=seg H.t [] i z.1 (HK.o.at HZ.o);have h5:=congrArg List.length hr;rw [o4,cT,aAS] at h5;have h4:=congrArg List.length HK.o.mp;rw [aAE] at h4;omega
 rw [hkl];clear n0 n1 n2 n3 n4 n5 N2 R2 P2 K3 B3 hkl;go_loopw [15] (fun jv wr=>∃ (j:Nat) (rs':lOn) (is:List Bool),j<=z.1.2.ks.length/\jv=.I (j:Int)/\AI12 H w rs wk mu kq kc i z.1.2.ks g2 N (fun x=>MtA H.L (z.1.2.ks.take j) ⟨a,[]⟩ ⟨x,[]⟩) rs' is wr) (fun jv _=>z.1.2.ks.length - (intOf jv).toNat)
 case atStart=>exact⟨0,rs,cZ N,o9 _,rfl,A3.o⟩
 case round=>
  obtain⟨j,rs4,is,hj,rfl,ha4⟩:=hrel;have A4:=aC ha4;clear ha4;by_cases hjl:j < z.1.2.ks.length
  ·have i0:(j:Int) < (z.1.2.ks.length:Int):=by omega
   have hw2:IntKind.wrap .i64 ((j:Int)+1)=(j:Int)+1:=wrap_small _ (by omega) (by omega);obtain⟨u,hu⟩:∃ u,z.1.2.ks[j]?=some u:=⟨_,i9 hjl⟩;obtain⟨y,q1,q2,q3⟩:=HK.o.kid HZ.o hu;have HSN:Hid (∀ x,MtA H.L (z.1.2.ks.take (j+1)) ⟨a,[]⟩ ⟨x,[]⟩ ↔ MtA H.L (z.1.2.ks.take j) ⟨a,[]⟩ ⟨x,[]⟩\/Ps H.L y.1.2 a x):=fun x=>by rw [q2];exact yV hu a x
   obtain⟨gk,rfl,gk1,gk2,gk3⟩:=A4.o.kl.at (by rw [dZ];omega);have x0:=A4.o.kl.cell (jQ (i:=i) hjl);have MK:Hid (Calls Tryz.prog 123 #[.pointer (some ⟨H.b,0,none⟩),.slice (some ⟨g2,0,none⟩) N N,.I ((i+1+szs (z.1.2.ks.take j):Nat):Int),.I (a:Int),.bool false] wr (MkP H wr rs4 wk mu w.heap.size g2 N is (fun x=>Ps H.L y.1.2 a x/\fuP false a x))):=by
    have:=lH HP.o HK.o A4.o.ps.wm q1 (by rw [q2];have:=cK (n7 hu);have:=HSZ.o;omega) (by rw [q2];exact oH HPL.o u (n7 hu)) ha A4.o.br (A4.o.ln.trans HN.o.symm) (m8 HBS.o A4.o.br.lo) (by have h1:=A4.o.br.lo;have h2:=HPB.o;omega) false;rw [A4.o.ln] at this;exact this
   generalize i+1+szs (z.1.2.ks.take j)=kp at x0 MK;clear q1 q2 q3 hu;go_upto_region 25 with (go_at_call 123;(with_reducible refine(MK.o).mono ?_);intro e w5 hm;obtain⟨he,rs5,is5,h51,h52,h53,h54,h55⟩:=A4.o.ps.mark hm A4.o.br.lo;subst he;have A5:Hid (AI12 H w rs wk mu (some ⟨gk,0,none⟩) kc i z.1.2.ks g2 N (fun x=>MtA H.L (z.1.2.ks.take (j+1)) ⟨a,[]⟩ ⟨x,[]⟩) rs5 is5 w5):=⟨h51,A4.o.kl.wf A4.o.ps.wm h52 (oO A4.o.br),h53,h54.trans A4.o.ln,fun x=>by rw [h55,A4.o.m,HSN.o];exact or_congr Iff.rfl ⟨fun h=>h.1,fun h=>⟨h,fun e=>by cases e⟩⟩⟩;clear hm h51 h52 h53 h54 h55)
   go_wp2;go_roundw
   case rel=>exact⟨j+1,rs5,is5,by omega,by go_num,A5.o⟩
   case measure=>simp only [intOf];omega
  ·have i0:¬ (j:Int) < (z.1.2.ks.length:Int):=by omega
   have HT:Hid (z.1.2.ks.take j=z.1.2.ks):=aC (n8 (by omega));have RC:=aC (dR A4.o.br (by rw [A4.o.ln];omega));have HE:Hid (gV H.L z.1.2 a (fH is is.length)):=mN fun x=>by rw [A4.o.m,HT.o,HPS.o]
   have HLN:=aC A4.o.ln;rw [HLN.o] at RC HE;go_wp2_with (go_at_call 37;(with_reducible refine(RC.o).mono ?_);rintro e w7 ⟨q6,c6,rfl,h61,h62⟩;have L6:=aC h61;have B6:=aC h62;clear h61 h62)
   go_ret;exact qB A4.o.ps L6.o B6.o HE.o HBS.o
theorem aF1{n:Nat}(hp:PlC H n)(hk:Gk H){w:World}(hw:WM H w rs wk mu){i a:Nat}{z:Zl}(hz:H.Z[i]?=some z)(hn:z.1.2.sz<=n+1)(hpl:PlT H.L z.1.2)(ha:a<=H.L.s.size)(hkd:z.1.2.f.k=7) :
  Calls Tryz.prog 97 #[.pointer (some ⟨H.b,0,none⟩),.I (i:Int),.I (a:Int)] w (kU H w rs wk mu z.1.2 a):=by
 have HKD:=aC hkd;clear hkd;have HK:=aC hk;have HZ:=aC hz;have HSZ:=aC hn;have hil:=(m7.1 hz).1;have iil:(i:Int) < (H.Z.length:Int):=by omega
 have hlen:=hk.len;have hsm:=hk.sm;have HBS:Hid (H.base<=w.heap.size):=aC (m8 hw.bb (aBD hw.b_lt));have HPB:=aC hw.pb_lt;have HPL:=aC hpl;have HP:=aC hp;have HNP:=aC (((aQ z.1.2).1 (hk.npz hz)).1);have c0:=hw.cell (i:=0) rfl;have c1:=hw.cell (i:=1) rfl;have y0:=hw.z.cells hz (j:=0) (v:=.I z.1.2.f.k) rfl;have y1:=hw.z.cells hz (j:=1) (v:=.I z.1.2.f.n) rfl;have y2:=hw.z.cells hz (j:=2) (v:=.I z.1.2.f.mn) rfl;have y3:=hw.z.cells hz (j:=3) (v:=.I z.1.2.f.mx) rfl;have y4:=hw.z.cells hz (j:=4) (v:=.slice z.1.2.f.rq z.1.2.f.rs.length z.1.2.f.rc) rfl;have y5:=hw.z.cells hz (j:=5) (v:=.slice z.1.2.f.kq z.1.2.f.kl z.1.2.f.kc) rfl;rw [aAQ] at y0;obtain⟨N,hN⟩:∃ N,H.L.s.size+1=N:=⟨_,rfl⟩;have hwN:IntKind.wrap .i64 ((H.L.s.size:Int)+1)=(N:Int):=by rw [wrap_small _ (by omega) (by omega)];omega
 have MB:=eZ N (by omega);have HN:=aC hN;have hN1:N<=1001:=by omega
 have haN:(a:Int) < (N:Int):=by omega
 clear hN;have B0:Hid (wBl w (w.alloc (.cells (nDf z.1.2.f) 25))):=bz9;have N0:Hid (BoxN (w.alloc (.cells (nDf z.1.2.f) 25)) w.heap.size z.1.2.f):=aE w _;have P0:Hid (PS H w rs wk mu (w.alloc (.cells (nDf z.1.2.f) 25)) rs):=(PS.refl hw).below B0.o;clear hw hk hz hn hpl hp;go_enter Tryz.func97,Tryz.ntmps97;go_upto_region 2 with fail
 generalize (w.alloc (.cells (nDf z.1.2.f) 25))=w1 at B0 N0 P0 ⊢;have d1:=P0.o.wm.cell (i:=1) rfl;clear c0 c1 y0 y1 y2 y3 y4 y5;go_upto_region 3 with fail
 have B2:Hid (wBl w1 (w1.alloc (.cells (noC N) 4))):=bz9;have R2:Hid (BR w.heap.size (w1.alloc (.cells (noC N) 4)) w1.heap.size N (cZ N)):=kR B0.o.size (by omega);have P2:=aC (P0.o.below B2.o);have N2:Hid (BoxN (w1.alloc (.cells (noC N) 4)) w.heap.size z.1.2.f):=(B2.o.block _ (aB N0.o)).trans N0.o;generalize (w1.alloc (.cells (noC N) 4))=w2 at R2 P2 N2 ⊢;generalize w1.heap.size=g2 at R2 ⊢;clear d1 B0 N0 P0 B2;have HNL:Hid ((cZ N).length=N):=aC (dO N);obtain⟨n0,n1,n2,n3,n4,n5⟩:=N2.o.six;simp only [m9] at n1 n2 n3 n4 n5;have e5:(z.1.2.f.k==5)=false:=by rw [HKD.o];rfl
 have e6:(z.1.2.f.k==6)=false:=by rw [HKD.o];rfl
 have e7:(z.1.2.f.k==7)=true:=by rw [HKD.o];rfl
 have HPS:Hid (∀ x,Ps H.L z.1.2 a x ↔ MtA H.L z.1.2.ks ⟨a,[]⟩ ⟨x,[]⟩):=fun x=>bT5 HPL.o HKD.o a x;have KC:=aC (lJ HK.o P2.o.wm HZ.o);go_upto_region 24 with (go_at_call 72;(with_reducible refine(KC.o).mono ?_);rintro e w3 ⟨kq,kc,rfl,h31,h32⟩;have K3:=aC h31;have B3:=aC h32;clear h31 h32)
 have A3:Hid (AI12 H w rs wk mu kq kc i z.1.2.ks g2 N (fun x=>MtA H.L (z.1.2.ks.take 0) ⟨a,[]⟩ ⟨x,[]⟩) rs (cZ N) w3):=
  ⟨P2.o.below B3.o,K3.o.mono P2.o.f.size,R2.o.kept B3.o,HNL.o,fun j=>⟨fun h=>absurd h eS,fun h=>by rw [v9,dM] at h;obtain⟨u,hu,-⟩:=h;cases hu⟩⟩
 have hkl:(hQ i z.1.2.ks).length=z.1.2.ks.length:=dZ i z.1.2.ks;have hk2:z.1.2.ks.length<=2000:=by
  have h1:=cO z.1.2.ks;have h2:=fE z.1.2;have h3:=HK.o.te i z HZ.o;obtain⟨r,hr⟩:=seg H.t [] i z.1 (HK.o.at HZ.o);have h5:=congrArg List.length hr;rw [o4,cT,aAS] at h5;have h4:=congrArg List.length HK.o.mp;rw [aAE] at h4;omega
 rw [hkl];clear n0 n1 n2 n3 n4 n5 N2 R2 P2 K3 B3 hkl;go_loopw [15] (fun jv wr=>∃ (j:Nat) (rs':lOn) (is:List Bool),j<=z.1.2.ks.length/\jv=.I (j:Int)/\AI12 H w rs wk mu kq kc i z.1.2.ks g2 N (fun x=>MtA H.L (z.1.2.ks.take j) ⟨a,[]⟩ ⟨x,[]⟩) rs' is wr) (fun jv _=>z.1.2.ks.length - (intOf jv).toNat)
 case atStart=>exact⟨0,rs,cZ N,o9 _,rfl,A3.o⟩
 case round=>
  obtain⟨j,rs4,is,hj,rfl,ha4⟩:=hrel;have A4:=aC ha4;clear ha4;by_cases hjl:j < z.1.2.ks.length
  ·have i0:(j:Int) < (z.1.2.ks.length:Int):=by omega
   have hw2:IntKind.wrap .i64 ((j:Int)+1)=(j:Int)+1:=wrap_small _ (by omega) (by omega);obtain⟨u,hu⟩:∃ u,z.1.2.ks[j]?=some u:=⟨_,i9 hjl⟩;obtain⟨y,q1,q2,q3⟩:=HK.o.kid HZ.o hu;have HSN:Hid (∀ x,MtA H.L (z.1.2.ks.take (j+1)) ⟨a,[]⟩ ⟨x,[]⟩ ↔ MtA H.L (z.1.2.ks.take j) ⟨a,[]⟩ ⟨x,[]⟩\/Ps H.L y.1.2 a x):=fun x=>by rw [q2];exact yV hu a x
   obtain⟨gk,rfl,gk1,gk2,gk3⟩:=A4.o.kl.at (by rw [dZ];omega);have x0:=A4.o.kl.cell (jQ (i:=i) hjl);have MK:Hid (Calls Tryz.prog 123 #[.pointer (some ⟨H.b,0,none⟩),.slice (some ⟨g2,0,none⟩) N N,.I ((i+1+szs (z.1.2.ks.take j):Nat):Int),.I (a:Int),.bool false] wr (MkP H wr rs4 wk mu w.heap.size g2 N is (fun x=>Ps H.L y.1.2 a x/\fuP false a x))):=by
    have:=lH HP.o HK.o A4.o.ps.wm q1 (by rw [q2];have:=cK (n7 hu);have:=HSZ.o;omega) (by rw [q2];exact oH HPL.o u (n7 hu)) ha A4.o.br (A4.o.ln.trans HN.o.symm) (m8 HBS.o A4.o.br.lo) (by have h1:=A4.o.br.lo;have h2:=HPB.o;omega) false;rw [A4.o.ln] at this;exact this
   generalize i+1+szs (z.1.2.ks.take j)=kp at x0 MK;clear q1 q2 q3 hu;go_upto_region 25 with (go_at_call 123;(with_reducible refine(MK.o).mono ?_);intro e w5 hm;obtain⟨he,rs5,is5,h51,h52,h53,h54,h55⟩:=A4.o.ps.mark hm A4.o.br.lo;subst he;have A5:Hid (AI12 H w rs wk mu (some ⟨gk,0,none⟩) kc i z.1.2.ks g2 N (fun x=>MtA H.L (z.1.2.ks.take (j+1)) ⟨a,[]⟩ ⟨x,[]⟩) rs5 is5 w5):=⟨h51,A4.o.kl.wf A4.o.ps.wm h52 (oO A4.o.br),h53,h54.trans A4.o.ln,fun x=>by rw [h55,A4.o.m,HSN.o];exact or_congr Iff.rfl ⟨fun h=>h.1,fun h=>⟨h,fun e=>by cases e⟩⟩⟩;clear hm h51 h52 h53 h54 h55)
   go_wp2;go_roundw
   case rel=>exact⟨j+1,rs5,is5,by omega,by go_num,A5.o⟩
   case measure=>simp only [intOf];omega
  ·have i0:¬ (j:Int) < (z.1.2.ks.length:Int):=by omega
   have HT:Hid (z.1.2.ks.take j=z.1.2.ks):=aC (n8 (by omega));have RC:=aC (dR A4.o.br (by rw [A4.o.ln];omega));have HE:Hid (gV H.L z.1.2 a (fH is is.length)):=mN fun x=>by rw [A4.o.m,HT.o,HPS.o]
   have HLN:=aC A4.o.ln;rw [HLN.o] at RC HE;go_wp2_with (go_at_call 37;(with_reducible refine(RC.o).mono ?_);rintro e w7 ⟨q6,c6,rfl,h61,h62⟩;have L6:=aC h61;have B6:=aC h62;clear h61 h62)
   go_ret;exact qB A4.o.ps L6.o B6.o HE.o HBS.o
end
section
attribute [local go_sem] Oper.semAt_some aS
variable {H:Gh} {rs rs' rs'':lOn} {wk:Int} {mu:Bool}
structure BI12(H:Gh)(w:World)(rs:lOn)(wk:Int)(mu:Bool)(kq:Option Addr)(kc i:Nat)(ks:List Tr)(lq:Option Addr)(lc:Nat)(l:List Nat)(g N:Nat)(P:Nat->Prop)(rs':lOn)(is:List Bool)(V:World):Prop where
 a:AI12 H w rs wk mu kq kc i ks g N P rs' is V
 ll:Ls12 w.heap.size V lq lc l
theorem AI12.below{w V V':World}{kq:Option Addr}{kc i:Nat}{ks:List Tr}{g N:Nat}{P:Nat->Prop}{is:List Bool}(h:AI12 H w rs wk mu kq kc i ks g N P rs' is V)(hb:wBl V V'):AI12 H w rs wk mu kq kc i ks g N P rs' is V':=
 ⟨h.ps.below hb,h.kl.kept hb,h.br.kept hb,h.ln,h.m⟩
theorem BI12.below{w V V':World}{kq lq:Option Addr}{kc i lc:Nat}{ks:List Tr}{l:List Nat}{g N:Nat}{P:Nat->Prop}{is:List Bool}(h:BI12 H w rs wk mu kq kc i ks lq lc l g N P rs' is V)(hb:wBl V V'):BI12 H w rs wk mu kq kc i ks lq lc l g N P rs' is V':=
 ⟨h.a.below hb,h.ll.kept hb⟩
theorem BI12.mark{w V V':World}{kq lq:Option Addr}{kc i lc:Nat}{ks:List Tr}{l:List Nat}{g N k v:Nat}{t:Tr}{is:List Bool}{e:Ending}(h:BI12 H w rs wk mu kq kc i ks lq lc l g N (fun x=>∃ v∈l.take k,Ps H.L t v x) rs' is V)
  (hm:MkP H V rs' wk mu w.heap.size g N is (fun x=>Ps H.L t v x/\fuP false v x) e V') (hv:l[k]?=some v):e=.returned (.tuple #[])/\∃ rs'' is',BI12 H w rs wk mu kq kc i ks lq lc l g N (fun x=>∃ v∈l.take (k+1),Ps H.L t v x) rs'' is' V':=by
 obtain⟨he,rs9,is9,h51,h52,h53,h54,h55⟩:=h.a.ps.mark hm h.a.br.lo;have ht:l.take (k+1)=l.take k ++ [v]:=by rw [t7,hv];rfl
 refine⟨he,rs9,is9,⟨h51,h.a.kl.wf h.a.ps.wm h52 (oO h.a.br),h53,h54.trans h.a.ln,fun x=>?_⟩,h.ll.wf h.a.ps.wm h52 (oO h.a.br)⟩;rw [h55,h.a.m,ht];constructor
 ·rintro (⟨q,hq,h⟩ | h)
  ·exact⟨q,o3.2 (.inl hq),h⟩
  ·exact⟨v,by simp,h.1⟩
 ·rintro ⟨q,hq,h⟩;rcases o3.1 hq with r | r
  ·exact .inl ⟨q,r,h⟩
  ·rw [t8.1 r] at h;exact .inr ⟨h,fun e=>by cases e⟩
theorem aF2{n:Nat}(hp:PlC H n)(hk:Gk H){w:World}(hw:WM H w rs wk mu){i a:Nat}{z:Zl}(hz:H.Z[i]?=some z)(hn:z.1.2.sz<=n+1)(hpl:PlT H.L z.1.2)(ha:a<=H.L.s.size)(hkd:z.1.2.f.k=5) :
  Calls Tryz.prog 97 #[.pointer (some ⟨H.b,0,none⟩),.I (i:Int),.I (a:Int)] w (kU H w rs wk mu z.1.2 a):=by
 have HKD:=aC hkd;clear hkd;have HK:=aC hk;have HZ:=aC hz;have HSZ:=aC hn;have hil:=(m7.1 hz).1;have iil:(i:Int) < (H.Z.length:Int):=by omega
 have hlen:=hk.len;have hsm:=hk.sm;have HBS:Hid (H.base<=w.heap.size):=aC (m8 hw.bb (aBD hw.b_lt));have HPB:=aC hw.pb_lt;have HPL:=aC hpl;have HP:=aC hp;have HNP:=aC (((aQ z.1.2).1 (hk.npz hz)).1);have c0:=hw.cell (i:=0) rfl;have c1:=hw.cell (i:=1) rfl;have y0:=hw.z.cells hz (j:=0) (v:=.I z.1.2.f.k) rfl;have y1:=hw.z.cells hz (j:=1) (v:=.I z.1.2.f.n) rfl;have y2:=hw.z.cells hz (j:=2) (v:=.I z.1.2.f.mn) rfl;have y3:=hw.z.cells hz (j:=3) (v:=.I z.1.2.f.mx) rfl;have y4:=hw.z.cells hz (j:=4) (v:=.slice z.1.2.f.rq z.1.2.f.rs.length z.1.2.f.rc) rfl;have y5:=hw.z.cells hz (j:=5) (v:=.slice z.1.2.f.kq z.1.2.f.kl z.1.2.f.kc) rfl;rw [aAQ] at y0;obtain⟨N,hN⟩:∃ N,H.L.s.size+1=N:=⟨_,rfl⟩;have hwN:IntKind.wrap .i64 ((H.L.s.size:Int)+1)=(N:Int):=by rw [wrap_small _ (by omega) (by omega)];omega
 have MB:=eZ N (by omega);have HN:=aC hN;have hN1:N<=1001:=by omega
 have haN:(a:Int) < (N:Int):=by omega
 clear hN;have B0:Hid (wBl w (w.alloc (.cells (nDf z.1.2.f) 25))):=bz9;have N0:Hid (BoxN (w.alloc (.cells (nDf z.1.2.f) 25)) w.heap.size z.1.2.f):=aE w _;have P0:Hid (PS H w rs wk mu (w.alloc (.cells (nDf z.1.2.f) 25)) rs):=(PS.refl hw).below B0.o;clear hw hk hz hn hpl hp;go_enter Tryz.func97,Tryz.ntmps97;go_upto_region 2 with fail
 generalize (w.alloc (.cells (nDf z.1.2.f) 25))=w1 at B0 N0 P0 ⊢;have d1:=P0.o.wm.cell (i:=1) rfl;clear c0 c1 y0 y1 y2 y3 y4 y5;go_upto_region 3 with fail
 have B2:Hid (wBl w1 (w1.alloc (.cells (noC N) 4))):=bz9;have R2:Hid (BR w.heap.size (w1.alloc (.cells (noC N) 4)) w1.heap.size N (cZ N)):=kR B0.o.size (by omega);have P2:=aC (P0.o.below B2.o);have N2:Hid (BoxN (w1.alloc (.cells (noC N) 4)) w.heap.size z.1.2.f):=(B2.o.block _ (aB N0.o)).trans N0.o;generalize (w1.alloc (.cells (noC N) 4))=w2 at R2 P2 N2 ⊢;generalize w1.heap.size=g2 at R2 ⊢;clear d1 B0 N0 P0 B2;have HNL:Hid ((cZ N).length=N):=aC (dO N);obtain⟨n0,n1,n2,n3,n4,n5⟩:=N2.o.six;simp only [m9] at n1 n2 n3 n4 n5;have e5:(z.1.2.f.k==5)=true:=by rw [HKD.o];rfl
 have HPS:Hid (∀ x,Ps H.L z.1.2 a x ↔ MtC H.L z.1.2.ks ⟨a,[]⟩ ⟨x,[]⟩):=fun x=>bT6 HKD.o a x;have hfz:=R2.o.frz a;obtain⟨b0,hb0⟩:∃ b,w2.cell? ⟨g2,a,none⟩=some (.bool b):=⟨_,R2.o.cell (i9 (by rw [HNL.o];have:=HN.o;omega))⟩;go_upto_region 9 with fail
 have R3:=aC (R2.o.put a true);have P3:=aC (P2.o.put R2.o ((Fr.refl (fun k=>k=g2) w2).setCell (p:=⟨g2,a,none⟩) rfl (.bool true)) R2.o.lo HBS.o HPB.o);generalize (w2.setCell ⟨g2,a,none⟩ (.bool true))=w3 at R3 P3 ⊢;have KC:=aC (lJ HK.o P3.o.wm HZ.o);clear hfz hb0 n0 n1 n2 n3 n4 n5 N2 R2 P2;go_upto_region 11 with (go_at_call 72;(with_reducible refine(KC.o).mono ?_);rintro e w4 ⟨kq,kc,rfl,h31,h32⟩;have K3:=aC h31;have B3:=aC h32;clear h31 h32)
 have A3:Hid (AI12 H w rs wk mu kq kc i z.1.2.ks g2 N (fun x=>MtC H.L (z.1.2.ks.take 0) ⟨a,[]⟩ ⟨x,[]⟩) rs ((cZ N).set a true) w4):=
  ⟨P3.o.below B3.o,K3.o.mono P3.o.f.size,R3.o.kept B3.o,by rw [aAV,dO],fun x=>by
   rw [pL (by rw [dO];have:=HN.o;omega),v9,dS];constructor
   ·rintro (h | h)
    ·exact absurd h eS
    ·rw [h]
   ·intro h;injection h with h;exact .inr h⟩
 have hkl:(hQ i z.1.2.ks).length=z.1.2.ks.length:=dZ i z.1.2.ks;have hk2:z.1.2.ks.length<=2000:=by
  have h1:=cO z.1.2.ks;have h2:=fE z.1.2;have h3:=HK.o.te i z HZ.o;obtain⟨r,hr⟩:=seg H.t [] i z.1 (HK.o.at HZ.o);have h5:=congrArg List.length hr;rw [o4,cT,aAS] at h5;have h4:=congrArg List.length HK.o.mp;rw [aAE] at h4;omega
 rw [hkl];clear R3 P3 K3 B3 hkl;go_loopw [8,10] (fun ov jv wr=>∃ (j g:Nat) (rs':lOn) (is:List Bool),j<=z.1.2.ks.length/\ov=.slice (some ⟨g,0,none⟩) N N/\jv=.I (j:Int)/\AI12 H w rs wk mu kq kc i z.1.2.ks g N (fun x=>MtC H.L (z.1.2.ks.take j) ⟨a,[]⟩ ⟨x,[]⟩) rs' is wr) (fun _ jv _=>z.1.2.ks.length - (intOf jv).toNat)
 case atStart=>exact⟨0,g2,rs,_,o9 _,rfl,rfl,A3.o⟩
 case round=>
  obtain⟨j,g,rs4,is,hj,rfl,rfl,ha4⟩:=hrel;have A4:=aC ha4;clear ha4 A3;by_cases hjl:j < z.1.2.ks.length
  ·have i0:(j:Int) < (z.1.2.ks.length:Int):=by omega
   have hw2:IntKind.wrap .i64 ((j:Int)+1)=(j:Int)+1:=wrap_small _ (by omega) (by omega);obtain⟨u,hu⟩:∃ u,z.1.2.ks[j]?=some u:=⟨_,i9 hjl⟩;obtain⟨y,q1,q2,q3⟩:=HK.o.kid HZ.o hu;have HSN:Hid (∀ x,MtC H.L (z.1.2.ks.take (j+1)) ⟨a,[]⟩ ⟨x,[]⟩ ↔ ∃ v,MtC H.L (z.1.2.ks.take j) ⟨a,[]⟩ ⟨v,[]⟩/\Ps H.L y.1.2 v x):=fun x=>by rw [q2];exact aY9 (oH HPL.o) hu a x
   have HZY:=aC q1;have HYN:Hid (y.1.2.sz<=n):=aC (by rw [q2];have:=cK (n7 hu);have:=HSZ.o;omega);have HYP:Hid (PlT H.L y.1.2):=aC (by rw [q2];exact oH HPL.o u (n7 hu));obtain⟨gk,rfl,gk1,gk2,gk3⟩:=A4.o.kl.at (by rw [dZ];omega);have HKP:=aC (jQ (i:=i) hjl);have hkpl:i+1+szs (z.1.2.ks.take j) < 2000:=(by have:=(m7.1 q1).1;omega);have d1:=A4.o.ps.wm.cell (i:=1) rfl;clear q1 q2 q3 hu;go_upto_region 14 with fail
   have B5:Hid (wBl wr (wr.alloc (.cells (noC N) 4))):=bz9;have R5:Hid (BR w.heap.size (wr.alloc (.cells (noC N) 4)) wr.heap.size N (cZ N)):=kR A4.o.ps.f.size (by omega);have A5:=aC (A4.o.below B5.o);generalize (wr.alloc (.cells (noC N) 4))=w5 at R5 A5 B5 ⊢;generalize wr.heap.size=g5 at R5 ⊢;clear d1 B5;have RC:=aC (dR A5.o.br (by rw [A5.o.ln];omega));have HLN:=aC A5.o.ln;have HLM:Hid (∀ v,v∈fH is is.length ↔ MtC H.L (z.1.2.ks.take j) ⟨a,[]⟩ ⟨v,[]⟩):=fun v=>jO.trans (A5.o.m v);have HLB:Hid (∀ v,v∈fH is is.length->v<=H.L.s.size):=fun v h=>by have:=nK (jO.1 h);have h1:=HLN.o;have h2:=HN.o;omega
   have hll:=sQ is is.length;rw [HLN.o] at RC HLM HLB hll;generalize fH is N=l at RC HLM HLB hll;go_upto_region 16 with (go_at_call 37;(with_reducible refine(RC.o).mono ?_);rintro e w6 ⟨lq,lc,rfl,h61,h62⟩;have L6:=aC h61;have B6:=aC h62;clear h61 h62)
   have I6:Hid (BI12 H w rs wk mu (some ⟨gk,0,none⟩) kc i z.1.2.ks lq lc l g5 N (fun x=>∃ v∈l.take 0,Ps H.L y.1.2 v x) rs4 (cZ N) w6):=
    ⟨⟨A5.o.ps.below B6.o,A5.o.kl.kept B6.o,R5.o.kept B6.o,dO N,fun x=>⟨fun h=>absurd h eS,fun⟨v,hv,_⟩=>by rw [v9] at hv;cases hv⟩⟩,L6.o.mono A5.o.ps.f.size⟩
   clear R5 A5 L6 B6 A4;go_loopw [13] (fun av wr=>∃ (k:Nat) (rs':lOn) (is2:List Bool),k<=l.length/\av=.I (k:Int)/\BI12 H w rs wk mu (some ⟨gk,0,none⟩) kc i z.1.2.ks lq lc l g5 N (fun x=>∃ v∈l.take k,Ps H.L y.1.2 v x) rs' is2 wr) (fun av _=>l.length - (intOf av).toNat)
   case atStart=>exact⟨0,rs4,cZ N,o9 _,rfl,I6.o⟩
   case round=>
    obtain⟨k,rs7,is7,hkk,rfl,hb7⟩:=hrel;have I7:=aC hb7;clear hb7 I6;by_cases hkl:k < l.length
    ·have i1:(k:Int) < (l.length:Int):=by omega
     have hw3:IntKind.wrap .i64 ((k:Int)+1)=(k:Int)+1:=wrap_small _ (by omega) (by omega);obtain⟨v,hv⟩:∃ v,l[k]?=some v:=⟨_,i9 hkl⟩;obtain⟨gl,rfl,gl1,gl2,gl3⟩:=I7.o.ll.at (by omega);have D7:Hid (Below _ _ _):=aC ((Below.refl wr.heap.size wr).drew);have I8:=aC (I7.o.below D7.o);have HVB:=aC (HLB.o v (n7 hv));have HV:=aC hv;have x0:=I7.o.a.kl.cell HKP.o;have x1:=I7.o.ll.cell hv;have MK:Hid (Calls Tryz.prog 123 #[.pointer (some ⟨H.b,0,none⟩),.slice (some ⟨g5,0,none⟩) N N,.I ((i+1+szs (z.1.2.ks.take j):Nat):Int),.I (v:Int),.bool false] wr.drew (MkP H wr.drew rs7 wk mu w.heap.size g5 N is7 (fun x=>Ps H.L y.1.2 v x/\fuP false v x))):=by
      have:=lH HP.o HK.o I8.o.a.ps.wm HZY.o HYN.o HYP.o HVB.o I8.o.a.br (I8.o.a.ln.trans HN.o.symm) (m8 HBS.o I8.o.a.br.lo) (by have h1:=I8.o.a.br.lo;have h2:=HPB.o;omega) false;rw [I8.o.a.ln] at this;exact this
     generalize hkp:i+1+szs (z.1.2.ks.take j)=kp at x0 MK hkpl;have HKP2:Hid ((hQ i z.1.2.ks)[j]?=some kp):=aC (by rw [<- hkp];exact HKP.o);clear hv hkp;go_upto_region 18 with fail
     go_region_held (fun w'=>w'.cell? ⟨gk,j,none⟩=some (.I (kp:Int))/\w'.cell? ⟨gl,k,none⟩=some (.I (v:Int))) (go_keep) (first |(go_at_call 123;(with_reducible refine(MK.o).mono ?_);intro e w9 hm;obtain⟨he,rs9,is9,h9⟩:=I8.o.mark hm HV.o;subst he;have I9:=aC h9;clear hm h9;have s1:=I9.o.a.kl.cell HKP2.o;have s2:=I9.o.ll.cell HV.o))
     go_wp2;go_roundw
     case rel=>exact⟨k+1,rs9,is9,by omega,by go_num,I9.o⟩
     case measure=>simp only [intOf];omega
    ·have i1:¬ (k:Int) < (l.length:Int):=by omega
     have HT:Hid (l.take k=l):=aC (n8 (by omega));have A9:Hid (AI12 H w rs wk mu (some ⟨gk,0,none⟩) kc i z.1.2.ks g5 N (fun x=>MtC H.L (z.1.2.ks.take (j+1)) ⟨a,[]⟩ ⟨x,[]⟩) rs7 is7 wr):=
      ⟨I7.o.a.ps,I7.o.a.kl,I7.o.a.br,I7.o.a.ln,fun x=>by
       rw [I7.o.a.m,HT.o,HSN.o];exact exists_congr fun v=>and_congr (HLM.o v) Iff.rfl⟩
     go_wp2;go_roundw
     case rel=>exact⟨j+1,g5,rs7,is7,by omega,rfl,by go_num,A9.o⟩
     case measure=>simp only [intOf];omega
  ·have i0:¬ (j:Int) < (z.1.2.ks.length:Int):=by omega
   have HT:Hid (z.1.2.ks.take j=z.1.2.ks):=aC (n8 (by omega));have RC:=aC (dR A4.o.br (by rw [A4.o.ln];omega));have HE:Hid (gV H.L z.1.2 a (fH is is.length)):=mN fun x=>by rw [A4.o.m,HT.o,HPS.o]
   have HLN:=aC A4.o.ln;rw [HLN.o] at RC HE;go_wp2_with (go_at_call 37;(with_reducible refine(RC.o).mono ?_);rintro e w7 ⟨q6,c6,rfl,h61,h62⟩;have L6:=aC h61;have B6:=aC h62;clear h61 h62)
   go_ret;exact qB A4.o.ps L6.o B6.o HE.o HBS.o
end
section
variable {L:Ln} {v:Tr}
def Pq(P:Nat->Prop)(y:Cf):Prop:=y.g=[]/\P y.p
theorem bX2{P:Nat->Prop}{j:Nat}:Pq P ⟨j,[]⟩ ↔ P j:=⟨fun h=>h.2,fun h=>⟨rfl,h⟩⟩
theorem bU7(hp:PlT L v){j:Nat}{z:Cf}(h:Mt L v ⟨j,[]⟩ z):z.g=[]/\Ps L v j z.p:=by
 have:=(zF hp _ _).1 h;exact this
variable {mn t:Nat} {mx:Int} {x:Cf} {O N O' N':Nat->Prop}
theorem bI3(hp:PlT L v)(hs:TS (fun x y=>Mt L v x y) mn mx x t (Pq O) (Pq N))(hc:TC (fun x y=>Mt L v x y) mn mx x t (Pq O) (Pq N))
  (hO:∀ j,O' j ↔ O j\/(mn<=t/\N j)) (hN:∀ j,N' j ↔ ((t:Int)≠mx/\∃ y,N y/\Ps L v y j/\(mn<=t->y < j))/\((mx=-1/\mn<=t)->¬ O' j)) :
  TS (fun x y=>Mt L v x y) mn mx x (t+1) (Pq O') (Pq N')/\TC (fun x y=>Mt L v x y) mn mx x (t+1) (Pq O') (Pq N'):=by
 refine⟨rD hs (fun y hy=>?_) (fun z hz=>?_),rE hs hc (fun y hy=>⟨hy.1,(hO _).2 (.inl hy.2)⟩) (fun ht y hy=>⟨hy.1,(hO _).2 (.inr ⟨ht,hy.2⟩)⟩) (fun y hy=>?_) (fun y z hy hr hlt htm=>?_)⟩
 ·rcases (hO _).1 hy.2 with q | ⟨q,r⟩
  ·exact .inl ⟨hy.1,q⟩
  ·exact .inr ⟨q,hy.1,r⟩
 ·obtain⟨⟨h1,y,h2,h3,h4⟩,-⟩:=(hN _).1 hz.2;refine⟨h1,⟨y,[]⟩,⟨rfl,h2⟩,?_,h4⟩;obtain⟨zp,zg⟩:=z;have e:zg=[]:=hz.1;subst e;exact h3
 ·rcases (hO _).1 hy.2 with q | ⟨q,r⟩
  ·exact .inl ⟨hy.1,q⟩
  ·exact .inr ⟨q,hy.1,r⟩
 ·obtain⟨yp,yg⟩:=y;have e:yg=[]:=hy.1;subst e;obtain⟨h1,h2⟩:=bU7 hp hr;by_cases q:mx=-1/\mn<=t
  ·by_cases r:O' z.p
   ·exact .inr ⟨q.1,q.2,.inl ⟨h1,r⟩⟩
   ·exact .inl ⟨h1,(hN _).2 ⟨⟨htm,yp,hy.2,h2,hlt⟩,fun _=>r⟩⟩
  ·exact .inl ⟨h1,(hN _).2 ⟨⟨htm,yp,hy.2,h2,hlt⟩,fun w=>absurd w q⟩⟩
theorem bI2{a:Nat}(hm:mx=-1\/(mn:Int)<=mx)(hO:∀ j,¬ O j)(hN:∀ j,N j ↔ j=a) :
  TS (fun x y=>Mt L v x y) mn mx ⟨a,[]⟩ 0 (Pq O) (Pq N)/\TC (fun x y=>Mt L v x y) mn mx ⟨a,[]⟩ 0 (Pq O) (Pq N):=by
 have e1:Pq O=fun _=>False:=by funext y;exact propext ⟨fun h=>hO _ h.2,fun h=>h.elim⟩
 have e2:Pq N=fun y=>y=⟨a,[]⟩:=by
  funext y
  obtain⟨p,g⟩:=y;refine propext ⟨fun h=>?_,fun h=>?_⟩
  ·have h1:g=[]:=h.1;have h2:p=a:=(hN _).1 h.2;rw [h1,h2]
  ·injection h with h1 h2;subst h1 h2;exact⟨rfl,(hN _).2 rfl⟩
 rw [e1,e2];exact⟨aI2 hm,aI4⟩
theorem bR2(hs:TS (fun x y=>Mt L v x y) mn mx x t (Pq O) (Pq N))(hc:TC (fun x y=>Mt L v x y) mn mx x t (Pq O) (Pq N))(hN:∀ j,¬ N j)(j:Nat):O j ↔ Rp (fun x y=>Mt L v x y) (mn:Int) mx x ⟨j,[]⟩:=
 bX2.symm.trans (aW7 hs hc (fun _ h=>hN _ h.2) ⟨j,[]⟩)
theorem bR1(hs:TS (fun x y=>Mt L v x y) mn mx x t (Pq O) (Pq N)){j:Nat}(h:N j):t<=mn+j:=by
 have:=aW5 (hs.n ⟨j,[]⟩ ⟨rfl,h⟩).1;simp only at this;omega
end
section
attribute [local go_sem] Oper.semAt_some aS
variable {H:Gh} {rs rs' rs'':lOn} {wk:Int} {mu:Bool}
structure RI9(H:Gh)(w:World)(rs:lOn)(wk:Int)(mu:Bool)(f:Fl)(g N:Nat)(is:List Bool)(nq:Option Addr)(nc:Nat)(now:List Nat)(rs':lOn)(V:World):Prop where
 ps:PS H w rs wk mu V rs'
 nb:BoxN V w.heap.size f
 br:BR w.heap.size V g N is
 ln:is.length=N
 ll:Ls12 w.heap.size V nq nc now
structure SI9(H:Gh)(w:World)(rs:lOn)(wk:Int)(mu:Bool)(f:Fl)(g N:Nat)(is:List Bool)(nq:Option Addr)(nc:Nat)(now:List Nat)(rs':lOn)(g5:Nat)(is2:List Bool)(V:World):Prop where
 r:RI9 H w rs wk mu f g N is nq nc now rs' V
 br:BR w.heap.size V g5 N is2
 ln:is2.length=N
 ne:g5≠g
variable {w V V':World} {f:Fl} {g N:Nat} {is is2:List Bool} {nq:Option Addr} {nc:Nat} {now:List Nat} {g5:Nat}
theorem RI9.below(h:RI9 H w rs wk mu f g N is nq nc now rs' V)(hb:wBl V V'):RI9 H w rs wk mu f g N is nq nc now rs' V':=
 ⟨h.ps.below hb,(hb.block _ (aB h.nb)).trans h.nb,h.br.kept hb,h.ln,h.ll.kept hb⟩
theorem SI9.below(h:SI9 H w rs wk mu f g N is nq nc now rs' g5 is2 V)(hb:wBl V V'):SI9 H w rs wk mu f g N is nq nc now rs' g5 is2 V':=
 ⟨h.r.below hb,h.br.kept hb,h.ln,h.ne⟩
theorem bP7{base g c:Nat}{V V':World}{is:List Bool}{q:Option Addr}{k:Nat}{l:List Nat}(h:Ls12 base V q k l)(hb:BR base V g c is)(hf:Fr (fun k=>k=g) V V'):Ls12 base V' q k l:=
 aH h hf (fun k hk e=>by
  subst e;obtain⟨cs,hc⟩:=hb.ty;obtain⟨-,-,cur,h3⟩:=aF h hk;exact bH hc h3 (by decide) rfl)
theorem aZ7{base g c b:Nat}{V:World}{is:List Bool}(h:BoxN V b f)(hb:BR base V g c is):b≠g:=by
 obtain⟨cs,hc⟩:=hb.ty;exact bH h hc (by decide)
theorem SI9.put(h:SI9 H w rs wk mu f g N is nq nc now rs' g5 is2 V)(hbs:H.base<=w.heap.size)(hp:H.pb < w.heap.size)(x:Nat)(b:Bool):SI9 H w rs wk mu f g N (is.set x b) nq nc now rs' g5 is2 (V.setCell ⟨g,x,none⟩ (.bool b)):=by
 have hf:Fr (fun k=>k=g) V (V.setCell ⟨g,x,none⟩ (.bool b)):=(Fr.refl (fun k=>k=g) V).setCell (p:=⟨g,x,none⟩) rfl (.bool b);exact⟨⟨h.r.ps.put h.r.br hf h.r.br.lo hbs hp,(hf.block _ (aB h.r.nb) (aZ7 h.r.nb h.r.br)).trans h.r.nb,h.r.br.put x b,by rw [aAV];exact h.r.ln,bP7 h.r.ll h.r.br hf⟩,
  aH h.br hf (fun k hk e=>by cases hk;exact h.ne e),h.ln,h.ne⟩
theorem SI9.put2(h:SI9 H w rs wk mu f g N is nq nc now rs' g5 is2 V)(hbs:H.base<=w.heap.size)(hp:H.pb < w.heap.size)(x:Nat)(b:Bool):SI9 H w rs wk mu f g N is nq nc now rs' g5 (is2.set x b) (V.setCell ⟨g5,x,none⟩ (.bool b)):=by
 have hf:Fr (fun k=>k=g5) V (V.setCell ⟨g5,x,none⟩ (.bool b)):=(Fr.refl (fun k=>k=g5) V).setCell (p:=⟨g5,x,none⟩) rfl (.bool b);exact⟨⟨h.r.ps.put h.br hf h.br.lo hbs hp,(hf.block _ (aB h.r.nb) (aZ7 h.r.nb h.br)).trans h.r.nb,aH h.r.br hf (fun k hk e=>by cases hk;exact h.ne e.symm),h.r.ln,bP7 h.r.ll h.br hf⟩,
  h.br.put x b,by rw [aAV];exact h.ln,h.ne⟩
theorem SI9.mark{P:Nat->Prop}{e:Ending}(h:SI9 H w rs wk mu f g N is nq nc now rs' g5 is2 V)(hm:MkP H V rs' wk mu w.heap.size g5 N is2 P e V') :
  e=.returned (.tuple #[])/\∃ rs'' is3,SI9 H w rs wk mu f g N is nq nc now rs'' g5 is3 V'/\∀ j,is3[j]?=some true ↔ is2[j]?=some true\/P j:=by
 obtain⟨he,rs9,is9,h51,h52,h53,h54,h55⟩:=h.r.ps.mark hm h.br.lo;refine⟨he,rs9,is9,⟨⟨h51,?_,h.r.br.wf h.r.ps.wm h52 (fun e=>h.ne e.symm),h.r.ln,h.r.ll.wf h.r.ps.wm h52 (oO h.br)⟩,h53,h54.trans h.ln,h.ne⟩,h55⟩;exact iK h.r.ps.wm h52 h.r.nb ⟨by decide,by decide,by decide⟩ (aZ7 h.r.nb h.br)
def OutK(is is5:List Bool)(now:List Nat)(M t k:Nat):Prop:=∀ j,is5[j]?=some true ↔ is[j]?=some true\/(M<=t/\j∈now.take k)
def NxtK(L:Ln)(u:Tr)(is6:List Bool)(now:List Nat)(M t:Nat)(mx:Int)(k:Nat):Prop:=∀ j,is6[j]?=some true ↔ (t:Int)≠mx/\∃ y∈now.take k,Ps L u y j/\(M<=t->y < j)
def CutK(is5 is6 is7:List Bool)(M t:Nat)(mx:Int)(k:Nat):Prop:=∀ j,is7[j]?=some true ↔ is6[j]?=some true/\((mx=-1/\M<=t)->j < k->¬ is5[j]?=some true)
theorem OutK.skip{is5:List Bool}{M t k:Nat}(h:OutK is is5 now M t k)(hm:¬ M<=t):OutK is is5 now M t (k+1):=fun j=>by
 rw [h j];exact or_congr Iff.rfl ⟨fun q=>absurd q.1 hm,fun q=>absurd q.1 hm⟩
theorem OutK.put{is5:List Bool}{M t k x:Nat}(h:OutK is is5 now M t k)(hx:now[k]?=some x)(hm:M<=t)(hl:x < is5.length):OutK is (is5.set x true) now M t (k+1):=fun j=>by
 rw [pL hl,h j,t7,hx,aAX,o3,t8];constructor
 ·rintro ((q | q) | q)
  ·exact .inl q
  ·exact .inr ⟨hm,.inl q.2⟩
  ·exact .inr ⟨hm,.inr q⟩
 ·rintro (q | ⟨-,q | q⟩)
  ·exact .inl (.inl q)
  ·exact .inl (.inr ⟨hm,q⟩)
  ·exact .inr q
theorem NxtK.skip{L:Ln}{u:Tr}{is6:List Bool}{M t k:Nat}{mx:Int}(h:NxtK L u is6 now M t mx k)(hm:(t:Int)=mx):NxtK L u is6 now M t mx (k+1):=fun j=>by
 rw [h j];exact⟨fun q=>absurd hm q.1,fun q=>absurd hm q.1⟩
theorem NxtK.put{L:Ln}{u:Tr}{is6 is7:List Bool}{M t k x:Nat}{mx:Int}{b:Bool}(h:NxtK L u is6 now M t mx k)(hx:now[k]?=some x)(hm:(t:Int)≠mx)(hb:b=true ↔ M<=t)(h7:∀ j,is7[j]?=some true ↔ is6[j]?=some true\/(Ps L u x j/\fuP b x j)):NxtK L u is7 now M t mx (k+1):=fun j=>by
 rw [h7 j,h j,t7,hx,aAX];unfold fuP;rw [hb];constructor
 ·rintro (⟨-,y,hy,q⟩ | q)
  ·exact⟨hm,y,o3.2 (.inl hy),q⟩
  ·exact⟨hm,x,by simp,q⟩
 ·rintro ⟨-,y,hy,q⟩;rcases o3.1 hy with r | r
  ·exact .inl ⟨hm,y,r,q⟩
  ·rw [t8.1 r] at q;exact .inr q
theorem CutK.zero{is5 is6:List Bool}{M t:Nat}{mx:Int}:CutK is5 is6 is6 M t mx 0:=fun j=>⟨fun h=>⟨h,fun _ q=>by omega⟩,fun h=>h.1⟩
theorem CutK.put{is5 is6 is7:List Bool}{M t k:Nat}{mx:Int}{b o:Bool}(h:CutK is5 is6 is7 M t mx k)(hm:mx=-1/\M<=t)(hb:is7[k]?=some b)(ho:is5[k]?=some o):CutK is5 is6 (is7.set k (b && !o)) M t mx (k+1):=fun j=>by
 have hl:=(m7.1 hb).1;rw [aBO];by_cases e:k=j
 ·subst e;rw [if_pos rfl,if_pos hl,ho];have h1:=h k;rw [hb] at h1;constructor
  ·intro q;have q:(b && !o)=true:=(by simpa using q);rw [aBE] at q;refine⟨(h1.1 (by rw [q.1])).1,fun _ _ r=>?_⟩;have r:o=true:=(by simpa using r);rw [r] at q;simp at q
  ·rintro ⟨q1,q2⟩;have r1:=h1.2 ⟨q1,fun _ r=>by omega⟩;have r2:=q2 hm (by omega);have r1:b=true:=(by simpa using r1);have r2:o=false:=(by simpa using r2);rw [r1,r2]
   rfl
 ·rw [if_neg e,h j];constructor
  ·rintro ⟨q1,q2⟩;exact⟨q1,fun a b=>q2 a (by omega)⟩
  ·rintro ⟨q1,q2⟩;exact⟨q1,fun a b=>q2 a (by omega)⟩
theorem aF0{n:Nat}(hp:PlC H n)(hk:Gk H){w:World}(hw:WM H w rs wk mu){i a:Nat}{z:Zl}(hz:H.Z[i]?=some z)(hn:z.1.2.sz<=n+1)(hpl:PlT H.L z.1.2)(ha:a<=H.L.s.size)(hkd:z.1.2.f.k=9) :
  Calls Tryz.prog 97 #[.pointer (some ⟨H.b,0,none⟩),.I (i:Int),.I (a:Int)] w (kU H w rs wk mu z.1.2 a):=by
 have HKD:=aC hkd;clear hkd;have HK:=aC hk;have HZ:=aC hz;have HSZ:=aC hn;have hil:=(m7.1 hz).1;have iil:(i:Int) < (H.Z.length:Int):=by omega
 have hlen:=hk.len;have hsm:=hk.sm;have HBS:Hid (H.base<=w.heap.size):=aC (m8 hw.bb (aBD hw.b_lt));have HPB:=aC hw.pb_lt;have HPL:=aC hpl;have HP:=aC hp;have HNP:=aC (((aQ z.1.2).1 (hk.npz hz)).1);have c0:=hw.cell (i:=0) rfl;have c1:=hw.cell (i:=1) rfl;have y0:=hw.z.cells hz (j:=0) (v:=.I z.1.2.f.k) rfl;have y1:=hw.z.cells hz (j:=1) (v:=.I z.1.2.f.n) rfl;have y2:=hw.z.cells hz (j:=2) (v:=.I z.1.2.f.mn) rfl;have y3:=hw.z.cells hz (j:=3) (v:=.I z.1.2.f.mx) rfl;have y4:=hw.z.cells hz (j:=4) (v:=.slice z.1.2.f.rq z.1.2.f.rs.length z.1.2.f.rc) rfl;have y5:=hw.z.cells hz (j:=5) (v:=.slice z.1.2.f.kq z.1.2.f.kl z.1.2.f.kc) rfl;rw [aAQ] at y0;obtain⟨N,hN⟩:∃ N,H.L.s.size+1=N:=⟨_,rfl⟩;have hwN:IntKind.wrap .i64 ((H.L.s.size:Int)+1)=(N:Int):=by rw [wrap_small _ (by omega) (by omega)];omega
 have MB:=eZ N (by omega);have HN:=aC hN;have hN1:N<=1001:=by omega
 have haN:(a:Int) < (N:Int):=by omega
 clear hN;have B0:Hid (wBl w (w.alloc (.cells (nDf z.1.2.f) 25))):=bz9;have N0:Hid (BoxN (w.alloc (.cells (nDf z.1.2.f) 25)) w.heap.size z.1.2.f):=aE w _;have P0:Hid (PS H w rs wk mu (w.alloc (.cells (nDf z.1.2.f) 25)) rs):=(PS.refl hw).below B0.o;clear hw hk hz hn hpl hp;go_enter Tryz.func97,Tryz.ntmps97;go_upto_region 2 with fail
 generalize (w.alloc (.cells (nDf z.1.2.f) 25))=w1 at B0 N0 P0 ⊢;have d1:=P0.o.wm.cell (i:=1) rfl;clear c0 c1 y0 y1 y2 y3 y4 y5;go_upto_region 3 with fail
 have B2:Hid (wBl w1 (w1.alloc (.cells (noC N) 4))):=bz9;have R2:Hid (BR w.heap.size (w1.alloc (.cells (noC N) 4)) w1.heap.size N (cZ N)):=kR B0.o.size (by omega);have P2:=aC (P0.o.below B2.o);have N2:Hid (BoxN (w1.alloc (.cells (noC N) 4)) w.heap.size z.1.2.f):=(B2.o.block _ (aB N0.o)).trans N0.o;generalize (w1.alloc (.cells (noC N) 4))=w2 at R2 P2 N2 ⊢;generalize w1.heap.size=g2 at R2 ⊢;clear d1 B0 N0 P0 B2;have HNL:Hid ((cZ N).length=N):=aC (dO N);obtain⟨n0,n1,n2,n3,n4,n5⟩:=N2.o.six;simp only [m9] at n1 n2 n3 n4 n5;have e5:(z.1.2.f.k==5)=false:=by rw [HKD.o];rfl
 have e6:(z.1.2.f.k==6)=false:=by rw [HKD.o];rfl
 have e7:(z.1.2.f.k==7)=false:=by rw [HKD.o];rfl
 have e9:(z.1.2.f.k==9)=true:=by rw [HKD.o];rfl
 obtain⟨u,hu⟩:=sU HNP.o (.inr HKD.o);obtain⟨b1,b2,b3⟩:=sV HNP.o HKD.o;obtain⟨M,hM⟩:∃ M:Nat,z.1.2.f.mn=(M:Int):=⟨z.1.2.f.mn.toNat,by omega⟩;obtain⟨mx,hmx⟩:∃ mx,z.1.2.f.mx=mx:=⟨_,rfl⟩;have HPS:Hid (∀ x,Ps H.L z.1.2 a x ↔ Rp (fun x y=>Mt H.L u x y) (M:Int) mx ⟨a,[]⟩ ⟨x,[]⟩):=fun x=>by rw [<- hM,<- hmx];exact bT4 HKD.o hu a x
 have HM:=aC hM;have HMX:=aC hmx;have hM2:M<=255:=by omega
 have hmx2:mx=-1\/((M:Int)<=mx/\mx<=255):=by omega
 have hkid:z.1.2.ks[0]?=some u:=by rw [hu];rfl
 obtain⟨y,q1,q2,q3⟩:=HK.o.kid HZ.o hkid;rw [v9,eP,aAQ] at q1;have HZY:=aC q1;have HU:=aC q2;have HYN:Hid (y.1.2.sz<=n):=aC (by rw [q2];have:=cK (n7 hkid);have:=HSZ.o;omega);have HYP:Hid (PlT H.L y.1.2):=aC (by rw [q2];exact oH HPL.o u (n7 hkid));have HUP:Hid (PlT H.L u):=aC (by rw [<- q2];exact HYP.o);have hi1:i+1 < 2000:=by have:=(m7.1 q1).1;omega
 obtain⟨ip,hip⟩:∃ ip,i+1=ip:=⟨_,rfl⟩;have hwi:IntKind.wrap .i64 ((i:Int)+1)=(ip:Int):=by rw [wrap_small _ (by omega) (by omega)];omega
 rw [hip] at HZY hi1;clear hip;clear q1 q2 q3 hkid hu hM hmx b1 b2 b3;go_upto_region 30 with fail
 have R3:Hid (RI9 H w rs wk mu z.1.2.f g2 N (cZ N) (some ⟨w2.heap.size,0,none⟩) 1 [a] rs (w2.alloc (.cells #[.I (a:Int)] 3))):=by
  have hb:wBl w2 (w2.alloc (.cells #[.I (a:Int)] 3)):=bz9;exact⟨P2.o.below hb,(hb.block _ (aB N2.o)).trans N2.o,R2.o.kept hb,dO N,⟨rfl,.inr ⟨w2.heap.size,1,_,rfl,P2.o.f.size,aE w2 _,by simp,by unfold maxLen;omega,by simp,by simp⟩⟩⟩
 generalize (w2.alloc (.cells #[.I (a:Int)] 3))=w3 at R3 ⊢;generalize w2.heap.size=g3 at R3 ⊢;have T3:Hid (TS (fun x y=>Mt H.L u x y) M mx ⟨a,[]⟩ 0 (Pq (fun j=>(cZ N)[j]?=some true)) (Pq (fun j=>j∈[a]))/\TC (fun x y=>Mt H.L u x y) M mx ⟨a,[]⟩ 0 (Pq (fun j=>(cZ N)[j]?=some true)) (Pq (fun j=>j∈[a]))):=bI2 (by omega) (fun j h=>eS h) (fun j=>t8);clear n0 n1 n2 n3 n4 n5 N2 R2 P2;go_loopw [16,17] (fun nv tv wr=>∃ (t:Nat) (nq:Option Addr) (nc:Nat) (now:List Nat) (is:List Bool) (rs':lOn),nv=.slice nq now.length nc/\tv=.I (t:Int)/\t<=M+H.L.s.size+1/\now.length<=N/\(∀ v∈now,v<=H.L.s.size)/\RI9 H w rs wk mu z.1.2.f g2 N is nq nc now rs' wr /\
  TS (fun x y=>Mt H.L u x y) M mx ⟨a,[]⟩ t (Pq (fun j=>is[j]?=some true)) (Pq (fun j=>j∈now))/\TC (fun x y=>Mt H.L u x y) M mx ⟨a,[]⟩ t (Pq (fun j=>is[j]?=some true)) (Pq (fun j=>j∈now))) (fun _ tv _=>M+H.L.s.size+2 - (intOf tv).toNat)
 case atStart=>exact⟨0,some ⟨g3,0,none⟩,1,[a],cZ N,rs,rfl,rfl,by omega,by simp;omega,fun v hv=>by rw [t8.1 hv];exact ha,R3.o,T3.o.1,T3.o.2⟩
 case round=>
  obtain⟨t,nq,nc,now,is,rs4,rfl,rfl,ht,hnl,hnb,hr4,hts,htc⟩:=hrel;have HNB:=aC hnb;have R4:=aC hr4;have S4:=aC hts;have C4:=aC htc;clear hnb hr4 hts htc R3 T3;by_cases hz0:0 < now.length
  ·have i0:(0:Int) < (now.length:Int):=by omega
   have htl:t<=M+H.L.s.size:=by
    have hm:now[0]∈now:=List.getElem_mem hz0;have h1:=bR1 S4.o hm;have h2:=HNB.o _ hm;omega
   have hwt:IntKind.wrap .i64 ((t:Int)+1)=((t:Int)+1):=wrap_small _ (by omega) (by omega);have d1:=R4.o.ps.wm.cell (i:=1) rfl;obtain⟨gn,rfl,gn1,gn2,gn3⟩:=R4.o.ll.at hz0;go_upto_region 33 with fail
   have B5:Hid (wBl wr (wr.alloc (.cells (noC N) 4))):=bz9;have I5:Hid (SI9 H w rs wk mu z.1.2.f g2 N is (some ⟨gn,0,none⟩) nc now rs4 wr.heap.size (cZ N) (wr.alloc (.cells (noC N) 4))):=⟨R4.o.below B5.o,kR R4.o.ps.f.size (by omega),dO N,by have:=R4.o.br.lt;omega⟩;generalize (wr.alloc (.cells (noC N) 4))=w5 at I5 B5 ⊢;generalize wr.heap.size=g5 at I5 ⊢;clear d1 B5 R4;have O5:Hid (OutK is is now M t 0):=fun j=>by rw [v9];simp
   have X5:Hid (NxtK H.L u (cZ N) now M t mx 0):=fun j=>⟨fun h=>absurd h eS,fun h=>by obtain⟨-,v,hv,-⟩:=h;rw [v9] at hv;cases hv⟩;go_upto_region 34 with fail
   go_loopw [19] (fun kv wr=>∃ (k:Nat) (rs':lOn) (is5 is6:List Bool),k<=now.length/\kv=.I (k:Int)/\SI9 H w rs wk mu z.1.2.f g2 N is5 (some ⟨gn,0,none⟩) nc now rs' g5 is6 wr/\OutK is is5 now M t k/\NxtK H.L u is6 now M t mx k) (fun kv _=>now.length - (intOf kv).toNat)
   case atStart=>exact⟨0,rs4,is,cZ N,o9 _,rfl,I5.o,O5.o,X5.o⟩
   case round=>
    obtain⟨k,rs6,is5,is6,hk,rfl,hi6,ho6,hx6⟩:=hrel;have I6:=aC hi6;have O6:=aC ho6;have X6:=aC hx6;clear hi6 ho6 hx6 I5 O5 X5;by_cases hkl:k < now.length
    ·have i1:(k:Int) < (now.length:Int):=by omega
     have hw3:IntKind.wrap .i64 ((k:Int)+1)=(k:Int)+1:=wrap_small _ (by omega) (by omega);obtain⟨v,hv⟩:∃ v,now[k]?=some v:=⟨_,i9 hkl⟩;have HV:=aC hv;have HVB:=aC (HNB.o v (n7 hv));have vN:(v:Int) < (N:Int):=(by have h1:=HVB.o;have h2:=HN.o;omega);have vN2:v < N:=(by omega);clear hv;by_cases hmt:M<=t
     ·have j0:(M:Int)<=(t:Int):=by omega
      have n2:wr.cell? ⟨w.heap.size,2,none⟩=some (.I (M:Int)):=(by have:=aA I6.o.r.nb (i:=2) rfl;rw [this,<- HM.o];rfl);have n3:wr.cell? ⟨w.heap.size,3,none⟩=some (.I mx):=(by have:=aA I6.o.r.nb (i:=3) rfl;rw [this,<- HMX.o];rfl);have x0:=I6.o.r.ll.cell HV.o;have hfz:=I6.o.r.br.frz v;obtain⟨b0,hb0⟩:∃ b,wr.cell? ⟨g2,v,none⟩=some (.bool b):=⟨_,I6.o.r.br.cell (i9 (by rw [I6.o.r.ln];exact vN2))⟩;have I7:=aC (I6.o.put HBS.o HPB.o v true);have O7:=aC (O6.o.put HV.o hmt (by rw [I6.o.r.ln];exact vN2));have HMT:=aC hmt;clear hmt;go_upto_region 38 with fail
      generalize (wr.setCell ⟨g2,v,none⟩ (.bool true))=w7 at I7 ⊢;have m2:w7.cell? ⟨w.heap.size,2,none⟩=some (.I (M:Int)):=(by have:=aA I7.o.r.nb (i:=2) rfl;rw [this,<- HM.o];rfl);have m3:w7.cell? ⟨w.heap.size,3,none⟩=some (.I mx):=(by have:=aA I7.o.r.nb (i:=3) rfl;rw [this,<- HMX.o];rfl);clear n2 n3 x0 hfz hb0;by_cases htm:(t:Int)=mx
      ·have p0:((t:Int)==mx)=true:=by rw [htm];simp
       have p1:((t:Int) != mx)=false:=(by rw [htm];simp);have X7:=aC (X6.o.skip htm);clear htm;go_wp2;go_roundw
       case rel=>exact⟨k+1,rs6,_,is6,by omega,by go_num,I7.o,O7.o,X7.o⟩
       case measure=>simp only [intOf];omega
      ·have p0:((t:Int)==mx)=false:=by simpa using htm
       have p1:((t:Int) != mx)=true:=(by simpa using htm);have HTM:=aC htm;clear htm;have D7:Hid (Below _ _ _):=aC ((Below.refl w7.heap.size w7).drew);have I8:=aC (I7.o.below D7.o);have MK:Hid (Calls Tryz.prog 123 #[.pointer (some ⟨H.b,0,none⟩),.slice (some ⟨g5,0,none⟩) N N,.I (ip:Int),.I (v:Int),.bool true] w7.drew (MkP H w7.drew rs6 wk mu w.heap.size g5 N is6 (fun x=>Ps H.L u v x/\fuP true v x))):=by
        have:=lH HP.o HK.o I8.o.r.ps.wm HZY.o HYN.o HYP.o HVB.o I8.o.br (I8.o.ln.trans HN.o.symm) (m8 HBS.o I8.o.br.lo) (by have h1:=I8.o.br.lo;have h2:=HPB.o;omega) true;rw [I8.o.ln,HU.o] at this;exact this
       have x1:=I7.o.r.ll.cell HV.o;go_upto_region 39 with fail
       go_region_held (fun w'=>w'.cell? ⟨gn,k,none⟩=some (.I (v:Int))/\w'.cell? ⟨w.heap.size,2,none⟩=some (.I (M:Int))) (go_keep) (first |(go_at_call 123;(with_reducible refine(MK.o).mono ?_);intro e w9 hm;obtain⟨he,rs9,is9,h9,h10⟩:=I8.o.mark hm;subst he;have I9:=aC h9;have X9:=aC (X6.o.put HV.o HTM.o (b:=true) ⟨fun _=>HMT.o,fun _=>rfl⟩ h10);clear hm h9 h10;have s1:=I9.o.r.ll.cell HV.o;have s2:w9.cell? ⟨w.heap.size,2,none⟩=some (.I (M:Int)):=(by have:=aA I9.o.r.nb (i:=2) rfl;rw [this,<- HM.o];rfl)))
       go_wp2;go_roundw
       case rel=>exact⟨k+1,rs9,_,is9,by omega,by go_num,I9.o,O7.o,X9.o⟩
       case measure=>simp only [intOf];omega
     ·have j0:¬ (M:Int)<=(t:Int):=by omega
      have n2:wr.cell? ⟨w.heap.size,2,none⟩=some (.I (M:Int)):=(by have:=aA I6.o.r.nb (i:=2) rfl;rw [this,<- HM.o];rfl);have n3:wr.cell? ⟨w.heap.size,3,none⟩=some (.I mx):=(by have:=aA I6.o.r.nb (i:=3) rfl;rw [this,<- HMX.o];rfl);have O7:=aC (O6.o.skip hmt);have HMT:=aC hmt;clear hmt;have htm:(t:Int)≠mx:=(by omega);have p0:((t:Int)==mx)=false:=(by simpa using htm);have p1:((t:Int) != mx)=true:=(by simpa using htm);have HTM:=aC htm;clear htm;have D7:Hid (Below _ _ _):=aC ((Below.refl wr.heap.size wr).drew);have I8:=aC (I6.o.below D7.o);have MK:Hid (Calls Tryz.prog 123 #[.pointer (some ⟨H.b,0,none⟩),.slice (some ⟨g5,0,none⟩) N N,.I (ip:Int),.I (v:Int),.bool false] wr.drew (MkP H wr.drew rs6 wk mu w.heap.size g5 N is6 (fun x=>Ps H.L u v x/\fuP false v x))):=by
       have:=lH HP.o HK.o I8.o.r.ps.wm HZY.o HYN.o HYP.o HVB.o I8.o.br (I8.o.ln.trans HN.o.symm) (m8 HBS.o I8.o.br.lo) (by have h1:=I8.o.br.lo;have h2:=HPB.o;omega) false;rw [I8.o.ln,HU.o] at this;exact this
      have x1:=I6.o.r.ll.cell HV.o;go_upto_region 39 with fail
      go_region_held (fun w'=>w'.cell? ⟨gn,k,none⟩=some (.I (v:Int))/\w'.cell? ⟨w.heap.size,2,none⟩=some (.I (M:Int))) (go_keep) (first |(go_at_call 123;(with_reducible refine(MK.o).mono ?_);intro e w9 hm;obtain⟨he,rs9,is9,h9,h10⟩:=I8.o.mark hm;subst he;have I9:=aC h9;have X9:=aC (X6.o.put HV.o HTM.o (b:=false) ⟨fun e=>(by cases e),fun q=>absurd q HMT.o⟩ h10);clear hm h9 h10;have s1:=I9.o.r.ll.cell HV.o;have s2:w9.cell? ⟨w.heap.size,2,none⟩=some (.I (M:Int)):=(by have:=aA I9.o.r.nb (i:=2) rfl;rw [this,<- HM.o];rfl)))
      go_wp2;go_roundw
      case rel=>exact⟨k+1,rs9,is5,is9,by omega,by go_num,I9.o,O7.o,X9.o⟩
      case measure=>simp only [intOf];omega
    ·have i1:¬ (k:Int) < (now.length:Int):=by omega
     have HT:Hid (now.take k=now):=aC (n8 (by omega));have O8:Hid (∀ j,is5[j]?=some true ↔ is[j]?=some true\/(M<=t/\j∈now)):=fun j=>by rw [O6.o j,HT.o]
     have X8:Hid (∀ j,is6[j]?=some true ↔ (t:Int)≠mx/\∃ y∈now,Ps H.L u y j/\(M<=t->y < j)):=fun j=>by rw [X6.o j,HT.o]
     clear O6 X6 HT;go_upto_region 41 with fail
     go_loopw [20] (fun kv wr=>∃ (k:Nat) (is7:List Bool),k<=N/\kv=.I (k:Int)/\SI9 H w rs wk mu z.1.2.f g2 N is5 (some ⟨gn,0,none⟩) nc now rs6 g5 is7 wr/\CutK is5 is6 is7 M t mx k) (fun kv _=>N - (intOf kv).toNat)
     case atStart=>exact⟨0,is6,o9 _,rfl,I6.o,CutK.zero⟩
     case round=>
      obtain⟨k2,is7,hk2,rfl,hi7,hc7⟩:=hrel;have I7:=aC hi7;have Q7:=aC hc7;clear hi7 hc7 I6;have d1:=I7.o.r.ps.wm.cell (i:=1) rfl;have n2:wr.cell? ⟨w.heap.size,2,none⟩=some (.I (M:Int)):=(by have:=aA I7.o.r.nb (i:=2) rfl;rw [this,<- HM.o];rfl);have n3:wr.cell? ⟨w.heap.size,3,none⟩=some (.I mx):=(by have:=aA I7.o.r.nb (i:=3) rfl;rw [this,<- HMX.o];rfl);have RC:=aC (dR I7.o.br (by rw [I7.o.ln];omega));have HLN:=aC I7.o.ln;have DONE:Hid ((∀ j,is7[j]?=some true ↔ is6[j]?=some true/\((mx=-1/\M<=t)->¬ is5[j]?=some true))->(TS (fun x y=>Mt H.L u x y) M mx ⟨a,[]⟩ (t+1) (Pq (fun j=>is5[j]?=some true)) (Pq (fun j=>j∈fH is7 is7.length))/\TC (fun x y=>Mt H.L u x y) M mx ⟨a,[]⟩ (t+1) (Pq (fun j=>is5[j]?=some true)) (Pq (fun j=>j∈fH is7 is7.length)))):=fun h=>by
       refine bI3 HUP.o S4.o C4.o O8.o (fun j=>?_);rw [jO,h j,X8.o j]
      have HPB2:Hid (∀ v∈fH is7 is7.length,v<=H.L.s.size):=fun v h=>by have h1:=nK (jO.1 h);have h2:=HLN.o;have h3:=HN.o;omega
      have hpl7:=sQ is7 is7.length;rw [HLN.o] at RC DONE HPB2 hpl7;by_cases hinf:mx=-1/\M<=t
      ·by_cases hks:k2 < N
       ·have i2:(k2:Int)<=(H.L.s.size:Int):=by have:=HN.o;omega
        have i3:(M:Int)<=(t:Int):=(by omega);have i4:(mx==-1)=true:=(by rw [hinf.1];rfl);have i5:(k2:Int) < (N:Int):=(by omega);have hw4:IntKind.wrap .i64 ((k2:Int)+1)=(k2:Int)+1:=wrap_small _ (by omega) (by omega);obtain⟨b,hb⟩:∃ b,is7[k2]?=some b:=⟨_,i9 (by rw [I7.o.ln];exact hks)⟩;obtain⟨o,ho⟩:∃ o,is5[k2]?=some o:=⟨_,i9 (by rw [I7.o.r.ln];exact hks)⟩;have x0:=I7.o.br.cell hb;have x1:=I7.o.r.br.cell ho;have hfz:=I7.o.br.frz k2;have I8:=aC (I7.o.put2 HBS.o HPB.o k2 (b && !o));have Q8:=aC (Q7.o.put hinf hb ho);clear hinf hb ho RC DONE
        cases b with
        | true=>
         cases o with
         | true=>
          go_wp2;go_roundw
          case rel=>exact⟨k2+1,_,by omega,by go_num,I8.o,Q8.o⟩
          case measure=>simp only [intOf];omega
         | false=>
          go_wp2;go_roundw
          case rel=>exact⟨k2+1,_,by omega,by go_num,I8.o,Q8.o⟩
          case measure=>simp only [intOf];omega
        | false=>
         go_wp2;go_roundw
         case rel=>exact⟨k2+1,_,by omega,by go_num,I8.o,Q8.o⟩
         case measure=>simp only [intOf];omega
       ·have i2:¬ (k2:Int)<=(H.L.s.size:Int):=by have:=HN.o;omega
        have T9:=aC (DONE.o fun j=>by
         rw [Q7.o j];refine and_congr Iff.rfl ⟨fun h q r=>h q ?_ r,fun h q _=>h q⟩;have h1:=nK r;have h2:=I7.o.r.ln;omega)
        clear hinf DONE;generalize fH is7 N=now2 at RC T9 HPB2 hpl7;go_wp2_with (go_at_call 37;(with_reducible refine(RC.o).mono ?_);rintro e w8 ⟨q8,c8,rfl,h81,h82⟩;have L8:=aC h81;have R8:=aC (I7.o.r.below h82);clear h81 h82)
        go_roundw
        case rel=>exact⟨t+1,q8,c8,now2,is5,rs6,rfl,by go_num,by omega,hpl7,HPB2.o,⟨R8.o.ps,R8.o.nb,R8.o.br,R8.o.ln,L8.o.mono I7.o.r.ps.f.size⟩,T9.o.1,T9.o.2⟩
        case measure=>simp only [intOf];omega
      ·have T9:=aC (DONE.o fun j=>by
        rw [Q7.o j];exact and_congr Iff.rfl ⟨fun _ q=>absurd q hinf,fun _ q=>absurd q hinf⟩)
       have i4:mx≠-1\/¬ (M:Int)<=(t:Int):=(by omega);clear hinf DONE;generalize fH is7 N=now2 at RC T9 HPB2 hpl7;have FIN:Hid (∀ (q8:Option Addr) (c8:Nat) (w8:World),Ls12 wr.heap.size w8 q8 c8 now2->wBl wr w8->RI9 H w rs wk mu z.1.2.f g2 N is5 q8 c8 now2 rs6 w8):=fun q8 c8 w8 h1 h2=>by
        have R8:=I7.o.r.below h2;exact⟨R8.ps,R8.nb,R8.br,R8.ln,h1.mono I7.o.r.ps.f.size⟩
       by_cases hks:k2 < N
       ·have i2:(k2:Int)<=(H.L.s.size:Int):=by have:=HN.o;omega
        by_cases hm1:mx=-1
        ·have i5:(mx==-1)=true:=by rw [hm1];rfl
         have i6:¬ (M:Int)<=(t:Int):=(by omega);clear i4 hm1;go_wp2_with (go_at_call 37;(with_reducible refine(RC.o).mono ?_);rintro e w8 ⟨q8,c8,rfl,h81,h82⟩;have R8:=aC (FIN.o q8 c8 w8 h81 h82);clear h81 h82)
         go_roundw
         case rel=>exact⟨t+1,q8,c8,now2,is5,rs6,rfl,by go_num,by omega,hpl7,HPB2.o,R8.o,T9.o.1,T9.o.2⟩
         case measure=>simp only [intOf];omega
        ·have i5:(mx==-1)=false:=by simpa using hm1
         clear i4 hm1;go_wp2_with (go_at_call 37;(with_reducible refine(RC.o).mono ?_);rintro e w8 ⟨q8,c8,rfl,h81,h82⟩;have R8:=aC (FIN.o q8 c8 w8 h81 h82);clear h81 h82)
         go_roundw
         case rel=>exact⟨t+1,q8,c8,now2,is5,rs6,rfl,by go_num,by omega,hpl7,HPB2.o,R8.o,T9.o.1,T9.o.2⟩
         case measure=>simp only [intOf];omega
       ·have i2:¬ (k2:Int)<=(H.L.s.size:Int):=by have:=HN.o;omega
        clear i4;go_wp2_with (go_at_call 37;(with_reducible refine(RC.o).mono ?_);rintro e w8 ⟨q8,c8,rfl,h81,h82⟩;have R8:=aC (FIN.o q8 c8 w8 h81 h82);clear h81 h82)
        go_roundw
        case rel=>exact⟨t+1,q8,c8,now2,is5,rs6,rfl,by go_num,by omega,hpl7,HPB2.o,R8.o,T9.o.1,T9.o.2⟩
        case measure=>simp only [intOf];omega
  ·have i0:¬ (0:Int) < (now.length:Int):=by omega
   have RC:=aC (dR R4.o.br (by rw [R4.o.ln];omega));have HE:Hid (gV H.L z.1.2 a (fH is is.length)):=mN fun x=>by
    rw [HPS.o];exact bR2 S4.o C4.o (fun j hj=>by have:=List.length_pos_of_mem hj;omega) x
   have HLN:=aC R4.o.ln;rw [HLN.o] at RC HE;go_wp2_with (go_at_call 37;(with_reducible refine(RC.o).mono ?_);rintro e w7 ⟨q6,c6,rfl,h61,h62⟩;have L6:=aC h61;have B6:=aC h62;clear h61 h62)
   go_ret;exact qB R4.o.ps L6.o B6.o HE.o HBS.o
end
section
attribute [local go_sem] Oper.semAt_some aS
variable {H:Gh} {rs rs' rs'':lOn} {wk:Int} {mu:Bool}
theorem yX{n:Nat}(hp:PlC H n)(hk:Gk H){w:World}(hw:WM H w rs wk mu){i a:Nat}{z:Zl}(hz:H.Z[i]?=some z)(hn:z.1.2.sz<=n+1)(hpl:PlT H.L z.1.2)(ha:a<=H.L.s.size)(hkd:z.1.2.f.k=1\/z.1.2.f.k=2\/z.1.2.f.k=3\/z.1.2.f.k=4) :
  Calls Tryz.prog 97 #[.pointer (some ⟨H.b,0,none⟩),.I (i:Int),.I (a:Int)] w (kU H w rs wk mu z.1.2 a):=by
 have HK:=aC hk;have HZ:=aC hz;have HSZ:=aC hn;have hil:=(m7.1 hz).1;have iil:(i:Int) < (H.Z.length:Int):=by omega
 have hlen:=hk.len;have hsm:=hk.sm;have HBS:Hid (H.base<=w.heap.size):=aC (m8 hw.bb (aBD hw.b_lt));have HPB:=aC hw.pb_lt;have HPL:=aC hpl;have HP:=aC hp;have HNP:=aC (((aQ z.1.2).1 (hk.npz hz)).1);have c0:=hw.cell (i:=0) rfl;have c1:=hw.cell (i:=1) rfl;have y0:=hw.z.cells hz (j:=0) (v:=.I z.1.2.f.k) rfl;have y1:=hw.z.cells hz (j:=1) (v:=.I z.1.2.f.n) rfl;have y2:=hw.z.cells hz (j:=2) (v:=.I z.1.2.f.mn) rfl;have y3:=hw.z.cells hz (j:=3) (v:=.I z.1.2.f.mx) rfl;have y4:=hw.z.cells hz (j:=4) (v:=.slice z.1.2.f.rq z.1.2.f.rs.length z.1.2.f.rc) rfl;have y5:=hw.z.cells hz (j:=5) (v:=.slice z.1.2.f.kq z.1.2.f.kl z.1.2.f.kc) rfl;rw [aAQ] at y0;obtain⟨N,hN⟩:∃ N,H.L.s.size+1=N:=⟨_,rfl⟩;have hwN:IntKind.wrap .i64 ((H.L.s.size:Int)+1)=(N:Int):=by rw [wrap_small _ (by omega) (by omega)];omega
 have MB:=eZ N (by omega);have HN:=aC hN;have hN1:N<=1001:=by omega
 have haN:(a:Int) < (N:Int):=by omega
 clear hN;have B0:Hid (wBl w (w.alloc (.cells (nDf z.1.2.f) 25))):=bz9;have N0:Hid (BoxN (w.alloc (.cells (nDf z.1.2.f) 25)) w.heap.size z.1.2.f):=aE w _;have P0:Hid (PS H w rs wk mu (w.alloc (.cells (nDf z.1.2.f) 25)) rs):=(PS.refl hw).below B0.o;clear hw hk hz hn hpl hp;go_enter Tryz.func97,Tryz.ntmps97;go_upto_region 2 with fail
 generalize (w.alloc (.cells (nDf z.1.2.f) 25))=w1 at B0 N0 P0 ⊢;have d1:=P0.o.wm.cell (i:=1) rfl;clear c0 c1 y0 y1 y2 y3 y4 y5;go_upto_region 3 with fail
 have B2:Hid (wBl w1 (w1.alloc (.cells (noC N) 4))):=bz9;have R2:Hid (BR w.heap.size (w1.alloc (.cells (noC N) 4)) w1.heap.size N (cZ N)):=kR B0.o.size (by omega);have P2:=aC (P0.o.below B2.o);have N2:Hid (BoxN (w1.alloc (.cells (noC N) 4)) w.heap.size z.1.2.f):=(B2.o.block _ (aB N0.o)).trans N0.o;generalize (w1.alloc (.cells (noC N) 4))=w2 at R2 P2 N2 ⊢;generalize w1.heap.size=g2 at R2 ⊢;clear d1 B0 N0 P0 B2;have HNL:Hid ((cZ N).length=N):=aC (dO N);obtain⟨n0,n1,n2,n3,n4,n5⟩:=N2.o.six;simp only [m9] at n1 n2 n3 n4 n5;have e5:(z.1.2.f.k==5)=false:=by simp;omega
 have e6:(z.1.2.f.k==6)=false:=by simp;omega
 have e7:(z.1.2.f.k==7)=false:=by simp;omega
 have e9:(z.1.2.f.k==9)=false:=by simp;omega
 have HPS:Hid (∀ x,Ps H.L z.1.2 a x ↔ dP H.L z.1.2.f a=some x):=fun x=>bK7 hkd a x;have HAR:Hid (ArgR w2 (.slice z.1.2.f.rq z.1.2.f.rs.length z.1.2.f.rc) z.1.2.f.rs):=by
  have:=gN H.t [] P2.o.wm.ta z.1 (n7 (HK.o.at HZ.o));exact((aQ _).1 this).1.r
 have LC:=aC (bA7 P2.o.wm z.1.2.f a ha (by omega) HAR.o);have hle:Hid (∀ j,dP H.L z.1.2.f a=some j->j<=H.L.s.size):=fun j h=>(sY h ha).2;obtain⟨o,ho⟩:∃ o,dP H.L z.1.2.f a=o:=⟨_,rfl⟩;rw [ho] at HPS LC hle;clear hkd ho
 cases o with
 | none=>
  have LC':Hid (Calls Tryz.prog 124 #[.pointer (some ⟨H.b,0,none⟩),.agg (nDf z.1.2.f),.I (a:Int)] w2 fun e w'=>e=.returned (.I (-1))/\wBl w2 w'):=LC;clear LC;go_upto_region 45 with (go_at_call 124;(with_reducible refine(LC'.o).mono ?_);rintro e w5 ⟨rfl,h5⟩;have B5:=aC h5;clear h5)
  have R5:=aC (R2.o.kept B5.o);have P5:=aC (P2.o.below B5.o);have RC:=aC (dR R5.o (by rw [HNL.o];omega));have HE:Hid (gV H.L z.1.2 a (fH (cZ N) (cZ N).length)):=mN fun j=>⟨fun h=>absurd h eS,fun h=>by have:=(HPS.o j).1 h;cases this⟩;rw [HNL.o] at RC HE;clear n0 n1 n2 n3 n4 n5;go_wp2_with (go_at_call 37;(with_reducible refine(RC.o).mono ?_);rintro e w6 ⟨q6,c6,rfl,h61,h62⟩;have L6:=aC h61;have B6:=aC h62;clear h61 h62)
  go_ret;exact qB P5.o L6.o B6.o HE.o HBS.o
 | some x=>
  have LC':Hid (Calls Tryz.prog 124 #[.pointer (some ⟨H.b,0,none⟩),.agg (nDf z.1.2.f),.I (a:Int)] w2 fun e w'=>e=.returned (.I (x:Int))/\wBl w2 w'):=LC;clear LC;have hx:=hle.o x rfl;have i0:(0:Int)<=(x:Int):=by omega
  have i1:(x:Int) < (N:Int):=by have:=HN.o;omega
  go_upto_region 5 with (go_at_call 124;(with_reducible refine(LC'.o).mono ?_);rintro e w5 ⟨rfl,h5⟩;have B5:=aC h5;clear h5)
  have R5:=aC (R2.o.kept B5.o);have P5:=aC (P2.o.below B5.o);have hfz:=R5.o.frz x;obtain⟨b0,hb0⟩:∃ b,w5.cell? ⟨g2,x,none⟩=some (.bool b):=⟨_,R5.o.cell (i9 (by rw [HNL.o];have:=HN.o;omega))⟩;clear n0 n1 n2 n3 n4 n5;go_upto_region 45 with fail
  have R6:=aC (R5.o.put x true);have P6:=aC (P5.o.put R5.o ((Fr.refl (fun k=>k=g2) w5).setCell (p:=⟨g2,x,none⟩) rfl (.bool true)) R5.o.lo HBS.o HPB.o);generalize (w5.setCell ⟨g2,x,none⟩ (.bool true))=w6 at R6 P6 ⊢;have HL6:Hid (((cZ N).set x true).length=N):=aC (by rw [aAV,dO]);have RC:=aC (dR R6.o (by rw [HL6.o];omega));have HE:Hid (gV H.L z.1.2 a (fH ((cZ N).set x true) ((cZ N).set x true).length)):=mN fun j=>by
   rw [pL (by rw [HNL.o];have:=HN.o;omega),HPS.o];constructor
   ·rintro (h | h)
    ·exact absurd h eS
    ·rw [h]
   ·intro h;exact .inr (t6 h).symm
  rw [HL6.o] at RC HE;go_wp2_with (go_at_call 37;(with_reducible refine(RC.o).mono ?_);rintro e w7 ⟨q6,c6,rfl,h61,h62⟩;have L6:=aC h61;have B6:=aC h62;clear h61 h62)
  go_ret;exact qB P6.o L6.o B6.o HE.o HBS.o
end
end Go.Proofs.YtdgfpiekjigfnaaGreatDoor
