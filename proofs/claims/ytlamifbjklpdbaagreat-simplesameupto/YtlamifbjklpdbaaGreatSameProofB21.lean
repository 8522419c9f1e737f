/-
  Parts of the proof.
-/
import Derived.Test.YtlamifbjklpdbaaGreatSameProofA0
import Derived.Test.YtlamifbjklpdbaaGreatSameProofA1
import Derived.Test.YtlamifbjklpdbaaGreatSameProofB20
import Derived.Test.YtlamifbjklpdbaaGreatSameProofB14
import Derived.Test.YtlamifbjklpdbaaGreatSameProofB13
import Derived.Test.YtlamifbjklpdbaaGreatSameProofB11
set_option maxRecDepth 100000
set_option maxHeartbeats 8000000
namespace Go.Proofs.YtlamifbjklpdbaaGreat
open Go Go.RowKit
noncomputable def rlR (a b:Int) (x:Ps):Nat->Option Ps
 | 0=>if a=1/\b=1 then some x else none
 | 1=>if a=0/\b=-1/\kS x=true then some x else none
 | 2=>if b=0/\grs x=0 then some (.row []) else none
 | 3=>if isE x then some (.row []) else none
 | _+4=>none
noncomputable def rlB (l:List Ps):Nat->Option Ps
 | 0=>none
 | 1=>none
 | 2=>none
 | 3=>none
 | 4=>if l.any isE then some (mkB (l.filter fun x=>!isE x)) else none
 | _+5=>none
noncomputable def rlA (l:List Ps):Nat->Option Ps
 | 0=>none
 | 1=>none
 | 2=>none
 | 3=>none
 | 4=>none
 | 5=>if 2<=(l.filter isS).length then some (mkP (bV (unC ((l.filter isS).flatMap rsP)) false l)) else none
 | 6=>if (aW [] l).length=l.length then none else some (mkP (aW [] l))
 | _+7=>none
noncomputable def rl (j:Nat):Ps->Option Ps
 | .rep a b x=>rlR a b x j
 | .row l=>rlB l j
 | .alt l=>rlA l j
 | .lf _ _ _=>none
 | .grp _ _=>none
def rk(j:Nat):Int:=if j<4 then 9 else if j=4 then 5 else 6
theorem sZ{z:Ps}(h:Nd z)(e:z.kd=9):∃ a b x,z=.rep a b x:=by
 cases z with
 | lf k n rs=>have:=h.sh;simp only [shp] at this;simp only [Ps.kd] at e;omega
 | grp n y=>simp [Ps.kd] at e
 | rep a b x=>exact⟨a,b,x,rfl⟩
 | row l=>simp only [Ps.kd] at e;split at e <;> omega
 | alt l=>simp [Ps.kd] at e
theorem bL8{z:Ps}(h:Nd z)(e:z.kd=5):∃ l,z=.row l/\l≠[]:=by
 cases z with
 | lf k n rs=>have:=h.sh;simp only [shp] at this;simp only [Ps.kd] at e;omega
 | grp n y=>simp [Ps.kd] at e
 | rep a b x=>simp [Ps.kd] at e
 | row l=>exact⟨l,rfl,fun q=>by subst q;simp [Ps.kd] at e⟩
 | alt l=>simp [Ps.kd] at e
theorem aP8{z:Ps}(h:Nd z)(e:z.kd=6):∃ l,z=.alt l:=by
 cases z with
 | lf k n rs=>have:=h.sh;simp only [shp] at this;simp only [Ps.kd] at e;omega
 | grp n y=>simp [Ps.kd] at e
 | rep a b x=>simp [Ps.kd] at e
 | row l=>simp only [Ps.kd] at e;split at e <;> omega
 | alt l=>exact⟨l,rfl⟩
theorem iO{z:Ps}{j:Nat}(h:z.kd≠rk j):rl j z=none:=by
 unfold rk at h
 cases z with
 | lf k n rs=>rfl
 | grp n y=>rfl
 | rep a b x=>
  simp only [Ps.kd] at h
  match j,h with
  | 0,h=>simp at h
  | 1,h=>simp at h
  | 2,h=>simp at h
  | 3,h=>simp at h
  | j+4,_=>rfl
 | row l=>
  match j,h with
  | 0,_=>rfl
  | 1,_=>rfl
  | 2,_=>rfl
  | 3,_=>rfl
  | 4,h=>
   have:l=[]:=by
    cases l with
    | nil=>rfl
    | cons=>simp [Ps.kd] at h
   subst this
   rfl
  | j+5,_=>rfl
 | alt l=>
  simp only [Ps.kd] at h
  match j,h with
  | 0,_=>rfl
  | 1,_=>rfl
  | 2,_=>rfl
  | 3,_=>rfl
  | 4,_=>rfl
  | j+5,h=>simp at h
theorem aM0{z z':Ps}{j:Nat}(h:∀ i,i<j->rl i z=none)(e:rl j z=some z'):stp unC z=some z':=by
 cases z with
 | lf k n rs=>cases e
 | grp n y=>cases e
 | rep a b x=>
  have no:∀ {p:Prop} [Decidable p] {v:Ps},(if p then some v else none)=none->¬ p:=fun {p} _ {v} q hp=>by rw [if_pos hp] at q;cases q
  have yes:∀ {p:Prop} [Decidable p] {v:Ps},(if p then some v else none)=some z'->p/\v=z':=fun {p} _ {v} q=>by
   by_cases hp:p
   ·rw [if_pos hp] at q;cases q;exact⟨hp,rfl⟩
   ·rw [if_neg hp] at q;cases q
  simp only [stp]
  match j,h,e with
  | 0,h,e=>
   obtain⟨h1,rfl⟩:=yes e;rw [if_pos h1]
  | 1,h,e=>
   obtain⟨h1,rfl⟩:=yes e;rw [if_neg (no (h 0 (by omega))),if_pos h1]
  | 2,h,e=>
   obtain⟨h1,rfl⟩:=yes e;rw [if_neg (no (h 0 (by omega))),if_neg (no (h 1 (by omega))),if_pos h1]
  | 3,h,e=>
   obtain⟨h1,rfl⟩:=yes e;rw [if_neg (no (h 0 (by omega))),if_neg (no (h 1 (by omega))),if_neg (no (h 2 (by omega))),if_pos h1]
  | j+4,h,e=>cases e
 | row l=>
  match j,e with
  | 0,e=>cases e
  | 1,e=>cases e
  | 2,e=>cases e
  | 3,e=>cases e
  | 4,e=>exact e
  | j+5,e=>cases e
 | alt l=>
  match j,h,e with
  | 0,_,e=>cases e
  | 1,_,e=>cases e
  | 2,_,e=>cases e
  | 3,_,e=>cases e
  | 4,_,e=>cases e
  | 5,_,e=>
   simp only [rl,rlA] at e;simp only [stp];by_cases h2:2<=(l.filter isS).length
   ·rw [if_pos h2] at e ⊢;exact e
   ·rw [if_neg h2] at e;cases e
  | 6,h,e=>
   have h5:=h 5 (by omega);simp only [rl,rlA] at e h5;simp only [stp];by_cases h2:2<=(l.filter isS).length
   ·rw [if_pos h2] at h5;cases h5
   ·rw [if_neg h2];exact e
  | j+7,_,e=>cases e
theorem aY3{z:Ps}(h:∀ i,i<7->rl i z=none):stp unC z=none:=by
 cases z with
 | lf k n rs=>rfl
 | grp n y=>rfl
 | rep a b x=>
  have no:∀ {p:Prop} [Decidable p] {v:Ps},(if p then some v else none)=none->¬ p:=fun {p} _ {v} q hp=>by rw [if_pos hp] at q;cases q
  simp only [stp];rw [if_neg (no (h 0 (by omega))),if_neg (no (h 1 (by omega))),if_neg (no (h 2 (by omega))),if_neg (no (h 3 (by omega)))]
 | row l=>exact h 4 (by omega)
 | alt l=>
  have h5:=h 5 (by omega);have h6:=h 6 (by omega);simp only [rl,rlA] at h5 h6;simp only [stp];by_cases h2:2<=(l.filter isS).length
  ·rw [if_pos h2] at h5;cases h5
  ·rw [if_neg h2];exact h6
structure NS(c f:Bool)(z:Ps)(t:Tr):Prop where
 er:er t=te z
 nd:Nd z
 sg:∀ s∈pfl z,dG c f s
 sz:z.sz<=2000
theorem NS.tsz{c f:Bool}{z:Ps}{t:Tr}(h:NS c f z t):t.sz<=2000:=by rw [<- mT,h.er,pJ];exact h.sz
theorem pK{t:Tr}{a b:Int}{x:Ps}(e:er t=te (.rep a b x)):t.f.k=9/\t.f.mn=a/\t.f.mx=b/\∃ u,t.ks=[u]/\er u=te x:=by
 rw [bY,te] at e;injection e with e1 e2 e3 e4 e5 e6;refine⟨e1,e3,e4,?_⟩;generalize t.ks=ks at e6
 match ks,e6 with
 | [],e6=>simp at e6
 | [u],e6=>exact⟨u,rfl,by simpa using e6⟩
 | u :: v :: r,e6=>simp at e6
theorem bG5{t:Tr}{l:List Ps}(hl:l≠[])(e:er t=te (.row l)):t.f.k=5/\t.ks.map er=l.map te:=by
 rw [bY,te,if_neg (by cases l with | nil=>exact absurd rfl hl | cons=>simp),bP] at e;injection e with e1 e2 e3 e4 e5 e6;exact⟨e1,e6⟩
theorem aJ5{t:Tr}{l:List Ps}(e:er t=te (.alt l)):t.f.k=6/\t.ks.map er=l.map te:=by
 rw [bY,te,bP] at e;injection e with e1 e2 e3 e4 e5 e6;exact⟨e1,e6⟩
theorem yU:te (.row [])=.mk 1 0 0 0 [] []:=by rw [te];rfl
theorem aQ1{x:Ps}(hw:wf x):(x.kd==1)=isE x:=by
 cases x with
 | lf k n rs=>have:=kT hw;simp only [Ps.kd,isE,n7];omega
 | grp n y=>rfl
 | rep a b y=>rfl
 | row l=>cases l <;> rfl
 | alt l=>rfl
theorem bD1{u:Tr}{x:Ps}(hw:wf x)(e:er u=te x):nE u.f=kS x:=by
 have hk:u.f.k=x.kd:=by rw [<- dR,e,dS]
 cases x with
 | rep a b y=>
  obtain⟨h1,h2,h3,-⟩:=pK e;unfold nE kS;rw [h1,h2,h3]
  rfl
 | lf k n rs=>
  have h1:=kT hw;have h2:(k==9)=false:=by rw [n7];omega
  unfold nE kS;rw [hk];simp only [Ps.kd,h2,Bool.false_and]
 | grp n y=>unfold nE kS;rw [hk];rfl
 | row l=>unfold nE kS;rw [hk];cases l <;> rfl
 | alt l=>unfold nE kS;rw [hk];rfl
theorem RSays.of{base:Nat}{w:World}{o:Option Er}{t':Tr}{b:Bool}{e:Ending}{w':World}(h1:e=.returned (.tuple #[.agg #[.I t'.f.k,.I t'.f.n,.I t'.f.mn,.I t'.f.mx,.slice t'.f.rq t'.f.rs.length t'.f.rc,.slice t'.f.kq t'.f.kl t'.f.kc],.bool b]))(h2:wBl w w')(hb:o.isSome=b)(ht:TA w' t')(hf:Foot (fun k=>base<=k) t')(he:∀ x,o=some x->er t'=x):RSays base w o e w':=
 ⟨t'.f,by rw [hb];exact h1,h2,fun x hx=>⟨t',rfl,ht,hf,he x hx⟩⟩
theorem vF{N:Nat->Prop}{t u:Tr}(h:Foot N t)(hu:u∈t.ks):Foot N u:=cB h hu
theorem aL3{c f:Bool}{z:Ps}{t:Tr}{V:World}{base:Nat}(h:NS c f z t)(ht:TA V t)(hf:Foot (fun k=>base<=k) t)(hk:z.kd=9):Calls Tryz.prog 42 #[.agg (nDf t.f)] V (RSays base V ((rl 0 z).map te)):=by
 obtain⟨a,b,x,rfl⟩:=sZ h.nd hk;obtain⟨-,e2,e3,u,e4,e5⟩:=pK h.er;have hu:u∈t.ks:=by rw [e4];simp
 refine(aD8 ht.tb e4).mono fun e w' ⟨h1,h2⟩=>RSays.of h1 h2 ?_ ((ht.kept h2).kid hu) (vF hf hu) fun y hy=>?_
 ·unfold bK1;rw [e2,e3];simp only [rl,rlR];by_cases q:a=1/\b=1
  ·rw [if_pos q,q.1,q.2];rfl
  ·rw [if_neg q];simp only [Option.map_none,Option.isSome_none]
   symm
   simpa using q
 ·simp only [rl,rlR] at hy;by_cases q:a=1/\b=1
  ·rw [if_pos q] at hy;cases hy;exact e5
  ·rw [if_neg q] at hy;cases hy
theorem aC2{c f:Bool}{z:Ps}{t:Tr}{V:World}{base:Nat}(h:NS c f z t)(ht:TA V t)(hf:Foot (fun k=>base<=k) t)(hk:z.kd=9):Calls Tryz.prog 43 #[.agg (nDf t.f)] V (RSays base V ((rl 1 z).map te)):=by
 obtain⟨a,b,x,rfl⟩:=sZ h.nd hk;obtain⟨e1,e2,e3,u,e4,e5⟩:=pK h.er;have hu:u∈t.ks:=by rw [e4];simp
 have hx:=bD1 (h.nd.kw x (by simp [Ps.kids])) e5;refine(pH ht.tb e4).mono fun e w' ⟨h1,h2⟩=>RSays.of h1 h2 ?_ ((ht.kept h2).kid hu) (vF hf hu) fun y hy=>?_
 ·rw [hx];unfold nE;rw [e1,e2,e3];simp only [rl,rlR];by_cases q:a=0/\b=-1/\kS x=true
  ·rw [if_pos q,q.1,q.2.1,q.2.2];rfl
  ·rw [if_neg q];simp only [Option.map_none,Option.isSome_none]
   symm
   simpa using q
 ·simp only [rl,rlR] at hy;by_cases q:a=0/\b=-1/\kS x=true
  ·rw [if_pos q] at hy;cases hy;exact e5
  ·rw [if_neg q] at hy;cases hy
theorem aX5{c f:Bool}{z:Ps}{t:Tr}{V:World}{base:Nat}(h:NS c f z t)(ht:TA V t)(hk:z.kd=9):Calls Tryz.prog 44 #[.agg (nDf t.f)] V (RSays base V ((rl 2 z).map te)):=by
 obtain⟨a,b,x,rfl⟩:=sZ h.nd hk;obtain⟨e1,e2,e3,u,e4,e5⟩:=pK h.er;have hg:aN (pp [] t)=grs x:=by
  rw [rI,if_neg (by rw [e1];decide),e4];simp [bB0 x u e5 (h.nd.kw x (by simp [Ps.kids]))]
 have hl:¬ 2000<(pp [] t).length:=by rw [bL];have:=h.tsz;omega
 refine(aO2 ht.tb).mono fun e w' ⟨h1,h2⟩=>RSays.of (t':=.mk (gB 1) []) h1 h2 ?_ (tI _ _) (kN _ _) fun y hy=>?_
 ·rw [if_neg hl,hg,e3];simp only [rl,rlR];by_cases q:b=0/\grs x=0
  ·rw [if_pos q,q.1,q.2];rfl
  ·rw [if_neg q];simp only [Option.map_none,Option.isSome_none]
   symm
   simp only [Bool.and_eq_false_iff,n7];omega
 ·simp only [rl,rlR] at hy;by_cases q:b=0/\grs x=0
  ·rw [if_pos q] at hy;cases hy;rw [yU,bY];rfl
  ·rw [if_neg q] at hy;cases hy
theorem sE{c f:Bool}{z:Ps}{t:Tr}{V:World}{base:Nat}(h:NS c f z t)(ht:TA V t)(hk:z.kd=9):Calls Tryz.prog 45 #[.agg (nDf t.f)] V (RSays base V ((rl 3 z).map te)):=by
 obtain⟨a,b,x,rfl⟩:=sZ h.nd hk;obtain⟨-,-,-,u,e4,e5⟩:=pK h.er;have hu:u.f.k=x.kd:=by rw [<- dR,e5,dS]
 refine(nH ht.tb e4).mono fun e w' ⟨h1,h2⟩=>RSays.of (t':=.mk (gB 1) []) h1 h2 ?_ (tI _ _) (kN _ _) fun y hy=>?_
 ·rw [hu,aQ1 (h.nd.kw x (by simp [Ps.kids]))];simp only [rl,rlR];cases isE x <;> rfl
 ·simp only [rl,rlR] at hy
  cases hx:isE x with
  | true=>rw [hx,if_pos rfl] at hy;cases hy;rw [yU,bY];rfl
  | false=>rw [hx,if_neg (by decide)] at hy;cases hy
theorem RSays.mono{base base':Nat}{w:World}{o o':Option Er}{e:Ending}{w':World}(h:RSays base' w o e w')(hb:base<=base')(ho:o=o'):RSays base w o' e w':=by
 subst ho;obtain⟨f',h1,h2,h3⟩:=h;exact⟨f',h1,h2,fun x hx=>by obtain⟨t',q1,q2,q3,q4⟩:=h3 x hx;exact⟨t',q1,q2,q3.mono fun k hk=>o0 hb hk,q4⟩⟩
theorem aF2(m:List Ps):gI 5 (m.map te) (.mk 1 0 0 0 [] [])=te (mkB m):=by
 match m with
 | []=>exact yU.symm
 | [x]=>rfl
 | x :: y :: r=>show Er.mk 5 0 0 0 [] _=te (.row _);rw [te,if_neg (by simp),bP];rfl
theorem rG{m:List Ps}(h:m≠[]):gI 6 (m.map te) (.mk 2 0 0 0 [] [])=te (mkP m):=by
 match m,h with
 | [x],_=>rfl
 | x :: y :: r,_=>show Er.mk 6 0 0 0 [] _=te (.alt _);rw [te,bP];rfl
theorem bC5:∀ (ks:List Tr) (l:List Ps),ks.map er=l.map te->(∀ x∈l,iB x=true\/x=.row [])->(∀ x∈l,wf x)->(ks.flatMap dX).map er=(l.filter fun x=>!isE x).map te/\ks.any vA=l.any isE:=by
 intro ks
 induction ks with
 | nil=>intro l e _ _;cases l with
  | nil=>exact⟨rfl,rfl⟩
  | cons=>simp at e
 | cons u ks ih=>
  intro l e hi hw
  cases l with
  | nil=>simp at e
  | cons x l=>
   rw [s6,s6] at e;injection e with e1 e2;obtain⟨h1,h2⟩:=ih l e2 (fun y hy=>hi y (m9 _ hy)) (fun y hy=>hw y (m9 _ hy));have hk:u.f.k=x.kd:=(by rw [<- dR,e1,dS]);have hE:=aQ1 (hw x (n9 ..));have hu:vA u=isE x:=(by unfold vA;rw [hk];exact hE);rw [aCC,aCC,h2,hu,aAN,aAK,h1,aAV];refine⟨?_,rfl⟩
   cases hx:isE x with
   | true=>
    rw [hx] at hE;have:dX u=[]:=(by unfold dX;rw [if_pos (by rw [hk];simpa using hE)]);rw [this];simp
   | false=>
    rw [hx] at hE;have h5:x.kd≠5:=by
     rcases hi x (n9 ..) with q | q
     ·cases x with
      | lf k n rs=>have:=kT (hw _ (n9 ..));simp only [Ps.kd];omega
      | grp n y=>simp [Ps.kd]
      | rep a b y=>simp [Ps.kd]
      | row l=>cases q
      | alt l=>cases q
     ·subst q;simp [Ps.kd]
    have:dX u=[u]:=(by unfold dX;rw [if_neg (by rw [hk];simpa using hE),if_neg (by rw [hk];exact h5)]);rw [this];simp [e1]
theorem tY{c f:Bool}{z:Ps}{t:Tr}{V:World}{base:Nat}(h:NS c f z t)(ht:TA V t)(hb:base<=V.heap.size)(hk:z.kd=5):Calls Tryz.prog 46 #[.agg (nDf t.f)] V (RSays base V ((rl 4 z).map te)):=by
 obtain⟨l,rfl,hl⟩:=bL8 h.nd hk;obtain⟨-,e2⟩:=bG5 hl h.er;obtain⟨h1,h2⟩:=bC5 t.ks l e2 h.nd.sh.2 h.nd.kw;refine(oI ht h.tsz).mono fun e w' q=>q.mono hb ?_;rw [h1,h2,aF2];simp only [rl,rlB]
 split <;> rfl
theorem aA4{m:List Ps}(h:∀ x∈m,kQ x=true)(hw:∀ x∈m,wf x):((m.map te).flatMap fun e=>if e.kd=6 then e.ks else [e])=m.map te:=by
 induction m with
 | nil=>rfl
 | cons x m ih=>
  rw [s6,aAN,ih (fun y hy=>h y (m9 _ hy)) (fun y hy=>hw y (m9 _ hy)),dS];have:x.kd≠6:=by
   have h1:=h x (n9 ..)
   cases x with
   | lf k n rs=>have:=kT (hw _ (n9 ..));simp only [Ps.kd];omega
   | grp n y=>simp [Ps.kd]
   | rep a b y=>simp [Ps.kd]
   | row l=>simp only [Ps.kd];split <;> omega
   | alt l=>cases h1
  rw [if_neg this]
  rfl
theorem aQ0{x:Ps}(hw:wf x):isS x=decide (x.kd=2):=by
 cases x with
 | lf k n rs=>simp only [isS,Ps.kd];rfl
 | grp n y=>rfl
 | rep a b y=>rfl
 | row l=>cases l <;> rfl
 | alt l=>rfl
theorem aW9:∀ (ks:List Tr) (l:List Ps),ks.map er=l.map te->(∀ x∈l,wf x)->(ks.filter fX).length=(l.filter isS).length/\((ks.filter fX).flatMap fun u=>u.f.rs)=(l.filter isS).flatMap rsP:=by
 intro ks
 induction ks with
 | nil=>intro l e _;cases l with
  | nil=>exact⟨rfl,rfl⟩
  | cons=>simp at e
 | cons u ks ih=>
  intro l e hw
  cases l with
  | nil=>simp at e
  | cons x l=>
   rw [s6,s6] at e;injection e with e1 e2;obtain⟨h1,h2⟩:=ih l e2 (fun y hy=>hw y (m9 _ hy));have hs:fX u=isS x:=(by unfold fX;rw [aQ0 (hw x (n9 ..)),<- dR,e1,dS]);rw [aAV,aAV,hs]
   cases hx:isS x with
   | true=>
    rw [if_pos rfl,if_pos rfl,o7,o7,h1,aAN,aAN,h2];refine⟨rfl,?_⟩
    congr 1
    obtain⟨n,rs,rfl⟩:=xZ hx;rw [<- yF,e1,te]
    rfl
   | false=>rw [if_neg (by decide),if_neg (by decide)];exact⟨h1,h2⟩
theorem aX3(u:lIi):∀ (l:List Ps) (s:Bool),(∀ x∈l,wf x)->(∀ n rs,.lf 2 n rs∈l->n=0)->mB u s (l.map te)=(bV u s l).map te:=by
 intro l
 induction l with
 | nil=>intro s _ _;rfl
 | cons x l ih=>
  intro s hw h0;have ih':=fun s=>ih s (fun y hy=>hw y (m9 _ hy)) (fun n rs hm=>h0 n rs (m9 _ hm));rw [s6,mB,bV,dS];have hs:=aQ0 (hw x (n9 ..));by_cases hk:x.kd=2
  ·have hx:isS x=true:=by rw [hs];simpa using hk
   rw [if_pos hk,if_pos hx]
   cases s with
   | true=>rw [if_pos rfl,if_pos rfl];exact ih' true
   | false=>
    rw [if_neg (by decide),if_neg (by decide),s6,ih' true]
    congr 1
    obtain⟨n,rs,rfl⟩:=xZ hx;rw [h0 n rs (n9 ..),te,te]
    rfl
  ·have hx:¬ isS x=true:=by rw [hs];simpa using hk
   rw [if_neg hk,if_neg hx,s6,ih' s]
theorem aN4{l:List Ps}{k n:Int}{rs:lIi}(h:.lf k n rs∈l):Sgn.lf k n rs∈pfl (.alt l):=by rw [pfl];exact kE h (by rw [pfl];simp)
theorem aC3{c f:Bool}{z:Ps}{t:Tr}{V:World}{base:Nat}(h:NS c f z t)(ht:TA V t)(hb:base<=V.heap.size)(hk:z.kd=6):Calls Tryz.prog 47 #[.agg (nDf t.f)] V (RSays base V ((rl 5 z).map te)):=by
 obtain⟨l,rfl⟩:=aP8 h.nd hk;obtain⟨-,e2⟩:=aJ5 h.er;obtain⟨h1,h2⟩:=aW9 t.ks l e2 h.nd.kw;have hset:∀ n rs,.lf 2 n rs∈l->lC c f rs/\n=0:=fun n rs hm=>(h.sg _ (aN4 hm)).1 rfl;have hrl:∀ u∈t.ks,u.f.rs.length<=600000:=fun u hu=>by
  have hm:er u∈l.map te:=by rw [<- e2];exact s4.2 ⟨u,hu,rfl⟩
  obtain⟨x,hx,ex⟩:=s4.1 hm;rw [<- yF,<- ex]
  cases x with
  | lf k n rs=>
   rw [te];show rs.length<=_;by_cases hk2:k=2
   ·subst hk2;exact mA (hset n rs hx).1.1
   ·rw [(h.sg _ (aN4 hx)).2.1 hk2];simp
  | grp n y=>rw [te];simp [Er.rgs]
  | rep a b y=>rw [te];simp [Er.rgs]
  | row m=>rw [te];split <;> simp [Er.rgs]
  | alt m=>rw [te];simp [Er.rgs]
 refine(rR ht h.tsz hrl).mono fun e w' q=>q.mono hb ?_;unfold aN6;rw [h1,h2,e2];simp only [rl,rlA];by_cases hn:2<=(l.filter isS).length
 ·rw [if_pos hn,if_pos hn,aX3 _ l false h.nd.kw (fun n rs hm=>(hset n rs hm).2)];have hmem:∀ y∈bV (unC ((l.filter isS).flatMap rsP)) false l,wf y/\kQ y=true:=fun y hy=>by
   rcases fP _ l false y hy with rfl | hy
   ·exact⟨by rw [wf];exact .inl rfl,rfl⟩
   ·exact⟨h.nd.kw y hy.1,h.nd.sh.2 y hy.1⟩
  rw [aA4 (fun y hy=>(hmem y hy).2) (fun y hy=>(hmem y hy).1),rG (tW _ l fun e=>by rw [e] at hn;simp at hn)]
  rfl
 ·rw [if_neg hn,if_neg hn];rfl
theorem bG1:∀ (ks:List Tr) (l:List Ps) (A:List Tr) (B:List Ps),ks.map er=l.map te->A.map er=B.map te->(∀ x∈l,wf x)->(∀ x∈B,wf x)->(twT A ks).map er=(aW B l).map te:=by
 intro ks
 induction ks with
 | nil=>intro l A B e hA _ _;cases l with
  | nil=>rw [twT,aW];exact hA
  | cons=>simp at e
 | cons u ks ih=>
  intro l A B e hA hw hB
  cases l with
  | nil=>simp at e
  | cons x l=>
   rw [s6,s6] at e;injection e with e1 e2;have hx:=hw x (n9 ..);have hw':∀ y∈l,wf y:=fun y hy=>hw y (m9 _ hy);have hiff:A.any (twB u)=true↔x∈B:=by
    rw [aAX];constructor
    ·rintro ⟨v,hv,hs⟩;have he:=(eU _ _).1 hs;have hm:er v∈B.map te:=(by rw [<- hA];exact s4.2 ⟨v,hv,rfl⟩);obtain⟨y,hy,ey⟩:=s4.1 hm;have:x=y:=bG7 x y hx (hB y hy) (by rw [<- e1,he,<- ey]);subst this;exact hy
    ·intro hm;have hm2:te x∈A.map er:=(by rw [hA];exact s4.2 ⟨x,hm,rfl⟩);obtain⟨v,hv,ev⟩:=s4.1 hm2;exact⟨v,hv,(eU _ _).2 (e1.trans ev.symm)⟩
   rw [twT,aW];by_cases hm:x∈B
   ·rw [if_pos (hiff.2 hm),if_pos hm];exact ih l A B e2 hA hw' hB
   ·rw [if_neg (fun q=>hm (hiff.1 q)),if_neg hm];exact ih l (A++[u]) (B++[x]) e2 (by rw [aAK,aAK,hA];simp [e1]) hw' (fun y hy=>by
     rcases o3.1 hy with q | q
     ·exact hB y q
     ·simp at q;subst q;exact hx)
theorem wT{c f:Bool}{z:Ps}{t:Tr}{V:World}{base:Nat}(h:NS c f z t)(ht:TA V t)(hb:base<=V.heap.size)(hk:z.kd=6):Calls Tryz.prog 48 #[.agg (nDf t.f)] V (RSays base V ((rl 6 z).map te)):=by
 obtain⟨l,rfl⟩:=aP8 h.nd hk;obtain⟨-,e2⟩:=aJ5 h.er;have ht2:=bG1 t.ks l [] [] e2 rfl h.nd.kw (fun _ q=>by cases q);have hl1:(twT [] t.ks).length=(aW [] l).length:=by have:=congrArg List.length ht2;simpa using this
 have hl2:t.ks.length=l.length:=by have:=congrArg List.length e2;simpa using this
 have hmem:∀ y∈aW [] l,y∈l:=fun y hy=>((cX l [] y).1 hy).resolve_left (fun q=>by cases q);refine(pA ht h.tsz).mono fun e w' q=>q.mono hb ?_;unfold twO;rw [hl1,hl2,wC,ht2,aA4 (fun y hy=>h.nd.sh.2 y (hmem y hy)) (fun y hy=>h.nd.kw y (hmem y hy))];simp only [rl,rlA];by_cases hn:(aW [] l).length=l.length
 ·rw [if_pos hn,if_pos hn];rfl
 ·rw [if_neg hn,if_neg hn,rG (pG fun e=>by have:=h.nd.sh.1;rw [e] at this;simp at this)];rfl
theorem aZ3(l:List Ps):pfl (mkB l)=eK l:=uS l
theorem bH2{c f:Bool}{z z':Ps}(h:Nd z)(hs:∀ s∈pfl z,dG c f s)(e:stp unC z=some z'):∀ s∈pfl z',dG c f s:=by
 have hno:∀ s∈pfl (.row []),dG c f s:=fun s hs=>by rw [pfl,eK] at hs;cases hs
 cases z with
 | lf k n rs=>cases e
 | grp n x=>cases e
 | rep a b x=>
  have hx:∀ s∈pfl x,dG c f s:=fun s hq=>hs s (by rw [pfl];simp [hq]);simp only [stp] at e;by_cases h1:a=1/\b=1
  ·rw [if_pos h1] at e;cases e;exact hx
  rw [if_neg h1] at e;by_cases h2:a=0/\b=-1/\kS x=true
  ·rw [if_pos h2] at e;cases e;exact hx
  rw [if_neg h2] at e;by_cases h3:b=0/\grs x=0
  ·rw [if_pos h3] at e;cases e;exact hno
  rw [if_neg h3] at e;by_cases h4:isE x=true
  ·rw [if_pos h4] at e;cases e;exact hno
  rw [if_neg h4] at e;cases e
 | row l=>
  simp only [stp] at e;by_cases ha:l.any isE=true
  ·rw [if_pos ha] at e;cases e;intro s q;rw [aZ3] at q;obtain⟨y,hy,q⟩:=(fB _ _).1 q;exact hs s (by rw [pfl];exact(fB _ _).2 ⟨y,(aAF.1 hy).1,q⟩)
  ·rw [if_neg ha] at e;cases e
 | alt l=>
  have hP:∀ m:List Ps,(∀ y∈m,∀ s∈pfl y,dG c f s)->∀ s∈pfl (mkP m),dG c f s:=by
   intro m hm s q
   match m,hm,q with
   | [],_,q=>rw [show mkP []=.alt [] from rfl,pfl,lH] at q;cases q
   | [x],hm,q=>exact hm x (by simp) s q
   | x :: y :: r,hm,q=>
    rw [show mkP (x :: y :: r)=.alt (x :: y :: r) from rfl,pfl] at q;rcases mI _ _ q with rfl | ⟨v,hv,q⟩
    ·trivial
    ·exact hm v hv s q
  have hl:∀ y∈l,∀ s∈pfl y,dG c f s:=fun y hy s q=>hs s (by rw [pfl];exact kE hy q);simp only [stp] at e;by_cases h2:2<=(l.filter isS).length
  ·rw [if_pos h2] at e;cases e;refine hP _ fun y hy=>?_;rcases fP _ l false y hy with rfl | hy
   ·intro s q;rw [pfl] at q;simp at q;subst q;exact wS fun x hx=>⟨(aAF.1 hx).2,hl x (aAF.1 hx).1⟩
   ·exact hl y hy.1
  ·rw [if_neg h2] at e;by_cases ht:(aW [] l).length=l.length
   ·rw [if_pos ht] at e;cases e
   ·rw [if_neg ht] at e;cases e;exact hP _ fun y hy=>hl y (((cX l [] y).1 hy).resolve_left (fun q=>by cases q))
theorem sX{t:Tr}{x:Ps}(e:er t=te x):t.ks.map er=x.kids.map te:=by
 rw [bY] at e
 cases x with
 | lf k n rs=>rw [te] at e;injection e
 | grp n y=>rw [te] at e;injection e
 | rep a b y=>rw [te] at e;injection e
 | row l=>
  rw [te] at e;by_cases h:l.isEmpty=true
  ·rw [if_pos h] at e;rw [List.isEmpty_iff.1 h];injection e
  ·rw [if_neg h,bP] at e;injection e
 | alt l=>rw [te,bP] at e;injection e
theorem bA5{t:Tr}{x:Ps}(e:er t=te x):Er.mk t.f.k t.f.n t.f.mn t.f.mx t.f.rs (x.kids.map fun y=>te (sim unC y))=te (gL unC x):=by
 rw [bY] at e
 cases x with
 | lf k n rs=>rw [te] at e;injection e with e1 e2 e3 e4 e5 e6;rw [e1,e2,e3,e4,e5];show _=te (.lf k n rs);rw [te];rfl
 | grp n y=>rw [te] at e;injection e with e1 e2 e3 e4 e5 e6;rw [e1,e2,e3,e4,e5];show _=te (.grp n _);rw [te];rfl
 | rep a b y=>rw [te] at e;injection e with e1 e2 e3 e4 e5 e6;rw [e1,e2,e3,e4,e5];show _=te (.rep a b _);rw [te];rfl
 | row l=>
  rw [te] at e;by_cases h:l.isEmpty=true
  ·rw [if_pos h] at e;injection e with e1 e2 e3 e4 e5 e6;rw [e1,e2,e3,e4,e5,List.isEmpty_iff.1 h];show _=te (.row []);rw [yU];rfl
  ·rw [if_neg h,bP] at e;injection e with e1 e2 e3 e4 e5 e6;rw [e1,e2,e3,e4,e5];show _=te (.row (l.map (sim unC)));rw [te,if_neg (by simpa using h),bP,List.map_map]
   rfl
 | alt l=>
  rw [te,bP] at e;injection e with e1 e2 e3 e4 e5 e6;rw [e1,e2,e3,e4,e5];show _=te (.alt (l.map (sim unC)));rw [te,bP,List.map_map]
  rfl
theorem oQ{x y:Ps}(h:y∈x.kids){s:Sgn}(hs:s∈pfl y):s∈pfl x:=by
 cases x with
 | lf k n rs=>cases h
 | grp n k=>simp [Ps.kids] at h;subst h;rw [pfl];simp [hs]
 | rep a b k=>simp [Ps.kids] at h;subst h;rw [pfl];simp [hs]
 | row l=>rw [pfl];exact(fB l s).2 ⟨y,h,hs⟩
 | alt l=>rw [pfl];exact kE h hs
theorem aK8{c f:Bool}{x:Ps}(h:∀ s∈pfl x,dG c f s):∀ s∈pfl (sim unC x),dG c f s:=
 aK9 unC (P:=dG c f) True.intro (fun _ hl _=>wS hl) x h
theorem bA7{c f:Bool}{x:Ps}(h:∀ s∈pfl x,dG c f s):∀ s∈pfl (gL unC x),dG c f s:=by
 have hk:∀ y∈x.kids,∀ s∈pfl (sim unC y),dG c f s:=fun y hy=>aK8 fun s hs=>h s (oQ hy hs)
 cases x with
 | lf k n rs=>exact h
 | grp n y=>
  intro s hs;simp only [gL] at hs;rw [pfl] at hs;rcases u0.1 hs with rfl | hs
  ·trivial
  ·rcases o3.1 hs with hs | hs
   ·exact hk y (by simp [Ps.kids]) s hs
   ·simp at hs;subst hs;trivial
 | rep a b y=>
  intro s hs;simp only [gL] at hs;rw [pfl] at hs;rcases o3.1 hs with hs | hs
  ·exact hk y (by simp [Ps.kids]) s hs
  ·simp at hs;subst hs;exact h _ (by rw [pfl];simp)
 | row l=>
  intro s hs;simp only [gL] at hs;rw [pfl] at hs;obtain⟨v,hv,hs⟩:=(fB _ _).1 hs;obtain⟨y,hy,rfl⟩:=s4.1 hv;exact hk y hy s hs
 | alt l=>
  intro s hs;simp only [gL] at hs;rw [pfl] at hs;rcases mI _ _ hs with rfl | ⟨v,hv,hs⟩
  ·trivial
  ·obtain⟨y,hy,rfl⟩:=s4.1 hv;exact hk y hy s hs
theorem bA6(x:Ps):(gL unC x).sz<=x.sz:=by
 have hl:∀ l:List Ps,bU (l.map (sim unC))<=bU l:=by
  intro l
  induction l with
  | nil=>exact t8 _
  | cons y l ih=>rw [s6,bU,bU];have:=rZ unC y;omega
 cases x with
 | lf k n rs=>exact t8 _
 | grp n y=>simp only [gL];rw [Ps.sz,Ps.sz];have:=rZ unC y;omega
 | rep a b y=>simp only [gL];rw [Ps.sz,Ps.sz];have:=rZ unC y;omega
 | row l=>simp only [gL];rw [Ps.sz,Ps.sz];have:=hl l;omega
 | alt l=>simp only [gL];rw [Ps.sz,Ps.sz];have:=hl l;omega
def RL(W:World)(rb:Nat):Prop:=W.heap[rb]?=some (.cells #[.I 9,.func (.func 42) #[] #[],.I 9,.func (.func 43) #[] #[],.I 9,.func (.func 44) #[] #[],.I 9,.func (.func 45) #[] #[],.I 5,.func (.func 46) #[] #[],.I 6,.func (.func 47) #[] #[],.I 6,.func (.func 48) #[] #[]] 91 (0,0))
structure SpS(w:World)(s0 b bz rb:Nat)(f:Fl)(nk old:List Tr)(W:World):Prop where
 box:BoxN W b f
 res:W.heap[bz]?=some (.cells #[.I 0,.I 0,.I 0,.I 0,.slice none 0 0,.slice none 0 0] 25 (0,0))
 rr:RR s0 W (.slice f.rq f.rs.length f.rc) f.rs
 bel:wBl w W
 rul:RL W rb
 row:(nk++old=[]/\f.kq=none/\f.kc=0)\/∃ g,f.kq=some (aDr g 0)/\b<g/\bz<g/\KR W g (nk++old)/\∀ u∈nk,Foot (fun k=>g<k) u
 new:∀ u∈nk,TA W u
theorem SpS.kept{w W W':World}{s0 b bz rb:Nat}{f:Fl}{nk old:List Tr}(h:SpS w s0 b bz rb f nk old W)(hb:wBl W W'):SpS w s0 b bz rb f nk old W':=
 ⟨(hb.block _ (aC h.box)).trans h.box,(hb.block _ (aC h.res)).trans h.res,h.rr.kept hb,aG h.bel hb lz9,(hb.block _ (aC h.rul)).trans h.rul,
  h.row.imp id fun⟨g,h1,h2,h3,h4,h5⟩=>⟨g,h1,h2,h3,h4.kept hb,h5⟩,fun u hu=>(h.new u hu).kept hb⟩
theorem SpS.at{w W:World}{s0 b bz rb:Nat}{f:Fl}{nk old:List Tr}(h:SpS w s0 b bz rb f nk old W)(ho:old≠[]):∃ g,f.kq=some (aDr g 0)/\b<g/\bz<g/\KR W g (nk++old)/\∀ u∈nk,Foot (fun k=>g<k) u:=by
 rcases h.row with⟨h1,-⟩ | h1
 ·exact absurd (List.append_eq_nil_iff.1 h1).2 ho
 ·exact h1
theorem SpS.next{w W:World}{s0 b bz rb g j:Nat}{f:Fl}{nk old:List Tr}{t:Tr}(h:SpS w s0 b bz rb f nk old W)(hg:f.kq=some (aDr g 0))(hj:nk.length=j)(ho:old≠[])(hrb:rb<w.heap.size)(hwg:w.heap.size<=b)(ht:TA W t)(hf:Foot (fun k=>g<k) t) :
  SpS w s0 b bz rb f (nk++[t]) old.tail (cD W g (j*6) t.f):=by
 obtain⟨g',e,hb,hz,hr,hn⟩:=h.at ho;rw [hg] at e;cases e;have F:=dP W g (j*6) t.f;have hl:j<(nk++old).length:=by
  rw [o5]
  cases old with
  | nil=>exact absurd rfl ho
  | cons x r=>simp;omega
 obtain⟨cur,hcur⟩:=hr.blk;have K:CKeep (fun k=>g<k) W (cD W g (j*6) t.f):=F.ckeep (fun k e z=>by omega);refine⟨(F.block _ (aC h.box) (by omega)).trans h.box,(F.block _ (aC h.res) (by omega)).trans h.res,h.rr.fr F (fun k hk e=>?_),bB h.bel F lz9 (fun k e=>by omega),(F.block _ (aC h.rul) (by omega)).trans h.rul,.inr ⟨g,hg,hb,hz,?_,fun u hu=>?_⟩,fun u hu=>?_⟩
 ·subst e;exact dU h.rr hcur (by decide) hk
 ·have:=hr.set hl t
  cases old with
  | nil=>exact absurd rfl ho
  | cons x r=>
   rw [aBU _ _ (by omega),hj,aBF,i8] at this;rw [r8];exact this
 ·rcases o3.1 hu with q | q
  ·exact hn u q
  ·simp at q;subst q;exact hf
 ·rcases o3.1 hu with q | q
  ·exact(h.new u q).ckN (hn u q) K
  ·simp at q;subst q;exact ht.ckN hf K
theorem SpS.tree{w W:World}{s0 b bz rb:Nat}{f:Fl}{nk:List Tr}(h:SpS w s0 b bz rb f nk [] W)(hs:bz<s0)(hl:f.kl=nk.length)(hc:nk.length<=f.kc)(hm:f.kc<=maxLen)(hF:Fit f.rs)(hn:f.rs.length+3<=8796093022208) :
  TA W (.mk f nk)/\Foot (fun k=>bz<k) (.mk f nk):=by
 have hrow:=h.row;rw [t9] at hrow;constructor
 ·refine(aI _).2 ⟨⟨h.rr.arg,?_,hF,hn,NO.rows h.rr (fun a e _=>?_)⟩,(aT _).2 fun u hu=>h.new u hu⟩
  ·show ArgK W (.slice f.kq f.kl f.kc) nk;rcases hrow with⟨h1,h2,h3⟩ | ⟨g,h1,-,-,h2,-⟩
   ·subst h1;rw [h2,hl];exact .inl ⟨none,f.kc,rfl,rfl,fun _=>h3⟩
   ·rw [h1,hl];exact h2.arg hc hm
  ·rcases hrow with⟨-,h2,-⟩ | ⟨g,h1,-,-,h2,-⟩
   ·rw [h2] at e;cases e
   ·rw [h1] at e;cases e;exact h2.blk
 ·refine(aI _).2 ⟨⟨fun a e hz=>?_,fun a e hz=>?_⟩,(aT _).2 fun u hu=>?_⟩
  ·have e':f.rq=some a:=e;have:=(aF h.rr (g:=a.block) (by rw [e'];rfl)).1;omega
  ·have e':f.kq=some a:=e;rcases hrow with⟨-,h2,-⟩ | ⟨g,h1,-,h3,-,-⟩
   ·rw [h2] at e';cases e'
   ·rw [h1] at e';cases e';exact h3
  ·rcases hrow with⟨h1,-,-⟩ | ⟨g,-,-,h3,-,h4⟩
   ·have hu':u∈nk:=hu;rw [h1] at hu';cases hu'
   ·exact(h4 u hu).mono fun k hk=>by omega
structure SI(w:World)(b bz rb:Nat)(c f:Bool)(fin:Ps)(z:Ps)(t:Tr)(W:World):Prop where
 box:BoxN W b t.f
 res:W.heap[bz]?=some (.cells #[.I 0,.I 0,.I 0,.I 0,.slice none 0 0,.slice none 0 0] 25 (0,0))
 bel:wBl w W
 rul:RL W rb
 ta:TA W t
 ft:Foot (fun k=>bz<k) t
 ns:NS c f z t
 fin:nf unC z=fin
theorem SI.kept{w W W':World}{b bz rb:Nat}{c f:Bool}{fin z:Ps}{t:Tr}(h:SI w b bz rb c f fin z t W)(hb:wBl W W'):SI w b bz rb c f fin z t W':=
 ⟨(hb.block _ (aC h.box)).trans h.box,(hb.block _ (aC h.res)).trans h.res,aG h.bel hb lz9,(hb.block _ (aC h.rul)).trans h.rul,h.ta.kept hb,h.ft,h.ns,h.fin⟩
theorem SI.step{w W:World}{b bz rb j:Nat}{c f:Bool}{fin z z':Ps}{t t':Tr}(h:SI w b bz rb c f fin z t W)(h0:∀ i,i<j->rl i z=none)(h1:rl j z=some z')(ht:TA W t')(hf:Foot (fun k=>bz<k) t')(he:er t'=te z')(hbz:b<bz)(hrb:rb<w.heap.size)(hwb:w.heap.size<=b):SI w b bz rb c f fin z' t' (cD W b 0 t'.f)/\z'.sz<z.sz:=by
 have hs:=aM0 h0 h1;obtain⟨s1,s2,s3⟩:=aK0 unC h.ns.nd hs;have F:=dP W b 0 t'.f;refine⟨⟨?_,(F.block _ (aC h.res) (by omega)).trans h.res,bB h.bel F lz9 (fun k e=>by omega),(F.block _ (aC h.rul) (by omega)).trans h.rul,ht.ckN hf (F.ckeep (fun k e z=>by omega)),hf,⟨he,s1,bH2 h.ns.nd h.ns.sg hs,by have:=h.ns.sz;omega⟩,by rw [s2];exact h.fin⟩,s3⟩;have hb:=h.box;unfold cD;exact aJ (aJ (aJ (aJ (aJ (aJ hb 0 _) 1 _) 2 _) 3 _) 4 _) 5 _
theorem vH{P:Tr->Prop}(t:Tr):∀ p,(∀ z∈pp p t,P z.2)->bF P t:=by
 refine Tr.ind (P:=fun t=>∀ p,(∀ z∈pp p t,P z.2)->bF P t) (fun t ih=>?_) t;intro p h;rw [bX] at h;have hps:∀ (ks:List Tr) (i:Nat),(∀ z∈pps t p i ks,P z.2)->∀ u∈ks,∃ q,∀ z∈pp q u,P z.2:=by
  intro ks
  induction ks with
  | nil=>intro i _ u hu;cases hu
  | cons v ks ih2=>
   intro i h u hu;rw [aX] at h;rcases u0.1 hu with rfl | hu
   ·exact⟨_,fun z hz=>h z (o3.2 (.inl hz))⟩
   ·exact ih2 (i+1) (fun z hz=>h z (o3.2 (.inr hz))) u hu
 refine(aI _).2 ⟨h (p,t) (n9 ..),(aT _).2 fun u hu=>?_⟩;obtain⟨q,hq⟩:=hps t.ks 0 (fun z hz=>h z (m9 _ hz)) u hu;exact ih u hu q hq
theorem aI1{H:Gh}(hk:Gk H)(hu:H.L.u=uB H.Z)(hn:bF (fun v=>v.f.k=8->1<=v.f.n) H.t):bF (fun v=>v.f.k=8->H.L.u v.f.n.toNat=true) H.t:=by
 refine vH H.t [] fun z hz h8=>?_;rw [hu];unfold uB;rw [aAX];rw [<- hk.mp] at hz;obtain⟨y,hy,rfl⟩:=s4.1 hz;have h1:=((aI _).1 (fD H.t [] hn y.1 (by rw [<- hk.mp];exact s4.2 ⟨y,hy,rfl⟩))).1 h8;exact⟨y,hy,by simp [h8];omega⟩
def Lx(L:Ln):Ln:=⟨L.s,L.c,L.o,fun _=>true⟩
theorem vJ{H:Gh}(hk:Gk H)(hu:H.L.u=uB H.Z)(hn:bF (fun v=>v.f.k=8->1<=v.f.n) H.t)(a j:Nat):(∃ y,Mt H.L H.t (cf0 a) y/\y.p=j) ↔ ∃ y,Mt (Lx H.L) H.t (cf0 a) y/\y.p=j:=
 aS4 (show SameL H.L.u H.L (Lx H.L) from ⟨rfl,rfl,rfl,fun _ h=>h⟩) (aI1 hk hu hn) a j
theorem vZ{c o:Bool}{x:Ps}(h:∀ s∈pfl x,dG c o s):∀ t:Tr,er t=te x->bF (fun v=>v.f.k=8->1<=v.f.n) t:=by
 refine Ps.ind (P:=fun x=>(∀ s∈pfl x,dG c o s)->∀ t:Tr,er t=te x->bF (fun v=>v.f.k=8->1<=v.f.n) t) (fun x ih=>?_) x h;intro h t e;refine(aI _).2 ⟨fun h8=>?_,(aT _).2 fun u hu=>?_⟩
 ·rw [bY] at e
  cases x with
  | lf k n rs=>
   rw [te] at e;injection e with e1 e2;rw [e2];exact((h (.lf k n rs) (by rw [pfl];simp)).2.2.1 (by rw [<- e1];exact h8)).1
  | grp n y=>rw [te] at e;injection e with e1;rw [h8] at e1;omega
  | rep a b y=>rw [te] at e;injection e with e1;rw [h8] at e1;omega
  | row l=>rw [te] at e;split at e <;> (injection e with e1;rw [h8] at e1;omega)
  | alt l=>rw [te] at e;injection e with e1;rw [h8] at e1;omega
 ·have hm:er u∈x.kids.map te:=by rw [<- sX e];exact s4.2 ⟨u,hu,rfl⟩
  obtain⟨y,hy,ey⟩:=s4.1 hm;exact ih y hy (fun s hs=>h s (oQ hy hs)) u ey.symm
theorem aC4{Ha Hb:Gh}{c o:Bool}{x:Ps}(hx:PsOK c o x)(ka:Gk Ha)(kb:Gk Hb)(ua:Ha.L.u=uB Ha.Z)(ub:Hb.L.u=uB Hb.Z)(ea:er Ha.t=te x)(eb:er Hb.t=te (sim unC x))(hs:Ha.L.s=Hb.L.s)(hc:Ha.L.c=Hb.L.c)(ho:Ha.L.o=Hb.L.o)(a j:Nat) :
  (∃ y,Mt Ha.L Ha.t (cf0 a) y/\y.p=j) ↔ ∃ y,Mt Hb.L Hb.t (cf0 a) y/\y.p=j:=by
 have hL:Lx Ha.L=Lx Hb.L:=by unfold Lx;rw [hs,hc,ho]
 have hb:∀ a b,Sgn.rp a b∈pfl x->0<=a/\(b=-1\/a<=b):=fun a b q=>by
  have:eX a b=true:=hx.sg _ q;unfold eX at this;simp at this;omega
 rw [vJ ka ua (vZ hx.sg Ha.t ea) a j,vJ kb ub (vZ hx.sim.sg Hb.t eb) a j,hL];have key:∀ y,Mt (Lx Hb.L) Ha.t (cf0 a) y↔Mt (Lx Hb.L) Hb.t (cf0 a) y:=fun y=>by
  rw [bE6 Ha.t (tp x) (by rw [bF0];exact ea) _ _,<- bH9 unC hun x hb _ _,bE6 (tp (sim unC x)) Hb.t (by rw [bF0];exact eb.symm) _ _]
 exact⟨fun⟨y,h1,h2⟩=>⟨y,(key y).1 h1,h2⟩,fun⟨y,h1,h2⟩=>⟨y,(key y).2 h1,h2⟩⟩
theorem aC5:∀ (l m:List Nat),l.Pairwise (· < ·)->m.Pairwise (· < ·)->(∀ j,j∈l↔j∈m)->l=m:=by
 intro l
 induction l with
 | nil=>intro m _ _ h;cases m with
  | nil=>rfl
  | cons y m=>exact absurd ((h y).2 (n9 ..)) (by simp)
 | cons x l ih=>
  intro m hl hm h
  cases m with
  | nil=>exact absurd ((h x).1 (n9 ..)) (by simp)
  | cons y m=>
   have hl':=aAT.1 hl;have hm':=aAT.1 hm;have hxy:x=y:=by
    rcases u0.1 ((h x).1 (n9 ..)) with q | q
    ·exact q
    ·rcases u0.1 ((h y).2 (n9 ..)) with r | r
     ·exact r.symm
     ·have h1:=hm'.1 x q;have h2:=hl'.1 y r;omega
   subst hxy;rw [ih m hl'.2 hm'.2 fun j=>?_];constructor
   ·intro q;rcases u0.1 ((h j).1 (m9 _ q)) with r | r
    ·have:=hl'.1 j q;omega
    ·exact r
   ·intro q;rcases u0.1 ((h j).2 (m9 _ q)) with r | r
    ·have:=hm'.1 j q;omega
    ·exact r
theorem WM.other{Ha Hb:Gh}{V V':World}{rsa rsb:lOn}{wka wkb:Int}{mua mub:Bool}(hb:WM Hb V rsb wkb mub)(ha:WM Ha V rsa wka mua)(hf:Fr (fun k=>wmf Ha rsa k\/False) V V')(hd:∀ k,wmf Ha rsa k->¬ wmf Hb rsb k)(ht:Foot (fun k=>k<Ha.base) Hb.t):WM Hb V' rsb wkb mub:=by
 have hsame:∀ k,k<V.heap.size->wmf Hb rsb k->V'.heap[k]?=V.heap[k]?:=fun k hk hw=>hf.block k hk (fun q=>q.elim (fun q=>hd k q hw) id);refine⟨(hsame _ hb.b_lt (.inl rfl)).trans hb.hd,cT hb.z ha hf (fun _ _ q=>q) ⟨by decide,by decide,by decide⟩,cT hb.pl ha hf (fun _ _ q=>q) ⟨by decide,by decide,by decide⟩,?_,hb.ap,fun i k z a b=>?_,hb.bb,?_,hb.tf,hb.wk⟩
 ·refine aH hb.rw hf fun k hk q=>?_;have:k=Hb.rb:=by
   have e:(Value.slice (some ⟨Hb.rb,0,none⟩) Hb.Z.length Hb.rc).ownBlock=some Hb.rb:=rfl;rw [e] at hk;injection hk with hk;exact hk.symm
  exact q.elim (fun q=>hd k q (.inr (.inl this))) id
 ·obtain⟨h1,cs,h2,h3,h4⟩:=hb.row i k z a b;have hmem:some k∈rsb:=n8 a;refine⟨h1,cs,(hsame k (aC h2) (.inr (.inr hmem))).trans h2,h3,fun a' ha'=>?_⟩;obtain⟨b',q,n,c,p1,p2,p3⟩:=h4 a' ha';refine⟨b',q,n,c,p1,p2,fun e=>?_⟩;obtain⟨l,l1,l2,l3⟩:=p3 e;exact⟨l,l1,cT l2 ha hf (fun _ _ q=>q) ⟨by decide,by decide,by decide⟩,l3⟩
 ·exact hb.ta.ckN ht (hf.ckeep fun k q hk=>by
   rcases q with q | q
   ·have:=ha.wf_lo q;omega
   ·exact q)
def Apt2(Ha Hb:Gh)(rsa rsb:lOn):Prop:=∀ k,wmf Ha rsa k->¬ wmf Hb rsb k
theorem Apt2.left{Ha Hb:Gh}{V:World}{rsa rsa' rsb:lOn}{wkb:Int}{mub:Bool}(h:Apt2 Ha Hb rsa rsb)(hb:WM Hb V rsb wkb mub)(g:Grw V.heap.size rsa rsa'):Apt2 Ha Hb rsa' rsb:=fun k q r=>by
 have:=(hb.wf_ty r).1;exact h k (g.wmf q this) r
theorem Apt2.symm{Ha Hb:Gh}{rsa rsb:lOn}(h:Apt2 Ha Hb rsa rsb):Apt2 Hb Ha rsb rsa:=fun k q r=>h k r q
section
attribute [local go_sem] Oper.semAt_some aU
structure NB2(V:World)(nb mb:Nat)(f:Fl)(c o:Bool):Prop where
 n:BoxN V nb f
 m:V.heap[mb]?=some (.cells #[.bool c,.bool o] 27 (0,0))
theorem NB2.kept{V V':World}{nb mb:Nat}{f:Fl}{c o:Bool}(h:NB2 V nb mb f c o)(hb:wBl V V'):NB2 V' nb mb f c o:=⟨(hb.block _ (aC h.n)).trans h.n,(hb.block _ (aC h.m)).trans h.m⟩
def NC2(V:World)(nb mb:Nat)(f:Fl)(c o:Bool):Prop:=V.cell? (aDr nb 0)=some (.I f.k)/\V.cell? (aDr nb 1)=some (.I f.n)/\V.cell? (aDr nb 2)=some (.I f.mn)/\V.cell? (aDr nb 3)=some (.I f.mx)/\V.cell? (aDr nb 4)=some (.slice f.rq f.rs.length f.rc)/\V.cell? (aDr nb 5)=some (.slice f.kq f.kl f.kc)/\V.cell? (aDr mb 0)=some (.bool c)/\V.cell? (aDr mb 1)=some (.bool o)
theorem NB2.cells{V:World}{nb mb:Nat}{f:Fl}{c o:Bool}(h:NB2 V nb mb f c o):NC2 V nb mb f c o:=by
 obtain⟨n0,n1,n2,n3,n4,n5⟩:=h.n.six;simp only [m7] at n1 n2 n3 n4 n5;exact⟨n0,n1,n2,n3,n4,n5,aB h.m rfl,aB h.m rfl⟩
structure NI1(w6:World)(b:Nat)(v:Value)(s:ByteArray)(c o:Bool)(u:Nat->Bool)(p r:Value)(V:World):Prop where
 h:V.heap[b]?=some (.cells (nwA v s c o u p r) 43 (0,0))
 f:Fr (fun k=>k=b) w6 V
theorem NI1.kept{w6:World}{b:Nat}{v:Value}{s:ByteArray}{c o:Bool}{u:Nat->Bool}{p r:Value}{V V':World}(h:NI1 w6 b v s c o u p r V)(hb:wBl V V'):NI1 w6 b v s c o u p r V':=⟨(hb.block _ (aC h.h)).trans h.h,h.f.then hb⟩
theorem NI1.put{w6:World}{b:Nat}{v:Value}{s:ByteArray}{c o:Bool}{u:Nat->Bool}{p r:Value}{V:World}(h:NI1 w6 b v s c o u p r V){n:Nat}(hn:n<10):NI1 w6 b v s c o (fun m=>if m=n then true else u m) p r (V.setCell ⟨b,4+n,none⟩ (.bool true)):=
 ⟨by rw [aJ h.h,aZ6 hn],h.f.setCell (p:=⟨b,4+n,none⟩) rfl _⟩
theorem NI1.setp{w6:World}{b:Nat}{v:Value}{s:ByteArray}{c o:Bool}{u:Nat->Bool}{p r:Value}{V:World}(h:NI1 w6 b v s c o u p r V)(x:Value):NI1 w6 b v s c o u x r (V.setCell (aDr b 14) x):=
 ⟨aJ h.h 14 x,h.f.setCell (p:=(aDr b 14)) rfl _⟩
theorem NI1.setr{w6:World}{b:Nat}{v:Value}{s:ByteArray}{c o:Bool}{u:Nat->Bool}{p r:Value}{V:World}(h:NI1 w6 b v s c o u p r V)(x:Value):NI1 w6 b v s c o u p x (V.setCell (aDr b 15) x):=
 ⟨aJ h.h 15 x,h.f.setCell (p:=(aDr b 15)) rfl _⟩
structure NI2(w:World)(b:Nat)(v:Value)(s:ByteArray)(c o:Bool)(Z:List Zl)(gp gr:Nat)(i:Nat)(is:List Bool)(V:World):Prop where
 h:V.heap[b]?=some (.cells (nwA v s c o (uB Z) (.slice (some (aDr gp 0)) Z.length Z.length) (.slice (some (aDr gr 0)) Z.length Z.length)) 43 (0,0))
 z:ZR w.heap.size V v Z
 q:V.ownsRow w.heap.size 110 1 (.slice (some (aDr gr 0)) Z.length Z.length) Z.length (List.replicate Z.length (.slice none 0 0))
 r:BR w.heap.size V gp Z.length is
 n:is.length=Z.length
 m:∀ (j:Nat) (x:Zl),j<i->Z[j]?=some x->is[j]?=some (plB ⟨s,c,o,uB Z⟩ x.1.2)
 bel:wBl w V
theorem NI2.kept{w:World}{b:Nat}{v:Value}{s:ByteArray}{c o:Bool}{Z:List Zl}{gp gr i:Nat}{is:List Bool}{V V':World}(h:NI2 w b v s c o Z gp gr i is V)(hb:wBl V V'):NI2 w b v s c o Z gp gr i is V':=
 ⟨(hb.block _ (aC h.h)).trans h.h,aH (S:=fun _=>False) h.z (Fr.of_below hb) (fun _ _ q=>q),aH (S:=fun _=>False) h.q (Fr.of_below hb) (fun _ _ q=>q),h.r.kept hb,h.n,h.m,aG h.bel hb lz9⟩
theorem NI2.put{w:World}{b:Nat}{v:Value}{s:ByteArray}{c o:Bool}{Z:List Zl}{gp gr i:Nat}{is:List Bool}{V:World}(h:NI2 w b v s c o Z gp gr i is V){x:Zl}(hx:Z[i]?=some x){d:Bool}(hd:d=plB ⟨s,c,o,uB Z⟩ x.1.2):NI2 w b v s c o Z gp gr (i+1) (is.set i d) (V.setCell (aDr gp i) (.bool d)):=by
 have hf:Fr (fun k=>k=gp) V (V.setCell (aDr gp i) (.bool d)):=(Fr.refl (fun k=>k=gp) V).setCell (p:=(aDr gp i)) rfl _;obtain⟨cs,hc⟩:=h.r.ty;refine⟨(hf.block b (aC h.h) (fun e=>bD h.h hc (by decide) e)).trans h.h,aH h.z hf (fun g hg e=>?_),aH h.q hf (fun g hg e=>?_),h.r.put i d,by rw [aAQ];exact h.n,fun j y hj hy=>?_,h.bel.trans (hf.below h.bel.size (fun k e=>by rw [e];exact h.r.lo))⟩
 ·obtain⟨-,-,cur,hc'⟩:=aF h.z hg;exact bD hc' hc (by decide) e
 ·obtain⟨-,-,cur,hc'⟩:=aF h.q hg;exact bD hc' hc (by decide) e
 ·have hil:=(m8.1 hx).1;rw [aAZ];by_cases e:i=j
  ·subst e;rw [if_pos rfl,if_pos (by rw [h.n];exact hil),hd];rw [hx] at hy;cases hy
   rfl
  ·rw [if_neg e];exact h.m j y (by omega) hy
theorem zI{w:World}{t:Tr}(hta:TB w t){c o:Bool}(hr:aZ c o 0 0 (pp [] t)=0){s:ByteArray}(hs:s.size<=1000) :
  Calls Tryz.prog 9 #[.agg (nDf t.f),.string s,.agg #[.bool c,.bool o]] w (bQ4 w t s c o):=by
 have HTA:=aA hta;have HFT:=aA hta.foot;have HNP:=aA (uC hr);have hl:=nO hr;have B1:Hid (wBl w ((w.alloc (.cells (nDf t.f) 25)).alloc (.cells #[.bool c,.bool o] 27))):=(bz9).alloc (by simp) _;have N1:Hid (NB2 ((w.alloc (.cells (nDf t.f) 25)).alloc (.cells #[.bool c,.bool o] 27)) w.heap.size (w.heap.size+1) t.f c o):=aA ⟨(((Below.refl _ (w.alloc (.cells (nDf t.f) 25))).alloc lz9 _).block _ (by simp)).trans (aD w _),by have:=aD (w.alloc (.cells (nDf t.f) 25)) (.cells #[.bool c,.bool o] 27);simpa using this⟩;have LD:Hid (∀ W,wBl w W->Calls Tryz.prog 19 #[.agg (nDf t.f),.I 2000] W (aU7 W (gM 2000 t))):=fun W hW=>sW 2000 (by omega) (HTA.o.kept hW);have HMP:Hid ((gM 2000 t).map (·.1)=pp [] t):=aA (by rw [jN,o4 hl]);have hZ:(gM 2000 t).length<=2000:=by have:=jO 2000 t;omega
 have hZ0:0<(gM 2000 t).length:=by have:=jO 2000 t;have h1:=bL t [];have h2:=dO t;omega
 have HTO:Hid (∀ (i:Nat) (z:Zl),(gM 2000 t)[i]?=some z->z.2=i+z.1.2.sz):=aA fun i z h=>by
  have h1:=bL3 h;have h2:(pp [] t)[i]?=some z.1:=by rw [<- HMP.o,aAO,h];rfl
  obtain⟨r,hr⟩:=seg t [] i z.1 h2;have h3:=congrArg List.length hr;rw [o5,bL,aAR] at h3;have h4:=(m8.1 h2).1;omega
 generalize gM 2000 t=Z at LD HMP hZ hZ0 HTO;have HNZ:Hid (∀ (i:Nat) (z:Zl),Z[i]?=some z->NP c o z.1.2):=aA fun i z h=>by
  have h2:z.1∈pp [] t:=by rw [<- HMP.o];exact s4.2 ⟨z,n8 h,rfl⟩
  exact((aI z.1.2).1 (fD t [] HNP.o z.1 h2)).1
 clear hta hr hl;go_enter Tryz.func9,Tryz.ntmps9;go_upto_region 1 with fail
 generalize ((w.alloc (.cells (nDf t.f) 25)).alloc (.cells #[.bool c,.bool o] 27))=w1 at B1 N1 ⊢;obtain⟨nb,hnb⟩:∃ nb,w.heap.size=nb:=⟨_,rfl⟩;rw [hnb] at N1;generalize hmb:nb+1=mb at N1;have DR:=aA ((Below.refl w1.heap.size w1).drew);have B2:=aA (aG B1.o DR.o lz9);have N2:=aA (N1.o.kept DR.o);have LW:=aA (LD.o _ B2.o);have HS2:=aA N2.o.cells;refine wp_region_held_drew (S:=fun w'=>NC2 w' nb mb t.f c o) (by kernel_rfl) HS2.o ?_;intro hS0;refine aCD (v:=?_) 0 ?_ ?_;rotate_left
 ·intro wz hSw;obtain⟨hs0,hs1,hs2,hs3,hs4,hs5,hs6,hs7⟩:=hSw;go_simp
  try with_reducible rfl
 dsimp only [Act.put,i7,g7,g8];simp only [f8,i8,i9];refine aCD (v:=?_) 2 ?_ ?_;rotate_left
 ·intro wz hSw;obtain⟨hs0,hs1,hs2,hs3,hs4,hs5,hs6,hs7⟩:=hSw;go_simp
  try with_reducible rfl
 dsimp only [Act.put,i7,g7,g8];simp only [f8,i8,i9];refine aCD (v:=?_) 3 ?_ ?_;rotate_left
 ·intro wz hSw;obtain⟨hs0,hs1,hs2,hs3,hs4,hs5,hs6,hs7⟩:=hSw;go_simp
  try with_reducible rfl
 dsimp only [Act.put,i7,g7,g8];simp only [f8,i8,i9];refine wpAnyH_ready (rs:=[1]) (by kernel_rfl) (by simp) ?_;refine AllReadyH.cons rfl (fun K hK=>?_) AllReadyH.nil;go_simp
 go_at_call 19
 refine(LW.o).mono ?_;rintro e w5 ⟨zq,zc,rfl,h51,h52⟩;have Z5:=aA h51;have B5:=aA h52;have N5:=aA (N2.o.kept B5.o);have BW5:=aA (aG B2.o B5.o lz9);clear h51 h52;refine hK.out _ _ N5.o.cells (fun hS1=>?_);clear hK K;refine wpAnyH_ready (rs:=[4]) (by kernel_rfl) (by simp) ?_;refine AllReadyH.cons rfl (fun K hK=>?_) AllReadyH.nil;go_simp;refine hK.out _ _ N5.o.cells (fun hS2=>?_);clear hK K;refine wpAnyH_ready (rs:=[5]) (by kernel_rfl) (by simp) ?_;refine AllReadyH.cons rfl (fun K hK=>?_) AllReadyH.nil;go_simp;have B6:Hid (wBl w5 (w5.alloc (.cells #[.slice zq Z.length zc,.string s,.bool c,.bool o,.bool false,.bool false,.bool false,.bool false,.bool false,.bool false,.bool false,.bool false,.bool false,.bool false,.slice none 0 0,.slice none 0 0,.I 0,.bool false] 43))):=bz9;have N6:=aA (N5.o.kept B6.o);have I6:Hid (NI1 (w5.alloc (.cells #[.slice zq Z.length zc,.string s,.bool c,.bool o,.bool false,.bool false,.bool false,.bool false,.bool false,.bool false,.bool false,.bool false,.bool false,.bool false,.slice none 0 0,.slice none 0 0,.I 0,.bool false] 43)) w5.heap.size (.slice zq Z.length zc) s c o (fun _=>false) (.slice none 0 0) (.slice none 0 0) (w5.alloc (.cells #[.slice zq Z.length zc,.string s,.bool c,.bool o,.bool false,.bool false,.bool false,.bool false,.bool false,.bool false,.bool false,.bool false,.bool false,.bool false,.slice none 0 0,.slice none 0 0,.I 0,.bool false] 43))):=aA ⟨aD w5 _,Fr.refl _ _⟩;have BW6:=aA (aG BW5.o B6.o lz9);have Z6:Hid (ZR w.heap.size (w5.alloc (.cells #[.slice zq Z.length zc,.string s,.bool c,.bool o,.bool false,.bool false,.bool false,.bool false,.bool false,.bool false,.bool false,.bool false,.bool false,.bool false,.slice none 0 0,.slice none 0 0,.I 0,.bool false] 43)) (.slice zq Z.length zc) Z):=aA (aAB (bI Z5.o B2.o.size) _);refine hK.out _ _ N6.o.cells (fun hS3=>?_);clear hK K;refine wpAnyH_ready (rs:=[6]) (by kernel_rfl) (by simp) ?_;refine AllReadyH.cons rfl (fun K hK=>?_) AllReadyH.nil;go_simp;refine hK.out _ _ N6.o.cells (fun hS4=>?_);clear hK K;refine wpAnyH_done (by kernel_rfl) ?_ _;obtain⟨zb,zc',hz⟩:=aO Z6.o hZ0;injection hz with hz1 hz2 hz3;subst hz1;have hzb:zb<w5.heap.size:=(aF Z5.o rfl).2.1;have hwb:w.heap.size<=w5.heap.size:=BW5.o.size;clear hS0 hS1 hS2 hS3 hS4 hz2 hz3 Z5 N5 N2 HS2 B6 N6 DR N1 B1 B2 LW LD BW5;generalize w5.alloc (.cells #[.slice (some (aDr zb 0)) Z.length zc,.string s,.bool c,.bool o,.bool false,.bool false,.bool false,.bool false,.bool false,.bool false,.bool false,.bool false,.bool false,.bool false,.slice none 0 0,.slice none 0 0,.I 0,.bool false] 43)=w6 at I6 BW6 Z6 ⊢;generalize w5.heap.size=b at I6 hzb hwb ⊢;have HZV:Hid (∀ V u p r,NI1 w6 b (.slice (some (aDr zb 0)) Z.length zc) s c o u p r V->ZR w.heap.size V (.slice (some (aDr zb 0)) Z.length zc) Z):=aA fun V u p r h=>aH Z6.o h.f (fun g hg e=>by have h0:zb=g:=aAE hg;omega);have U6:Hid (NI1 w6 b (.slice (some (aDr zb 0)) Z.length zc) s c o (uB (Z.take 0)) (.slice none 0 0) (.slice none 0 0) w6):=aA (by
  have e:uB (Z.take 0)=fun _=>false:=by funext m;simp [uB]
  rw [e];exact I6.o)
 clear I6;go_upto_region 3 with fail
 go_loopw [8] (fun iv wr=>∃ i:Nat,i<=Z.length/\iv=.I (i:Int)/\NI1 w6 b (.slice (some (aDr zb 0)) Z.length zc) s c o (uB (Z.take i)) (.slice none 0 0) (.slice none 0 0) wr) (fun iv _=>Z.length-(intOf iv).toNat)
 case atStart=>exact⟨0,o9 _,rfl,U6.o⟩
 case round=>
  obtain⟨i,hi,rfl,hu⟩:=hrel;have HU:=aA hu;clear hu U6;have c0:wr.cell? (aDr b 0)=some (.slice (some (aDr zb 0)) Z.length zc):=aB HU.o.h rfl;by_cases hil:i<Z.length
  ·have i0:(i:Int)<(Z.length:Int):=by omega
   have hw2:IntKind.wrap .i64 ((i:Int)+1)=(i:Int)+1:=wrap_small _ (by omega) (by omega);obtain⟨z,hz⟩:∃ z,Z[i]?=some z:=⟨_,g9 hil⟩;have y0:=(HZV.o _ _ _ _ HU.o).cells hz (j:=0) (v:=.I z.1.2.f.k) rfl;have y1:=(HZV.o _ _ _ _ HU.o).cells hz (j:=1) (v:=.I z.1.2.f.n) rfl;rw [aAJ] at y0;have HT:=aA (fun m=>aV4 hz m);have HZ:=aA hz;by_cases h8:z.1.2.f.k=8
   ·have e8:(z.1.2.f.k==8)=true:=by rw [h8];rfl
    obtain⟨n,hn⟩:∃ n:Nat,z.1.2.f.n=(n:Int):=⟨z.1.2.f.n.toNat,by have:=sL (HNZ.o i z hz) h8;omega⟩;have hn9:n<10:=(by have:=sL (HNZ.o i z hz) h8;omega);rw [hn] at y1;have HNN:=aA hn;have HN:Hid (uB (Z.take (i+1))=fun m=>if m=n then true else uB (Z.take i) m):=aA (by
     funext m
     rw [HT.o m,e8,aCB,hn];by_cases e:m=n
     ·subst e;simp
     ·rw [if_neg e];have:((n:Int)==(m:Int))=false:=(by simp;omega);rw [this,Bool.or_false])
    clear hz h8 hn;have in9:(n:Int)<10:=(by omega);have lb2:b<wr.heap.size:=aC HU.o.h;have lz2:zb<wr.heap.size:=(aF (HZV.o _ _ _ _ HU.o) rfl).2.1;have in0:(0:Int)<=(n:Int):=(by omega);go_upto_region 6 with fail
    have DR7:=aA ((Below.refl wr.heap.size wr).drew);have I7:=aA (HU.o.kept DR7.o);have d0:wr.drew.cell? (aDr b 0)=some (.slice (some (aDr zb 0)) Z.length zc):=aB I7.o.h rfl;have HC1:Hid (∀ V u p r,NI1 w6 b (.slice (some (aDr zb 0)) Z.length zc) s c o u p r V->V.cell? (aDr b 0)=some (.slice (some (aDr zb 0)) Z.length zc)/\V.cell? ⟨zb,i*12+1,none⟩=some (.I (n:Int))):=aA fun V u p r h=>⟨aB h.h rfl,by
     have:=(HZV.o _ _ _ _ h).cells HZ.o (j:=1) (v:=.I z.1.2.f.n) rfl;rw [this,HNN.o]⟩
    have c4:wr.drew.cell? ⟨b,4+n,none⟩=some (.bool (uB (Z.take i) n)):=aB I7.o.h (bE4 hn9);have fz:=fun j=>aK I7.o.h j;have I8:=aA (I7.o.put hn9);rw [<- HN.o] at I8;clear c0 y0 y1;refine wp_region_held_drew (S:=fun w'=>w'.cell? (aDr b 0)=some (.slice (some (aDr zb 0)) Z.length zc)/\w'.cell? ⟨zb,i*12+1,none⟩=some (.I (n:Int))) (by kernel_rfl) (HC1.o _ _ _ _ I7.o) ?_;intro hS0;refine aCD (v:=?_) 0 ?_ ?_;rotate_left
    ·intro wz hSw;obtain⟨hs0,hs1⟩:=hSw;go_simp
     try with_reducible rfl
    dsimp only [Act.put,i7,g7,g8];simp only [f8,i8,i9];refine aCD (v:=?_) 1 ?_ ?_;rotate_left
    ·intro wz hSw;obtain⟨hs0,hs1⟩:=hSw;go_simp
     try with_reducible rfl
    dsimp only [Act.put,i7,g7,g8];simp only [f8,i8,i9];refine aCD (v:=?_) 2 ?_ ?_;rotate_left
    ·intro wz hSw;obtain⟨hs0,hs1⟩:=hSw;go_simp
     try with_reducible rfl
    dsimp only [Act.put,i7,g7,g8];simp only [f8,i8,i9];refine aCD (v:=?_) 3 ?_ ?_;rotate_left
    ·intro wz hSw;obtain⟨hs0,hs1⟩:=hSw;go_simp
     try with_reducible rfl
    dsimp only [Act.put,i7,g7,g8];simp only [f8,i8,i9];refine aCD (v:=?_) 4 ?_ ?_;rotate_left
    ·intro wz hSw;obtain⟨hs0,hs1⟩:=hSw;go_simp
     try with_reducible rfl
    dsimp only [Act.put,i7,g7,g8];simp only [f8,i8,i9];refine aCD (v:=?_) 5 ?_ ?_;rotate_left
    ·intro wz hSw;obtain⟨hs0,hs1⟩:=hSw;go_simp
     try with_reducible rfl
    dsimp only [Act.put,i7,g7,g8];simp only [f8,i8,i9];refine aCD (v:=?_) 6 ?_ ?_;rotate_left
    ·intro wz hSw;obtain⟨hs0,hs1⟩:=hSw;go_simp
     try with_reducible rfl
    dsimp only [Act.put,i7,g7,g8];simp only [f8,i8,i9];refine aCD (v:=?_) 7 ?_ ?_;rotate_left
    ·intro wz hSw;obtain⟨hs0,hs1⟩:=hSw;go_simp
     try with_reducible rfl
    dsimp only [Act.put,i7,g7,g8];simp only [f8,i8,i9];refine aCD (v:=?_) 8 ?_ ?_;rotate_left
    ·intro wz hSw;obtain⟨hs0,hs1⟩:=hSw;go_simp
     try with_reducible rfl
    dsimp only [Act.put,i7,g7,g8];simp only [f8,i8,i9];refine aCD (v:=?_) 9 ?_ ?_;rotate_left
    ·intro wz hSw;obtain⟨hs0,hs1⟩:=hSw;go_simp
     try with_reducible rfl
    dsimp only [Act.put,i7,g7,g8];simp only [f8,i8,i9];refine aCD (v:=?_) 10 ?_ ?_;rotate_left
    ·intro wz hSw;obtain⟨hs0,hs1⟩:=hSw;go_simp
     try with_reducible rfl
    dsimp only [Act.put,i7,g7,g8];simp only [f8,i8,i9];refine aCD (v:=?_) 11 ?_ ?_;rotate_left
    ·intro wz hSw;obtain⟨hs0,hs1⟩:=hSw;go_simp
     try with_reducible rfl
    dsimp only [Act.put,i7,g7,g8];simp only [f8,i8,i9];refine wpAnyH_ready (rs:=[12]) (by kernel_rfl) (by simp) ?_;refine AllReadyH.cons rfl (fun K hK=>?_) AllReadyH.nil;go_simp;refine hK.out _ _ (HC1.o _ _ _ _ I7.o) (fun hS1=>?_);clear hK K;refine wpAnyH_ready (rs:=[13]) (by kernel_rfl) (by simp) ?_;refine AllReadyH.cons rfl (fun K hK=>?_) AllReadyH.nil;go_simp;refine hK.out _ _ (HC1.o _ _ _ _ I8.o) (fun hS2=>?_);clear hK K;refine wpAnyH_done (by kernel_rfl) ?_ _;clear hS0 hS1 hS2;go_wp2;go_roundw
    case rel=>exact⟨i+1,by omega,by go_num,I8.o⟩
    case measure=>simp only [intOf];omega
   ·have e8:(z.1.2.f.k==8)=false:=by simpa using h8
    have HN:Hid (uB (Z.take (i+1))=uB (Z.take i)):=aA (by
     funext m
     rw [HT.o m,e8,Bool.false_and,Bool.or_false])
    clear hz h8;go_wp2;go_roundw
    case rel=>exact⟨i+1,by omega,by go_num,by rw [HN.o];exact HU.o⟩
    case measure=>simp only [intOf];omega
  ·have i0:¬ (i:Int)<(Z.length:Int):=by omega
   have HT:Hid (Z.take i=Z):=aA (o4 (by omega));rw [HT.o] at HU;clear HT;have MB:=eA Z.length (by omega);have MR:=aE3 Z.length (by omega);have fz:=fun j=>aK HU.o.h j;have c14:wr.cell? (aDr b 14)=some (.slice none 0 0):=aB HU.o.h rfl;have lb2:b<wr.heap.size:=aC HU.o.h;go_upto_region 8 with fail
   have hz7:(wr.setCell (aDr b 14) (.slice (some (aDr wr.heap.size 0)) Z.length Z.length)).heap.size=wr.heap.size:=by simp [World.setCell]
   have A7:Hid (Below (wr.setCell (aDr b 14) (.slice (some (aDr wr.heap.size 0)) Z.length Z.length)).heap.size (wr.setCell (aDr b 14) (.slice (some (aDr wr.heap.size 0)) Z.length Z.length)) ((wr.setCell (aDr b 14) (.slice (some (aDr wr.heap.size 0)) Z.length Z.length)).alloc (.cells (noC Z.length) 4))):=bz9;have hwr:w.heap.size<=wr.heap.size:=o0 BW6.o.size HU.o.f.size;have I7:=aA ((HU.o.setp (.slice (some (aDr wr.heap.size 0)) Z.length Z.length)).kept A7.o);have R7:Hid (BR w.heap.size ((wr.setCell (aDr b 14) (.slice (some (aDr wr.heap.size 0)) Z.length Z.length)).alloc (.cells (noC Z.length) 4)) wr.heap.size Z.length (cJ Z.length)):=aA (by
    have:=iW (base:=w.heap.size) (n:=Z.length) (V:=(wr.setCell (aDr b 14) (.slice (some (aDr wr.heap.size 0)) Z.length Z.length))) (by rw [hz7];exact hwr) (by omega);rwa [hz7] at this)
   clear fz c14 MB A7 hz7;generalize ((wr.setCell (aDr b 14) (.slice (some (aDr wr.heap.size 0)) Z.length Z.length)).alloc (.cells (noC Z.length) 4))=w7 at I7 R7 ⊢;generalize wr.heap.size=gp at I7 R7 ⊢;have fz:=fun j=>aK I7.o.h j;have c15:w7.cell? (aDr b 15)=some (.slice none 0 0):=aB I7.o.h rfl;have c0':w7.cell? (aDr b 0)=some (.slice (some (aDr zb 0)) Z.length zc):=aB I7.o.h rfl;have lb3:b<w7.heap.size:=aC I7.o.h;clear c0 lb2 hwr HU;go_upto_region 9 with fail
   have hz8:(w7.setCell (aDr b 15) (.slice (some (aDr w7.heap.size 0)) Z.length Z.length)).heap.size=w7.heap.size:=by simp [World.setCell]
   have A8:Hid (Below (w7.setCell (aDr b 15) (.slice (some (aDr w7.heap.size 0)) Z.length Z.length)).heap.size (w7.setCell (aDr b 15) (.slice (some (aDr w7.heap.size 0)) Z.length Z.length)) ((w7.setCell (aDr b 15) (.slice (some (aDr w7.heap.size 0)) Z.length Z.length)).alloc (.cells (rzC Z.length) 110))):=bz9;have hwr:w.heap.size<=w7.heap.size:=o0 BW6.o.size I7.o.f.size;have I8:=aA ((I7.o.setr (.slice (some (aDr w7.heap.size 0)) Z.length Z.length)).kept A8.o);have R8:Hid (BR w.heap.size ((w7.setCell (aDr b 15) (.slice (some (aDr w7.heap.size 0)) Z.length Z.length)).alloc (.cells (rzC Z.length) 110)) gp Z.length (cJ Z.length)):=aA (BR.kept (aH R7.o ((Fr.refl (fun k=>k=b) w7).setCell (p:=(aDr b 15)) rfl _) (fun g hg e=>by
    obtain⟨-,-,cur,hc'⟩:=aF R7.o hg;exact bD hc' I7.o.h (by decide) e)) A8.o)
   have Q8:Hid (((w7.setCell (aDr b 15) (.slice (some (aDr w7.heap.size 0)) Z.length Z.length)).alloc (.cells (rzC Z.length) 110)).ownsRow w.heap.size 110 1 (.slice (some (aDr w7.heap.size 0)) Z.length Z.length) Z.length (List.replicate Z.length (.slice none 0 0))):=aA (by
    refine⟨by simp,.inr ⟨w7.heap.size,Z.length,rzC Z.length,rfl,hwr,?_,t8 _,by unfold maxLen;omega,by simp [rzC],by simp [rzC]⟩⟩;have h9:=aD (w7.setCell (aDr b 15) (.slice (some (aDr w7.heap.size 0)) Z.length Z.length)) (.cells (rzC Z.length) 110);rw [hz8] at h9;exact h9)
   clear fz c15 c0' MR A8 hz8;generalize ((w7.setCell (aDr b 15) (.slice (some (aDr w7.heap.size 0)) Z.length Z.length)).alloc (.cells (rzC Z.length) 110))=w8 at I8 R8 Q8 ⊢;generalize w7.heap.size=gr at I8 Q8 ⊢;have J8:Hid (NI2 w b (.slice (some (aDr zb 0)) Z.length zc) s c o Z gp gr 0 (cJ Z.length) w8):=aA ⟨I8.o.h,HZV.o _ _ _ _ I8.o,Q8.o,R8.o,cZ _,fun j x h=>by omega,BW6.o.trans (I8.o.f.below (o0 BW6.o.size lz9) (fun k e=>by omega))⟩;clear I7 I8 R7 R8 Q8 HZV;go_upto_region 10 with fail
   go_loopw [9] (fun iv wr=>∃ (i:Nat) (is:List Bool),i<=Z.length/\iv=.I (i:Int)/\NI2 w b (.slice (some (aDr zb 0)) Z.length zc) s c o Z gp gr i is wr) (fun iv _=>Z.length-(intOf iv).toNat)
   case atStart=>exact⟨0,cJ Z.length,o9 _,rfl,J8.o⟩
   case round=>
    obtain⟨i2,is,hi2,rfl,hj⟩:=hrel;have HJ:=aA hj;clear hj J8;have c0:wr.cell? (aDr b 0)=some (.slice (some (aDr zb 0)) Z.length zc):=aB HJ.o.h rfl;by_cases hil2:i2<Z.length
    ·have j0:(i2:Int)<(Z.length:Int):=by omega
     have hw3:IntKind.wrap .i64 ((i2:Int)+1)=(i2:Int)+1:=wrap_small _ (by omega) (by omega);obtain⟨z,hz⟩:∃ z,Z[i2]?=some z:=⟨_,g9 hil2⟩;have HZ:=aA hz;obtain⟨T,hT⟩:∃ T,z.2=T:=⟨_,rfl⟩;have hT1:T=i2+z.1.2.sz:=(by rw [<- hT];exact HTO.o i2 z hz);have hT2:T<=Z.length:=by
      have h2:(pp [] t)[i2]?=some z.1:=(by rw [<- HMP.o,aAO,hz];rfl);obtain⟨r,hr⟩:=seg t [] i2 z.1 h2;have h3:=congrArg List.length hr;rw [o5,bL,aAR,<- HMP.o,aAC] at h3;omega
     have HT1:=aA hT1;have HT:=aA hT;clear hz hT hT1;go_upto_region 14 with fail
     go_loopw [10,11] (fun pv kv wr=>∃ (k:Nat) (P:Bool),i2<=k/\k<=T/\P=okR ⟨s,c,o,uB Z⟩ ((Z.drop i2).take (k-i2))/\pv=.bool P/\kv=.I (k:Int)/\NI2 w b (.slice (some (aDr zb 0)) Z.length zc) s c o Z gp gr i2 is wr) (fun _ kv _=>T-(intOf kv).toNat)
     case atStart=>exact⟨i2,true,t8 _,by have:=HT1.o;omega,by rw [aBF,aAL];rfl,rfl,rfl,HJ.o⟩
     case round=>
      obtain⟨k,P,hk1,hk2,hP,rfl,rfl,hj⟩:=hrel;have HJ3:=aA hj;have HP:=aA hP;clear hj hP HJ c0;have c0:wr.cell? (aDr b 0)=some (.slice (some (aDr zb 0)) Z.length zc):=aB HJ3.o.h rfl;have y11:=HJ3.o.z.cells HZ.o (j:=11) (v:=.I (z.2:Int)) rfl;rw [HT.o] at y11;by_cases hkT:k<T
      ·have k0:(k:Int)<(T:Int):=by omega
       have hkz:(k:Int)<(Z.length:Int):=(by omega);have hw4:IntKind.wrap .i64 ((k:Int)+1)=(k:Int)+1:=wrap_small _ (by omega) (by omega);obtain⟨x,hx⟩:∃ x,Z[k]?=some x:=⟨_,g9 (by omega)⟩;have y0:=HJ3.o.z.cells hx (j:=0) (v:=.I x.1.2.f.k) rfl;have y1:=HJ3.o.z.cells hx (j:=1) (v:=.I x.1.2.f.n) rfl;have y2:=HJ3.o.z.cells hx (j:=2) (v:=.I x.1.2.f.mn) rfl;have y3:=HJ3.o.z.cells hx (j:=3) (v:=.I x.1.2.f.mx) rfl;have y4:=HJ3.o.z.cells hx (j:=4) (v:=.slice x.1.2.f.rq x.1.2.f.rs.length x.1.2.f.rc) rfl;have y5:=HJ3.o.z.cells hx (j:=5) (v:=.slice x.1.2.f.kq x.1.2.f.kl x.1.2.f.kc) rfl;rw [aAJ] at y0;have HSN:Hid (okR ⟨s,c,o,uB Z⟩ ((Z.drop i2).take (k+1-i2))=(P && !bdB ⟨s,c,o,uB Z⟩ x.1.2.f)):=aA (by rw [aN7 hk1 hx,HP.o]);have HNX:=aA (HNZ.o k x hx);go_upto_region 17 with fail
       have B4:Hid (wBl wr (wr.alloc (.cells (nDf x.1.2.f) 25))):=bz9;have N4:Hid (BoxN (wr.alloc (.cells (nDf x.1.2.f) 25)) wr.heap.size x.1.2.f):=aD wr _;have J4:=aA (HJ3.o.kept B4.o);generalize (wr.alloc (.cells (nDf x.1.2.f) 25))=w4 at B4 N4 J4 ⊢;clear y0 y1 y2 y3 y4 y5 y11 c0 hx B4 HJ3;generalize wr.heap.size=bn at N4 ⊢;obtain⟨n0,n1,n2,n3,n4,n5⟩:=N4.o.six;simp only [m7] at n1 n2 n3 n4 n5;have l1:bn<w4.heap.size:=aC N4.o;have l2:b<w4.heap.size:=aC J4.o.h;by_cases h8:x.1.2.f.k=8
       ·have HB:Hid (bdB ⟨s,c,o,uB Z⟩ x.1.2.f=true):=aA (by unfold bdB;rw [h8];rfl);have e8:(x.1.2.f.k==8)=true:=(by rw [h8];rfl);clear h8;clear n2 n3 n4 n5;refine wx9 ?_
        repeat (go_big_quiet_step (first | exact rfl))
        refine wpQuiet_nil ?_;intro w5 hw5;have J5:=aA (J4.o.kept (aM hw5));clear hw5;go_wp2;go_roundw
        case rel=>exact⟨k+1,false,by omega,by omega,(by rw [HSN.o,HB.o];simp),rfl,by go_num,J5.o⟩
        case measure=>simp only [intOf];omega
       ·have e8:(x.1.2.f.k==8)=false:=by simpa using h8
        by_cases h7:x.1.2.f.k=7
        ·have e7:(x.1.2.f.k==7)=true:=by rw [h7];rfl
         obtain⟨n,hn,hn1⟩:∃ n:Nat,x.1.2.f.n=(n:Int)/\1<=n:=by
          have hb:=HNX.o.2 h7;exact⟨x.1.2.f.n.toNat,by omega,by omega⟩
         have HB:Hid (bdB ⟨s,c,o,uB Z⟩ x.1.2.f=(decide ((n:Int)<10)&&uB Z n)):=aA (by unfold bdB kep;rw [e8,e7,hn];simp);rw [hn] at n1;clear h7 h8 hn;by_cases h10:(n:Int)<10
         ·rw [aAM h10,aCB] at HB;have c4:w4.cell? ⟨b,4+n,none⟩=some (.bool (uB Z n)):=aB J4.o.h (bE4 (by omega));have in0:(0:Int)<=(n:Int):=(by omega);generalize uB Z n=U at HB c4
          cases U with
          | true=>
           clear n2 n3 n4 n5;refine wx9 ?_
           repeat (go_big_quiet_step (first | exact rfl))
           refine wpQuiet_nil ?_;intro w5 hw5;have J5:=aA (J4.o.kept (aM hw5));clear hw5;go_wp2;go_roundw
           case rel=>exact⟨k+1,false,by omega,by omega,(by rw [HSN.o,HB.o];simp),rfl,by go_num,J5.o⟩
           case measure=>simp only [intOf];omega
          | false=>
           clear n2 n3 n4 n5;refine wx9 ?_
           repeat (go_big_quiet_step (first | exact rfl))
           refine wpQuiet_nil ?_;intro w5 hw5;have J5:=aA (J4.o.kept (aM hw5));clear hw5;go_wp2;go_roundw
           case rel=>exact⟨k+1,P,by omega,by omega,(by rw [HSN.o,HB.o];simp),rfl,by go_num,J5.o⟩
           case measure=>simp only [intOf];omega
         ·rw [r9 h10,Bool.false_and] at HB;clear n2 n3 n4 n5;refine wx9 ?_
          repeat (go_big_quiet_step (first | exact rfl))
          refine wpQuiet_nil ?_;intro w5 hw5;have J5:=aA (J4.o.kept (aM hw5));clear hw5;go_wp2;go_roundw
          case rel=>exact⟨k+1,P,by omega,by omega,(by rw [HSN.o,HB.o];simp),rfl,by go_num,J5.o⟩
          case measure=>simp only [intOf];omega
        ·have e7:(x.1.2.f.k==7)=false:=by simpa using h7
         have HB:Hid (bdB ⟨s,c,o,uB Z⟩ x.1.2.f=false):=aA (by unfold bdB;rw [e8,e7];rfl);clear h7 h8;clear n2 n3 n4 n5;refine wx9 ?_
         repeat (go_big_quiet_step (first | exact rfl))
         refine wpQuiet_nil ?_;intro w5 hw5;have J5:=aA (J4.o.kept (aM hw5));clear hw5;go_wp2;go_roundw
         case rel=>exact⟨k+1,P,by omega,by omega,(by rw [HSN.o,HB.o];simp),rfl,by go_num,J5.o⟩
         case measure=>simp only [intOf];omega
      ·have k0:¬ (k:Int)<(T:Int):=by omega
       have HPL:Hid (P=plB ⟨s,c,o,uB Z⟩ z.1.2):=aA (by
        rw [HP.o,show k-i2=z.1.2.sz by have:=HT1.o;omega];exact aZ1 HMP.o HZ.o)
       have c14:wr.cell? (aDr b 14)=some (.slice (some (aDr gp 0)) Z.length Z.length):=aB HJ3.o.h rfl;have hfz:=HJ3.o.r.frz i2;obtain⟨d0,hd0⟩:∃ d0,wr.cell? (aDr gp i2)=some (.bool d0):=⟨_,HJ3.o.r.cell (g9 (by rw [HJ3.o.n];omega))⟩;have J6:=aA (HJ3.o.put HZ.o HPL.o);go_wp2;go_roundw
       case rel=>exact⟨i2+1,_,by omega,by go_num,J6.o⟩
       case measure=>simp only [intOf];omega
    ·have j0:¬ (i2:Int)<(Z.length:Int):=by omega
     go_wp2;go_ret;have hism:is.map Value.bool=Z.map fun z=>Value.bool (plB ⟨s,c,o,uB Z⟩ z.1.2):=by
      apply List.ext_getElem?;intro j;by_cases hj:j<Z.length
      ·rw [aAO,aAO,HJ.o.m j _ (by omega) (g9 hj),g9 hj]
       rfl
      ·rw [List.getElem?_eq_none (by rw [aAC,HJ.o.n];omega),List.getElem?_eq_none (by rw [aAC];omega)]
     have hno:∀ (j k:Nat),(List.replicate Z.length (none:Option Nat))[j]?=some (some k)->False:=fun j k h=>by
      have:=n8 h;simp at this
     refine⟨⟨t,⟨s,c,o,uB Z⟩,Z,w.heap.size,b,zb,zc,gp,Z.length,gr,Z.length⟩,List.replicate Z.length none,rfl,⟨HJ.o.h,HJ.o.z,?_,?_,fun i j k h _=>(hno i k h).elim,fun i k z h _=>(hno i k h).elim,hwb,HTA.o.kept HJ.o.bel,HFT.o,fun _=>by omega⟩,⟨HMP.o,HTO.o,hZ,hs,HNP.o⟩,rfl,rfl,rfl,rfl,rfl,rfl,HJ.o.bel⟩
     ·have:=HJ.o.r;unfold BR at this;rw [hism,HJ.o.n] at this;exact this
     ·have:=HJ.o.q;rw [show (List.replicate Z.length (none:Option Nat)).map (rwV s.size)=List.replicate Z.length (.slice none 0 0) by rw [List.map_replicate];rfl];exact this
end
section
attribute [local go_sem] Oper.semAt_some aU
def bN3(w:World)(s:ByteArray)(e:Ending)(w':World):Prop:=∃ (q:Option Addr) (c:Nat) (l:List Nat),e=.returned (.slice q l.length c)/\Ls12 w.heap.size w' q c l/\(∀ j∈l,j<=s.size)/\l.length<=s.size+1/\wBl w w'
theorem bL1(w:World):RsI w (some (aDr w.heap.size 0)) 1 [0] (w.alloc (.cells #[.I 0] 3)):=by
 refine⟨⟨by simp,.inr ⟨w.heap.size,1,#[.I 0],by simp,t8 _,aD w _,by simp,by unfold maxLen;omega,by simp,by simp⟩⟩,bz9⟩
theorem tZ(s:ByteArray)(hs:s.size<=1000000)(w:World):Calls Tryz.prog 26 #[.string s] w (bN3 w s):=by
 have U1:=aA (bL1 w);go_enter Tryz.func26,Tryz.ntmps26;go_upto_region 3 with fail
 generalize (w.alloc (.cells #[.I 0] 3))=w1 at U1 ⊢;obtain⟨g,hg⟩:∃ g,w.heap.size=g:=⟨_,rfl⟩;have U2:Hid (RsI w (some (aDr g 0)) 1 [0] w1):=aA (by rw [<- hg];exact U1.o);rw [hg];clear U1 hg;go_loopw [3,4] (fun lv av wr=>∃ (a:Nat) (q:Option Addr) (cc:Nat) (l:List Nat),a<=s.size/\av=.I (a:Int)/\lv=.slice q l.length cc/\(∀ j∈l,j<=s.size)/\l.length<=a+1/\RsI w q cc l wr) (fun _ av _=>s.size-(intOf av).toNat)
 case atStart=>exact⟨0,some (aDr g 0),1,[0],by omega,rfl,rfl,by simp,by simp,U2.o⟩
 case round=>
  obtain⟨a,q,cc,l,ha,rfl,rfl,hj,hlen,hu⟩:=hrel;have HU:=aA hu;have HJ:=aA hj;clear hu hj;rename World=>wr;by_cases hal:a<s.size
  ·have i0:(a:Int)<(s.size:Int):=by omega
   have NX:=aA (zA s a wr hal (by omega));have hwp:=aH9 s a;have hwd:=(aI0 s a hal).2;obtain⟨cv,hcv⟩:∃ x,ch s a=x:=⟨_,rfl⟩;obtain⟨wv,hwv⟩:∃ x,wd s a=x:=⟨_,rfl⟩;rw [hcv,hwv] at NX;rw [hwv] at hwp hwd;clear hcv hwv;obtain⟨k,hk⟩:∃ k,a+wv=k:=⟨_,rfl⟩;have hk1:a<k:=(by omega);have hk2:k<=s.size:=(by omega);have hwr:IntKind.wrap .i64 ((a:Int)+(wv:Int))=(k:Int):=(by rw [wrap_small _ (by omega) (by omega)];omega);clear hk;go_upto_region 6 with (go_at_call 49;(with_reducible refine(NX.o).mono ?_);rintro e w5 ⟨rfl,h5⟩;have B5:=aA h5;clear h5)
   have U5:Hid (RsI w q cc l w5):=aA ⟨aH (S:=fun _=>False) HU.o.l (Fr.of_below B5.o) (fun _ _ q=>q),aG HU.o.bel B5.o lz9⟩;clear HU B5;clear hwr hwp hwd;obtain⟨t0,hi,hz0,hz1,hz2⟩:=aR gU;have Y7:Hid ((w5.alloc (.cells #[.I (k:Int)] 3)).ownsRow w.heap.size 3 1 (.slice q l.length cc) l.length (l.map fun j:Nat=>.I (j:Int))):=aAB U5.o.l _;have HNEW:Hid (∀ j u,([.I (k:Int)]:List Value)[j]?=some u->(w5.alloc (.cells #[.I (k:Int)] 3)).cell? (((aDr w5.heap.size 0):Addr).add j)=some u):=fU w5 [.I (k:Int)] _;have HB8:Hid (w.heap.size<=(w5.alloc (.cells #[.I (k:Int)] 3)).heap.size):=o0 U5.o.bel.size (by simp);go_wp2_with (at_builtin;refine wpList_append_own_at _ rfl _ _ 35 rfl w.heap.size 3 t0 (.I 0) 1 8 gP hi hz0 hz1 hz2 rfl (by decide) (.slice q l.length cc) l.length (l.map fun j:Nat=>.I (j:Int)) rfl Y7.o (aDr w5.heap.size 0) 1 1 [.I (k:Int)] rfl rfl HNEW.o (by simp [Value.oneCell']) (by unfold maxLen;omega) (by omega) HB8.o ?_;intro v' w6 hown' hgrow _ _;obtain⟨q6,c6,rfl⟩:=aQ hown';have U6:=aA (U5.o.snoc hown' hgrow);clear hown' hgrow)
   go_roundw
   case rel=>exact⟨k,q6,c6,l++[k],hk2,rfl,by rw [o5];rfl,fun j hj=>(o3.1 hj).elim (HJ.o j) (fun e=>by rw [s9.1 e];exact hk2),by rw [o5];simp;omega,U6.o⟩
   case measure=>simp only [intOf];omega
  ·have i0:¬ (a:Int)<(s.size:Int):=by omega
   go_wp2;go_ret;exact⟨q,cc,l,rfl,HU.o.l,HJ.o,by omega,HU.o.bel⟩
theorem uI(s:ByteArray)(hs:s.size<=1000000)(c o:Bool)(w:World):Calls Tryz.prog 10 #[.string s,.agg #[.bool c,.bool o]] w (bN3 w s):=by
 have B0:Hid (wBl w (w.alloc (.cells #[.bool c,.bool o] 27))):=bz9;have c0:(w.alloc (.cells #[.bool c,.bool o] 27)).cell? (aDr w.heap.size 0)=some (.bool c):=aB (aD w _) rfl;go_enter Tryz.func10,Tryz.ntmps10;go_upto_region 1 with fail
 generalize (w.alloc (.cells #[.bool c,.bool o] 27))=w1 at B0 c0 ⊢
 cases c with
 | true=>
  have PL:=aA (tZ s hs w1);go_wp2_with (go_at_call 26;(with_reducible refine(PL.o).mono ?_);rintro e w5 ⟨q,cc,l,rfl,h1,h2,h3,h4⟩;have R5:Hid (bN3 w s (.returned (.slice q l.length cc)) w5):=aA ⟨q,cc,l,rfl,bI h1 B0.o.size,h2,h3,aG B0.o h4 lz9⟩;clear h1 h2 h3 h4)
  go_ret;exact R5.o
 | false=>
  have U1:Hid (RsI w none 0 [] w1):=aA ⟨aAY _ _ _ _,B0.o⟩;clear B0;go_upto_region 5 with fail
  go_loopw [5,6] (fun lv av wr=>∃ (a:Nat) (q:Option Addr) (cc:Nat) (l:List Nat),a<=s.size+1/\av=.I (a:Int)/\lv=.slice q l.length cc/\(∀ j∈l,j<=s.size)/\l.length<=a/\RsI w q cc l wr) (fun _ av _=>s.size+1-(intOf av).toNat)
  case atStart=>exact⟨0,none,0,[],by omega,rfl,rfl,by simp,by simp,U1.o⟩
  case round=>
   obtain⟨a,q,cc,l,ha,rfl,rfl,hj,hlen,hu⟩:=hrel;have HU:=aA hu;have HJ:=aA hj;clear hu hj U1;rename World=>wr;by_cases hal:a<=s.size
   ·have i0:(a:Int)<=(s.size:Int):=by omega
    have hw2:IntKind.wrap .i64 ((a:Int)+1)=(a:Int)+1:=wrap_small _ (by omega) (by omega);obtain⟨t0,hi,hz0,hz1,hz2⟩:=aR gU;have Y7:Hid ((wr.alloc (.cells #[.I (a:Int)] 3)).ownsRow w.heap.size 3 1 (.slice q l.length cc) l.length (l.map fun j:Nat=>.I (j:Int))):=aAB HU.o.l _;have HNEW:Hid (∀ j u,([.I (a:Int)]:List Value)[j]?=some u->(wr.alloc (.cells #[.I (a:Int)] 3)).cell? (((aDr wr.heap.size 0):Addr).add j)=some u):=fU wr [.I (a:Int)] _;have HB8:Hid (w.heap.size<=(wr.alloc (.cells #[.I (a:Int)] 3)).heap.size):=o0 HU.o.bel.size (by simp);go_wp2_with (at_builtin;refine wpList_append_own_at _ rfl _ _ 35 rfl w.heap.size 3 t0 (.I 0) 1 8 gP hi hz0 hz1 hz2 rfl (by decide) (.slice q l.length cc) l.length (l.map fun j:Nat=>.I (j:Int)) rfl Y7.o (aDr wr.heap.size 0) 1 1 [.I (a:Int)] rfl rfl HNEW.o (by simp [Value.oneCell']) (by unfold maxLen;omega) (by omega) HB8.o ?_;intro v' w6 hown' hgrow _ _;obtain⟨q6,c6,rfl⟩:=aQ hown';have U6:=aA (HU.o.snoc hown' hgrow);clear hown' hgrow)
    go_roundw
    case rel=>exact⟨a+1,q6,c6,l++[a],by omega,by go_num,by rw [o5];rfl,fun j hj=>(o3.1 hj).elim (HJ.o j) (fun e=>by rw [s9.1 e];exact hal),by rw [o5];simp;omega,U6.o⟩
    case measure=>simp only [intOf];omega
   ·have i0:¬ (a:Int)<=(s.size:Int):=by omega
    go_wp2;go_ret;exact⟨q,cc,l,rfl,HU.o.l,HJ.o,by omega,HU.o.bel⟩
end
end Go.Proofs.YtlamifbjklpdbaaGreat
