/-
  Parts of the proof.
-/
import Derived.Test.YtdgfpiekjigfnaaGreatDoorHoldsProofA0
import Derived.Test.YtdgfpiekjigfnaaGreatDoorHoldsProofB24
import Derived.Test.YtdgfpiekjigfnaaGreatDoorHoldsProofB29
import Derived.Test.YtdgfpiekjigfnaaGreatDoorHoldsProofB22
import Derived.Test.YtdgfpiekjigfnaaGreatDoorHoldsProofB30
import Derived.Test.YtdgfpiekjigfnaaGreatDoorHoldsProofB2
import Derived.Deep.Slices
import Derived.Deep.SlicePairs
import Derived.ChangeSame
import Derived.SizedLaws
import Derived.Test.YtdgfpiekjigfnaaGreatDoorRows
set_option maxRecDepth 100000
set_option maxHeartbeats 8000000
namespace Go.Proofs.YtdgfpiekjigfnaaGreatDoor
open Go Go.RowKit
section
open Go Go.RowKit Go.Shelf
attribute [local go_sem] Oper.semAt_some aS
structure LH(w:World)(c o:Bool)(sb:Nat)(vs:BitVec 256)(H:Gh)(pq:Option Addr)(pc:Nat)(pl:List Nat)(rs:lOn)(wk:Int)(mu:Bool)(V:World):Prop where
 md:V.heap[w.heap.size+1]?=some (.cells #[.bool c,.bool o] 27 (0,0))
 st:V.heap[sb]?=some (.cells #[.int .u64 (aD vs 0),.int .u64 (aD vs 1),.int .u64 (aD vs 2),.int .u64 (aD vs 3)] 36 (0,0))
 wm:WM H V rs wk mu
 pl:Ls12 H.base V pq pc pl
 b1:w.heap.size+1<H.base
 b2:sb<H.base
 bel:wBl w V
variable {w V V':World} {c o:Bool} {sb:Nat} {vs:BitVec 256} {H:Gh} {pq:Option Addr} {pc:Nat} {pl:List Nat} {rs rs':lOn} {wk wk':Int} {mu mu':Bool}
theorem LH.kept(h:LH w c o sb vs H pq pc pl rs wk mu V)(hb:wBl V V'):LH w c o sb vs H pq pc pl rs wk mu V':=
 ⟨(hb.block _ (aB h.md)).trans h.md,(hb.block _ (aB h.st)).trans h.st,h.wm.below hb,h.pl.kept hb,h.b1,h.b2,aJ h.bel hb lz9⟩
theorem LH.ends(h:LH w c o sb vs H pq pc pl rs wk mu V)(he:ES H V rs wk mu V' rs' wk' mu'):LH w c o sb vs H pq pc pl rs' wk' mu' V':=by
 have key:∀ k,k<H.base->k<V.heap.size->V'.heap[k]?=V.heap[k]?:=fun k hk hl=>he.f.block k hl (fun q=>by
  rcases q with q | q
  ·have:=h.wm.wf_lo q;omega
  ·exact q.elim)
 refine⟨(key _ h.b1 (aB h.md)).trans h.md,(key _ h.b2 (aB h.st)).trans h.st,he.wm,iM h.pl h.wm he.f (fun _ _ e=>e) ⟨by decide,by decide,by decide⟩,h.b1,h.b2,h.bel.trans (he.f.below h.bel.size (fun k q=>?_))⟩;rcases q with q | q
 ·have:=h.wm.wf_lo q;have:=h.b1;omega
 ·exact q.elim
theorem bT3{l:List Nat}{n:Nat}(h:l.Pairwise (· < ·))(hm:∀ j∈l,j<=n):l.length<=n+1:=by
 have key:∀ (l:List Nat) (m b:Nat),l.Pairwise (· < ·)->(∀ j∈l,b<=j/\j<b+m)->l.length<=m:=by
  intro l
  induction l with
  | nil=>intro m b _ _;simp
  | cons x l ih=>
   intro m b hpw hm;obtain⟨m',rfl⟩:∃ m',m=m'+1:=⟨m-1,by have:=hm x (by simp);omega⟩;have:=ih m' (b+1) (aAP.1 hpw).2 (fun j hj=>by
    have h3:=(aAP.1 hpw).1 j hj;have h4:=hm x (by simp);have h5:=hm j (by simp [hj]);omega)
   simp;omega
 exact key l (n+1) 0 h (fun j hj=>by have:=hm j hj;omega)
theorem zM{w:World}{t:Tr}(c o:Bool)(s:ByteArray)(hT:TB w t)(hf:∀ x∈pp [] t,x.2.f.rs.length<=1048576)(hG:GloS w) :
  Calls Tryz.prog 3 #[.agg (nDf t.f),.string s,.agg #[.bool c,.bool o]] w fun e w'=>e=.returned (.bool true)/\wBl w w':=by
 have hsm:Sm t:=fun x hx=>m8 (hf x hx) (by omega);have X1:Hid (Bx2 w ((w.alloc (.cells (nDf t.f) 25)).alloc (.cells #[.bool c,.bool o] 27)) t.f c o):=⟨(bz9).alloc (by simp) _,(Below.heap_alloc _ _ _ (by simp)).trans (aE w _),aK _ (by simp only [f4])⟩;have EX:Hid (∀ W,wBl w W->Calls Tryz.prog 5 #[] W fun e w'=>e=.returned (.bool true)/\wBl W w'):=fun W hW=>xF (GloS.ck (CK.of_below hW) hG);have RT:Hid (∀ W,wBl w W->Calls Tryz.prog 6 #[.agg (nDf t.f),.agg #[.bool c,.bool o]] W fun e w'=>e=.returned (.I (aW c o 0 0 (pp [] t)))/\wBl W w'):=fun W hW=>aI7 c o (hT.kept hW) (fun x hx=>m8 (hf x hx) (by omega));have DS:Hid (∀ W,wBl w W->Calls Tryz.prog 7 #[.agg (nDf t.f),.agg #[.bool c,.bool o]] W fun e w'=>e=.returned (.I (tvI (fW c) c o t))/\wBl W w'):=fun W hW=>bN4 c o (hT.kept hW) hsm;have PW:Hid (∀ W,wBl w W->Calls Tryz.prog 8 #[.agg (nDf t.f),.agg #[.bool c,.bool o]] W fun e w'=>e=.returned (.tuple #[.I (tvW (bV c) c o t).1,.I (tvW (bV c) c o t).2])/\wBl W w'):=fun W hW=>tP c o (hT.kept hW);have PA:Hid (∀ W,wBl w W->Calls Tryz.prog 9 #[.agg (nDf t.f),.agg #[.bool c,.bool o]] W fun e w'=>e=.returned (.tuple #[.bool (tvA cS c o t).1,.bool (tvA cS c o t).2])/\wBl W w'):=fun W hW=>pQ c o (hT.kept hW);have PF:Hid (∀ W,wBl w W->Calls Tryz.prog 10 #[.agg (nDf t.f),.agg #[.bool c,.bool o]] W fun e w'=>e=.returned (stV (tvS (bU c) c o t))/\wBl W w'):=fun W hW=>vQ c o (hT.kept hW) (GloS.ck (CK.of_below hW) hG);have PL:Hid (∀ W,wBl w W->Calls Tryz.prog 11 #[.agg (nDf t.f),.agg #[.bool c,.bool o]] W fun e w'=>e=.returned (.tuple #[.string (nL c o t).1,.bool (nL c o t).2])/\wBl W w'):=fun W hW=>qU c o (hT.kept hW);have PP:Hid (∀ W,wBl w W->Calls Tryz.prog 12 #[.agg (nDf t.f),.agg #[.bool c,.bool o]] W fun e w'=>e=.returned (.string (tvO (bN c) c o t).1)/\wBl W w'):=fun W hW=>tT c o (hT.kept hW);have HTA:=aC hT;have HCR:Hid (∀ (L:Ln),L.s=s->L.c=c->L.o=o->aW c o 0 0 (pp [] t)=0->∀ (a:Nat),a<=s.size->∀ y:Cf,Mt L t (cf0 a) y->Crt s o (tvW (bV c) c o t) (tvA cS c o t) (tvS (bU c) c o t) (tvO (bN c) c o t).1 (nL c o t).1 (nL c o t).2 a y.p):=aC fun L h1 h2 h3 hr a ha y hy=>by
  subst h1 h2 h3;exact bW2 hr ha hy
 generalize tvI (fW c) c o t=sz at DS;generalize tvW (bV c) c o t=vw at PW HCR;generalize tvA cS c o t=va at PA HCR;generalize tvS (bU c) c o t=vs at PF HCR;generalize (tvO (bN c) c o t).1=vp at PP HCR;generalize nL c o t=vl at PL HCR;obtain⟨lo,hi⟩:=vw;obtain⟨va1,va2⟩:=va;obtain⟨vs1,vs2⟩:=vs;obtain⟨vl1,vl2⟩:=vl;unfold stV at PF;dsimp only at PW PA PF PL;clear hT hf hG hsm;go_enter Tryz.func3,Tryz.ntmps3;go_upto_region 1 with fail
 generalize ((w.alloc (.cells (nDf t.f) 25)).alloc (.cells #[.bool c,.bool o] 27))=w1 at X1 ⊢;go_upto_region 2 with (go_at_call 5;refine(EX.o _ X1.o.1).mono ?_;rintro e w2 ⟨rfl,h2⟩;have X2:=aC (X1.o.kept h2);clear h2)
 clear X1 EX;obtain⟨n0,n1,n2,n3,n4,n5⟩:=X2.o.2.1.six;simp only [m9] at n1 n2 n3 n4 n5;have a0:=aA X2.o.2.2 (i:=0) rfl;have a1:=aA X2.o.2.2 (i:=1) rfl;by_cases h40:40<s.size
 ·have i40:(40:Int)<(s.size:Int):=by omega
  go_wp2;go_ret;exact⟨rfl,X2.o.1⟩
 have i40:¬ (40:Int)<(s.size:Int):=by omega
 by_cases hr:aW c o 0 0 (pp [] t)=0
 case neg=>
  have er:(aW c o 0 0 (pp [] t) != 0)=true:=by simpa using hr
  generalize aW c o 0 0 (pp [] t)=R at RT er;clear hr HCR;go_wp2_with (go_at_call 6;refine(RT.o _ X2.o.1).mono ?_;rintro e w3 ⟨rfl,h3⟩;have X3:=aC (X2.o.kept h3);clear h3;obtain⟨m0,m1,m2,m3,m4,m5⟩:=X3.o.2.1.six;simp only [m9] at m1 m2 m3 m4 m5;have b0:=aA X3.o.2.2 (i:=0) rfl;have b1:=aA X3.o.2.2 (i:=1) rfl)
  go_ret;exact⟨rfl,X3.o.1⟩
 rw [hr] at RT;have HR:=aC hr;clear hr;by_cases hsz:10000<sz
 ·go_wp2_with first
   |(go_at_call 6;refine(RT.o _ X2.o.1).mono ?_;rintro e w3 ⟨rfl,h3⟩;have X3:=aC (X2.o.kept h3);clear h3;obtain⟨m0,m1,m2,m3,m4,m5⟩:=X3.o.2.1.six;simp only [m9] at m1 m2 m3 m4 m5;have b0:=aA X3.o.2.2 (i:=0) rfl;have b1:=aA X3.o.2.2 (i:=1) rfl)
   |(go_at_call 7;refine(DS.o _ X3.o.1).mono ?_;rintro e w4 ⟨rfl,h4⟩;have X4:=aC (X3.o.kept h4);clear h4)
  go_ret;exact⟨rfl,X4.o.1⟩
 go_upto_region 4 with first
  |(go_at_call 6;refine(RT.o _ X2.o.1).mono ?_;rintro e w3 ⟨rfl,h3⟩;have X3:=aC (X2.o.kept h3);clear h3;obtain⟨m0,m1,m2,m3,m4,m5⟩:=X3.o.2.1.six;simp only [m9] at m1 m2 m3 m4 m5;have b0:=aA X3.o.2.2 (i:=0) rfl;have b1:=aA X3.o.2.2 (i:=1) rfl)
  |(go_at_call 7;refine(DS.o _ X3.o.1).mono ?_;rintro e w4 ⟨rfl,h4⟩;have X4:=aC (X3.o.kept h4);clear h4)
 clear n0 n1 n2 n3 n4 n5 a0 a1 m0 m1 m2 m3 m4 m5 b0 b1 X2 X3 RT DS hsz;obtain⟨n0,n1,n2,n3,n4,n5⟩:=X4.o.2.1.six;simp only [m9] at n1 n2 n3 n4 n5;have a0:=aA X4.o.2.2 (i:=0) rfl;have a1:=aA X4.o.2.2 (i:=1) rfl;go_upto_region 5 with (go_at_call 8;refine(PW.o _ X4.o.1).mono ?_;rintro e w5 ⟨rfl,h5⟩;have X5:=aC (X4.o.kept h5);clear h5)
 clear n0 n1 n2 n3 n4 n5 a0 a1 X4;obtain⟨n0,n1,n2,n3,n4,n5⟩:=X5.o.2.1.six;simp only [m9] at n1 n2 n3 n4 n5;have a0:=aA X5.o.2.2 (i:=0) rfl;have a1:=aA X5.o.2.2 (i:=1) rfl;go_upto_region 6 with (go_at_call 9;refine(PA.o _ X5.o.1).mono ?_;rintro e w6 ⟨rfl,h5⟩;have X6:=aC (X5.o.kept h5);clear h5)
 clear n0 n1 n2 n3 n4 n5 a0 a1 X5;obtain⟨n0,n1,n2,n3,n4,n5⟩:=X6.o.2.1.six;simp only [m9] at n1 n2 n3 n4 n5;have a0:=aA X6.o.2.2 (i:=0) rfl;have a1:=aA X6.o.2.2 (i:=1) rfl;go_upto_region 7 with (go_at_call 10;refine(PF.o _ X6.o.1).mono ?_;rintro e w7 ⟨rfl,h5⟩;have X7:=aC (X6.o.kept h5);clear h5)
 clear n0 n1 n2 n3 n4 n5 a0 a1 X6;have B8:Hid (wBl w7 (w7.alloc (.cells #[.int .u64 (aD vs1 0),.int .u64 (aD vs1 1),.int .u64 (aD vs1 2),.int .u64 (aD vs1 3)] 36))):=bz9;have X8:=aC (X7.o.kept B8.o);have S8:Hid ((w7.alloc (.cells #[.int .u64 (aD vs1 0),.int .u64 (aD vs1 1),.int .u64 (aD vs1 2),.int .u64 (aD vs1 3)] 36)).heap[w7.heap.size]?=some (.cells #[.int .u64 (aD vs1 0),.int .u64 (aD vs1 1),.int .u64 (aD vs1 2),.int .u64 (aD vs1 3)] 36 (0,0))):=aC (aE w7 _);generalize (w7.alloc (.cells #[.int .u64 (aD vs1 0),.int .u64 (aD vs1 1),.int .u64 (aD vs1 2),.int .u64 (aD vs1 3)] 36))=w8 at X8 S8 ⊢;generalize w7.heap.size=sb at S8 ⊢;clear X7 B8;obtain⟨n0,n1,n2,n3,n4,n5⟩:=X8.o.2.1.six;simp only [m9] at n1 n2 n3 n4 n5;have a0:=aA X8.o.2.2 (i:=0) rfl;have a1:=aA X8.o.2.2 (i:=1) rfl;go_upto_region 8 with (go_at_call 11;refine(PL.o _ X8.o.1).mono ?_;rintro e w9 ⟨rfl,h5⟩;have X9:=aC (X8.o.kept h5);have S9:=aC ((h5.block _ (aB S8.o)).trans S8.o);clear h5)
 clear n0 n1 n2 n3 n4 n5 a0 a1 X8 S8;obtain⟨n0,n1,n2,n3,n4,n5⟩:=X9.o.2.1.six;simp only [m9] at n1 n2 n3 n4 n5;have a0:=aA X9.o.2.2 (i:=0) rfl;have a1:=aA X9.o.2.2 (i:=1) rfl;go_upto_region 9 with (go_at_call 12;refine(PP.o _ X9.o.1).mono ?_;rintro e w10 ⟨rfl,h5⟩;have X10:=aC (X9.o.kept h5);have S10:=aC ((h5.block _ (aB S9.o)).trans S9.o);clear h5)
 clear n0 n1 n2 n3 n4 n5 a0 a1 X9 S9;obtain⟨n0,n1,n2,n3,n4,n5⟩:=X10.o.2.1.six;simp only [m9] at n1 n2 n3 n4 n5;have a0:=aA X10.o.2.2 (i:=0) rfl;have a1:=aA X10.o.2.2 (i:=1) rfl;have NW:=aC (bL4 (HTA.o.kept X10.o.1) HR.o (s:=s) (by omega));have hb1:=aB X10.o.2.2;have hb2:=aB S10.o;go_upto_region 10 with (go_at_call 13;(with_reducible refine(NW.o).mono ?_);rintro e w11 ⟨H,rs,rfl,h1,h2,h3,h4,h5,h6,h7,h8⟩;have W11:=aC h1;have K11:=aC h2;have HT:=aC h3;have HLS:=aC h4;have HLC:=aC h5;have HLO:=aC h6;have HBE:=aC h7;have hs11:=h8.size;have X11:=aC (X10.o.kept h8);have S11:=aC ((h8.block _ (aB S10.o)).trans S10.o);clear h1 h2 h3 h4 h5 h6 h7 h8)
 clear n0 n1 n2 n3 n4 n5 a0 a1 X10 S10 NW;have a0:=aA X11.o.2.2 (i:=0) rfl;have a1:=aA X11.o.2.2 (i:=1) rfl;have PC:=aC (yY s (by omega) c o w11);go_upto_region 11 with (go_at_call 14;(with_reducible refine(PC.o).mono ?_);rintro e w12 ⟨pq,pc,pl,rfl,h1,h2,h3,h4⟩;have J12:=aC h2;have hpl:=h3;have L12:Hid (LH w c o sb vs1 H pq pc pl rs 0 false w12):=aC ⟨(h4.block _ (aB X11.o.2.2)).trans X11.o.2.2,(h4.block _ (aB S11.o)).trans S11.o,W11.o.below h4,h1.mono (by rw [HBE.o];exact hs11),by rw [HBE.o];exact hb1,by rw [HBE.o];exact hb2,aJ X11.o.1 h4 lz9⟩;clear h1 h2 h3 h4)
 clear a0 a1 X11 S11 W11 PC hs11 hb1 hb2;have HC2:Hid (∀ (a:Nat),a<=s.size->∀ y:Cf,Mt H.L H.t (cf0 a) y->Crt s o (lo,hi) (va1,va2) (vs1,vs2) vp vl1 vl2 a y.p):=aC fun a ha y hy=>HCR.o H.L HLS.o HLC.o HLO.o HR.o a ha y (by rw [<- HT.o];exact hy);have HSS:Hid (∀ a:Nat,a<=s.size->a<=H.L.s.size):=aC fun a h=>by rw [HLS.o];exact h
 clear HCR HT HLS HLC HLO HBE HR HTA PW PA PF PL PP;go_upto_region 12 with fail
 go_loopw [19] (fun iv wr=>∃ (i:Nat) (rs':lOn) (wk':Int) (mu':Bool),i<=pl.length/\iv=.I (i:Int)/\LH w c o sb vs1 H pq pc pl rs' wk' mu' wr) (fun iv _=>pl.length-(intOf iv).toNat)
 case atStart=>exact⟨0,rs,0,false,o9 _,rfl,L12.o⟩
 case round=>
  obtain⟨i,rs5,wk5,mu5,hi5,rfl,hl5⟩:=hrel;have HL:=aC hl5;clear hl5 L12;by_cases hil:i<pl.length
  ·have i0:(i:Int)<(pl.length:Int):=by omega
   have hw2:IntKind.wrap .i64 ((i:Int)+1)=(i:Int)+1:=wrap_small _ (by omega) (by omega);obtain⟨a,ha⟩:∃ a,pl[i]?=some a:=⟨_,i9 hil⟩;have has:=J12.o a (n7 ha);obtain⟨gp,rfl,gp1,gp2,gp3⟩:=HL.o.pl.at (by omega);have y0:=HL.o.pl.cell ha;have EN:=aC (bG9 K11.o HL.o.wm (HSS.o a has));clear ha;go_upto_region 16 with (go_at_call 15;(with_reducible refine(EN.o).mono ?_);rintro e w6 ⟨eq,ec,l,rs6,wk6,mu6,rfl,h1,h2,h3,h4,h5⟩;have E6:=aC h1;have M6:=aC h3;have L6:=aC (HL.o.ends h5);have hll:l.length<=s.size+1:=(bT3 h2 (fun j hj=>by obtain⟨y,hy,e⟩:=h3 j hj;rw [<- e];exact(HC2.o a has y hy).js));clear h1 h2 h3 h4 h5)
   clear y0 EN HL;have c17:=L6.o.wm.cell (i:=17) (v:=.bool mu6) rfl
   cases mu6 with
   | true=>
    go_wp2;go_ret;exact⟨rfl,L6.o.bel⟩
   | false=>
    go_upto_region 19 with fail
    clear c17;go_loopw [22] (fun kv wr=>∃ k:Nat,k<=l.length/\kv=.I (k:Int)/\wBl w6 wr) (fun kv _=>l.length-(intOf kv).toNat)
    case atStart=>exact⟨0,o9 _,rfl,Below.refl _ _⟩
    case round=>
     obtain⟨k,hk,rfl,hb⟩:=hrel;have B7:=aC hb;clear hb;by_cases hkl:k<l.length
     ·have k0:(k:Int)<(l.length:Int):=by omega
      have hw3:IntKind.wrap .i64 ((k:Int)+1)=(k:Int)+1:=wrap_small _ (by omega) (by omega);obtain⟨j,hj⟩:∃ j,l[k]?=some j:=⟨_,i9 hkl⟩;have CR:Hid (Crt s o (lo,hi) (va1,va2) (vs1,vs2) vp vl1 vl2 a j):=aC (by
       obtain⟨y,hy,e⟩:=M6.o j (n7 hj);rw [<- e];exact HC2.o a has y hy)
      have L7:=aC (L6.o.kept B7.o);have E7:=aC (E6.o.kept B7.o);obtain⟨ge,rfl,ge1,ge2,ge3⟩:=E7.o.at (by omega);have y0:=E7.o.cell hj;obtain⟨n,hn⟩:∃ n:Int,(j:Int)=a+n:=⟨(j:Int)-a,by omega⟩;have hn0:0<=n:=(by have:=CR.o.aj;omega);have hjs:=CR.o.js;have hws:IntKind.wrap .i64 ((j:Int)-(a:Int))=n:=(by rw [wrap_small _ (by omega) (by omega)];omega);have HN:=aC hn;clear hj hn ge1 ge2 ge3;have d1:¬ n<lo:=(by have h9:=CR.o.w1;have:=HN.o;simp only at h9;omega);go_upto_region 22 with fail
      go_cut [137] (fun v wx=>v=.bool false/\wx=wr)
      case first=>
       have f2:hi=-1\/(hi≠-1/\¬ hi<n):=by
        have:=HN.o;by_cases hh:hi=-1
        ·exact .inl hh
        ·refine .inr ⟨hh,?_⟩;have:=CR.o.w2.resolve_left hh;simp only at this;omega
       have fa:=CR.o.a1;have fb:=CR.o.a2;simp only at fa fb;have ea:va1=true->((a:Int) != 0)=false:=fun e=>by rw [fa e];rfl
       have eb:va2=true->((j:Int) != (s.size:Int))=false:=fun e=>by rw [fb e];simp
       clear fa fb;rcases f2 with eh | ⟨eh',d2⟩
       ·have eh2:(hi != -1)=false:=by rw [eh];rfl
        clear eh
        cases va1 with
        | true=>
         have ea':=ea rfl;clear ea
         cases va2 with
         | true=>have eb':=eb rfl;clear eb;go_wp2_with fail;go_meet;exact⟨rfl,rfl⟩
         | false=>clear eb;go_wp2_with fail;go_meet;exact⟨rfl,rfl⟩
        | false=>
         clear ea
         cases va2 with
         | true=>have eb':=eb rfl;clear eb;go_wp2_with fail;go_meet;exact⟨rfl,rfl⟩
         | false=>clear eb;go_wp2_with fail;go_meet;exact⟨rfl,rfl⟩
       ·have eh2:(hi != -1)=true:=by simpa using eh'
        clear eh'
        cases va1 with
        | true=>
         have ea':=ea rfl;clear ea
         cases va2 with
         | true=>have eb':=eb rfl;clear eb;go_wp2_with fail;go_meet;exact⟨rfl,rfl⟩
         | false=>clear eb;go_wp2_with fail;go_meet;exact⟨rfl,rfl⟩
        | false=>
         clear ea
         cases va2 with
         | true=>have eb':=eb rfl;clear eb;go_wp2_with fail;go_meet;exact⟨rfl,rfl⟩
         | false=>clear eb;go_wp2_with fail;go_meet;exact⟨rfl,rfl⟩
      case rest=>
       obtain⟨rfl,hwc⟩:=hcut;subst wc;go_upto_region 24 with fail
       clear y0 d1;go_cut [162] (fun v wx=>v=.bool false/\wBl wr wx)
       case first=>
        by_cases hz:n=0
        ·have e0:(n==0)=true:=by rw [hz];rfl
         have i00:¬ 0<n:=(by omega);have hv2:vs2=true:=CR.o.f1 (by have:=HN.o;omega);subst hv2;clear hz;refine wx9 ?_
         repeat (go_big_quiet_step (first | exact rfl))
         refine wpQuiet_nil ?_;intro w8 hw8;have B8:=aP hw8;clear hw8;go_wp2_with fail
         go_meet;exact⟨rfl,B8⟩
        ·have e0:(n==0)=false:=by simpa using hz
         have i00:0<n:=(by omega);have hbit:vs1.getLsbD (bt s a)=true:=CR.o.f2 (by have:=HN.o;omega);have za:a<s.size:=(by have:=HN.o;omega);have gx:(s[a]'za).toNat=bt s a:=jF s a za;have gl:=jA s a;generalize bt s a=b at gx gl hbit;have ya:(a:Int)<(s.size:Int):=(by omega);have yz:(0:Int)<=(a:Int):=(by omega);have ls:sb<wr.heap.size:=aB L7.o.st;have xc:wr.cell? ⟨sb,b/64,none⟩=some (.int .u64 (aD vs1 (b/64))):=by
          have h4:b/64<4:=(by omega);generalize b/64=q at h4;rcases q with _ | _ | _ | _ | q
          ·exact aA L7.o.st rfl
          ·exact aA L7.o.st rfl
          ·exact aA L7.o.st rfl
          ·exact aA L7.o.st rfl
          ·omega
         have hbz:(bits .and .u64 (aD vs1 (b/64)/2 ^ (b%64)) 1==0)=false:=by
          have h:=aN8 vs1 (b/64) (b%64) (by omega);rw [show 64*(b/64)+b%64=b by omega,hbit] at h;rw [eq_of_beq h]
          rfl
         clear hz hbit;refine wx9 ?_
         repeat (go_big_quiet_step (first | exact rfl))
         refine wpQuiet_nil ?_;intro w8 hw8;have B8:=aP hw8;clear hw8;go_wp2_with fail
         go_meet;exact⟨rfl,B8⟩
       case rest=>
        obtain⟨rfl,hwc⟩:=hcut;have L8:=aC (L7.o.kept hwc);have B8:=aC (aJ B7.o hwc lz9);clear hwc L7 E7 B7;have a1:=aA L8.o.md (i:=1) rfl;have SP:=aC (fun W=>yK s vp a o W (by omega) (by have:=CR.o.p1;have:=CR.o.js;omega) CR.o.p2);have SL:=aC (fun W=>yK s vl1 a o W (by omega) (by have:=CR.o.l1;have:=CR.o.js;omega) CR.o.l2);go_upto_region 27 with (go_at_call 16;(with_reducible refine(SP.o _).mono ?_);rintro e w9 ⟨rfl,h9⟩;have L9:=aC (L8.o.kept h9);have B9:=aC (aJ B8.o h9 lz9);clear h9)
        clear a1 L8 B8;have a1:=aA L9.o.md (i:=1) rfl;go_upto_region 28 with (go_at_call 16;(with_reducible refine(SL.o _).mono ?_);rintro e w10 ⟨rfl,h9⟩;have L10:=aC (L9.o.kept h9);have B10:=aC (aJ B9.o h9 lz9);clear h9)
        clear a1 L9 B9;have dp:¬ n<(vp.size:Int):=(by have:=CR.o.p1;have:=HN.o;omega);have dl:vl2=true->((vl1.size:Int) != n)=false:=fun e=>by
         have h1:=CR.o.l3 e;have h2:=HN.o;have h3:(vl1.size:Int)=n:=(by omega);rw [h3];simp
        cases vl2 with
        | true=>
         have dl':=dl rfl;clear dl;go_wp2;go_roundw
         case rel=>exact⟨k+1,by omega,by go_num,B10.o⟩
         case measure=>simp only [intOf];omega
        | false=>
         clear dl;go_wp2;go_roundw
         case rel=>exact⟨k+1,by omega,by go_num,B10.o⟩
         case measure=>simp only [intOf];omega
     ·have k0:¬ (k:Int)<(l.length:Int):=by omega
      have L7:=aC (L6.o.kept B7.o);go_wp2;go_roundw
      case rel=>exact⟨i+1,rs6,wk6,false,by omega,by go_num,L7.o⟩
      case measure=>simp only [intOf];omega
  ·have i0:¬ (i:Int)<(pl.length:Int):=by omega
   go_wp2;go_ret;exact⟨rfl,HL.o.bel⟩
end
section
open Go Go.ChangeShapes Go.WideShapes Go.ChangeAt Go.RowKit
theorem tJ:Tryz.prog.cellsOf 25=6:=by kernel_rfl
theorem aT5:Tryz.prog.cellsOf 92=2:=by kernel_rfl
theorem aH2:Tryz.prog.cellsOf 22=1:=by kernel_rfl
theorem aH3:Tryz.prog.cellsOf 23=1:=by kernel_rfl
theorem aA8{w:World}{g o:Nat}{v:Value}(h:w.cell? (aDr g o)=some v):g<w.heap.size:=by
 rcases Nat.lt_or_ge g w.heap.size with h' | h'
 ·exact h'
 ·have:w.heap[g]?=none:=Array.getElem?_eq_none h';simp [World.cell?,this] at h
theorem aB1{a:Addr}{W:World}{v:Value}(h:W.cell? (a.add 0)=some v):∃ b off,a=(aDr b off):=by
 obtain⟨b,off,cX⟩:=a
 cases cX with
 | none=>exact⟨b,off,rfl⟩
 | some k=>
  exfalso
  unfold Addr.add World.cell? at h;simp at h
  split at h <;> simp_all
theorem aA4:Tryz.prog.cellsOf 27=2:=by kernel_rfl
theorem aA5:Tryz.prog.cellsOf 4=1:=by kernel_rfl
theorem aG0{H:Type}{enc:TypeId×Value->H}{W:World}{base:Nat}{v:Value}{d:DataW H}{p:List MemPlace}(hok:Value.okWide Tryz.prog W .any base 27 v)
  (h:DataW.Trod enc Tryz.prog W 0 (fun _=>true) true 27 v d p):∃ c f:Bool,v=.agg #[.bool c,.bool f]:=by
 obtain⟨cs,rfl,hsz⟩:=okWide_struct Tryz.underlying27 hok;obtain⟨fuel,hf⟩:=h;obtain⟨xs,k,hk,hxy,hcl,hxl,hfs⟩:=DataW.trod_struct Tryz.underlying27 hf;rw [aA4] at hcl;obtain⟨l⟩:=cs;simp [Value.cells] at hcl hfs
 match xs,hxl,l,hcl,hfs with
 | [y0,y1],_,[c0,c1],_,hf=>
  have F0:=hf 0 _ rfl;have F1:=hf 1 _ rfl;simp [aA5] at F0 F1;obtain⟨b0,e0,-⟩:=DataW.trod_bool Tryz.underlying4 F0;obtain⟨b1,e1,-⟩:=DataW.trod_bool Tryz.underlying4 F1;cases e0;cases e1;exact⟨b0,b1,rfl⟩
end
section
open Go Go.ChangeShapes Go.WideShapes Go.ChangeAt Go.RowKit
theorem aT6{H:Type}(d:DataW H):1<=Rows.uptoBulk d:=by
 cases d with
 | lit l=>cases l <;> simp [Rows.uptoBulk]
 | nil=>simp [Rows.uptoBulk]
 | ptr d=>simp [Rows.uptoBulk]
 | slice elems spare=>simp [Rows.uptoBulk]
 | agg parts=>simp [Rows.uptoBulk]
 | iface t d=>simp [Rows.uptoBulk]
 | map entries=>simp [Rows.uptoBulk]
 | held h=>simp [Rows.uptoBulk]
theorem kQ{H:Type}{d:DataW H}{l:List (DataW H)}(h:d∈l):Rows.uptoBulk d<=Rows.uptoBulkAll l:=by
 induction l with
 | nil=>cases h
 | cons x r ih=>
  simp only [Rows.uptoBulkAll]
  cases aBB.1 h with
  | inl e=>subst e;omega
  | inr e=>have:=ih e;omega
theorem aT7{H:Type}(l:List (DataW H)):l.length<=Rows.uptoBulkAll l:=by
 induction l with
 | nil=>simp [Rows.uptoBulkAll]
 | cons x r ih=>have:=aT6 x;simp only [Rows.uptoBulkAll,o5];omega
theorem bF5{H:Type}{d:DataW H}{l:List (DataW H)}(hk:Rows.uptoSmall H l=true)(h:d∈l):Rows.uptoBulk d<=1048576:=m8 (kQ h) (of_decide_eq_true hk)
theorem aF7{H:Type}{enc:TypeId×Value->H}{W:World}{fuel:Nat}{v:Value}{x:DataW H×List MemPlace}(hf:DataW.trod enc Tryz.prog W 0 (fun _=>true) true fuel 22 [v]=some x)(hw:Rows.uptoBulk x.1<=1048576) :
  ∃ (rs:lIi) (q:Option Addr) (c:Nat),v=.slice q rs.length c/\ArgR W v rs/\Fit rs/\rs.length+3<=1048579:=by
 rcases Deep.open_slice_pairs Tryz.underlying22 Tryz.underlying92 aT5 rfl rfl jY jY hf with⟨h1,h2⟩ | ⟨a,len,cap,m,n,V0,V1,D0,D1,P0,P1,h1,_,hlc,hcap,hm,h2,hx⟩
 ·cases h1;exact⟨[],none,0,rfl,.inl ⟨none,0,rfl,rfl,fun _=>rfl⟩,kL,by simp⟩
 ·cases h1;rw [if_pos rfl] at hm;subst hm;by_cases hc:m=0
  ·have hl:len=0:=by omega
   subst hc hl;exact⟨[],some a,0,rfl,.inl ⟨some a,0,rfl,rfl,fun q=>(by cases q)⟩,kL,by simp⟩
  ·have hp:∀ i,i<m->∃ q:Int×Int,V0 i=.int .i64 q.1/\V1 i=.int .i64 q.2/\(Lit.int .i64 q.1).wf=true/\(Lit.int .i64 q.2).wf=true:=fun i hi=>by
    obtain⟨_,_,g0,g1⟩:=hx i hi;obtain⟨x0,e0,_,w0⟩:=DataW.trod_int Tryz.underlying3 g0;obtain⟨x1,e1,_,w1⟩:=DataW.trod_int Tryz.underlying3 g1;exact⟨(x0,x1),by simpa using e0,by simpa using e1,w0,w1⟩
   obtain⟨q,hq⟩:=Deep.choose_lt hp;have c0:=(hx 0 (by omega)).1;obtain⟨b,off,rfl⟩:=aB1 (by simpa using c0);have hadd:∀ j,((aDr b off):Addr).add j=⟨b,off+j,none⟩:=fun j=>by unfold Addr.add;split <;> simp_all
   have hb:b<W.heap.size:=by rw [hadd] at c0;exact aA8 c0
   refine⟨(List.range len).map q,some (aDr b off),m,by simp,.inr ⟨b,off,m,by simp,hb,by simpa using hlc,hcap,fun i r hi'=>?_⟩,fun r hr=>?_,?_⟩
   ·have hil:i<len:=by have:=(m7.1 hi').1;simpa using this
    have hqi:q i=r:=(by simpa [hil] using hi');obtain⟨k0,k1,_,_⟩:=hx i (by omega);rw [hadd,aAU] at k0;rw [hadd,aAU,<- aAN] at k1;obtain⟨r0,r1,_,_⟩:=hq i (by omega);rw [hqi] at r0 r1;exact⟨by rw [k0,r0],by rw [k1,r1]⟩
   ·obtain⟨i,hi,rfl⟩:=aAI.1 hr;have hil:i<len:=aCJ.1 hi;obtain⟨_,_,w0,w1⟩:=hq i (by omega);exact⟨yH w0,yH w1⟩
   ·obtain⟨es,sp,e1,e2⟩:∃ es sp,x.1=.slice es sp/\es.length=len:=⟨_,_,congrArg Prod.fst h2,by simp⟩;rw [e1] at hw;simp only [Rows.uptoBulk] at hw;have:=aT7 es;simp;omega
theorem aF9{H:Type}{enc:TypeId×Value->H}{W:World}:∀ (fuel:Nat) (cs:List Value) (x:DataW H×List MemPlace),DataW.trod enc Tryz.prog W 0 (fun _=>true) true fuel 25 cs=some x->Rows.uptoBulk x.1<=1048576 ->
  ∃ t:Tr,(TB W t/\bK (fun u=>u.f.rs.length<=1048576) t)/\cs=[.int .i64 t.f.k,.int .i64 t.f.n,.int .i64 t.f.mn,.int .i64 t.f.mx,.slice t.f.rq t.f.rs.length t.f.rc,.slice t.f.kq t.f.kl t.f.kc]:=by
 intro fuel
 induction fuel using Nat.strongRecOn with
 | ind fuel ih=>
  intro cs x hf hw;obtain⟨xs,k,hk,hxy,hcl,hxl,hfs⟩:=DataW.trod_struct Tryz.underlying25 hf;have hD:x.1=.agg (xs.map (·.1)):=(congrArg Prod.fst hxy);rw [hD] at hw;simp only [Rows.uptoBulk] at hw;rw [tJ] at hcl;clear hD hxy hf
  match xs,hxl,cs,hcl,hfs,hw with
  | [y0,y1,y2,y3,y4,y5],_,[v0,v1,v2,v3,v4,v5],_,hf,hwi=>
   have F0:=hf 0 _ rfl;have F1:=hf 1 _ rfl;have F2:=hf 2 _ rfl;have F3:=hf 3 _ rfl;have F4:=hf 4 _ rfl;have F5:=hf 5 _ rfl;simp [jY,aH2,aH3] at F0 F1 F2 F3 F4 F5;obtain⟨x0,e0,_,w0⟩:=DataW.trod_int Tryz.underlying3 F0;obtain⟨x1,e1,_,w1⟩:=DataW.trod_int Tryz.underlying3 F1;obtain⟨x2,e2,_,w2⟩:=DataW.trod_int Tryz.underlying3 F2;obtain⟨x3,e3,_,w3⟩:=DataW.trod_int Tryz.underlying3 F3;obtain⟨rs,q,c,rfl,hr,hfit,hlen⟩:=aF7 F4 (by have:=kQ (d:=y4.1) (l:=[y0,y1,y2,y3,y4,y5].map (·.1)) (by simp);omega);cases e0;cases e1;cases e2;cases e3;have hwk:Rows.uptoBulk y5.1<=1048576:=(by have:=kQ (d:=y5.1) (l:=[y0,y1,y2,y3,y4,y5].map (·.1)) (by simp);omega);rcases DataW.trod_slice Tryz.underlying23 F5 with⟨h1,h2⟩ | ⟨a,len,cap,elems,rest,n,hn,h1,h2,_,hlc,hcap,hel,hx,-,-⟩
   ·cases h1;exact⟨.mk ⟨x0,x1,x2,x3,rs,q,c,none,0,0⟩ [],⟨(aQ _).2 ⟨⟨hr,.inl ⟨none,0,rfl,rfl,fun _=>rfl⟩,hfit,m8 hlen (by decide)⟩,(bS _).2 fun u hu=>by cases hu⟩,(aQ _).2 ⟨(show rs.length<=1048576 by omega),(bS _).2 fun u hu=>by cases hu⟩⟩,rfl⟩
   ·cases h1;by_cases hl:len=0
    ·subst hl;exact⟨.mk ⟨x0,x1,x2,x3,rs,q,c,some a,0,cap⟩ [],⟨(aQ _).2 ⟨⟨hr,.inl ⟨some a,cap,rfl,rfl,fun z=>by cases z⟩,hfit,m8 hlen (by decide)⟩,(bS _).2 fun u hu=>by cases hu⟩,(aQ _).2 ⟨(show rs.length<=1048576 by omega),(bS _).2 fun u hu=>by cases hu⟩⟩,rfl⟩
    ·have each:∀ i,i<len->∃ t:Tr,(TB W t/\bK (fun u=>u.f.rs.length<=1048576) t)/\∀ j v,[Value.int .i64 t.f.k,.int .i64 t.f.n,.int .i64 t.f.mn,.int .i64 t.f.mx,.slice t.f.rq t.f.rs.length t.f.rc,.slice t.f.kq t.f.kl t.f.kc][j]?=some v->W.cell? (a.add (i*6+j))=some v:=by
      intro i hi;have hxi:=hx i hi;rw [i9 (by omega)] at hxi;obtain⟨cs',g1,g2⟩:=Option.bind_eq_some_iff.1 hxi;rw [tJ] at g1;obtain⟨_,hlc',hcell⟩:=World.cells?_some g1;obtain⟨t,ht,hcs⟩:=ih n (by omega) cs' _ g2 (by
       rw [show y5.1=.slice (elems.map (·.1)) (rest.map (·.1)) from congrArg Prod.fst h2] at hwk;simp only [Rows.uptoBulk] at hwk;refine m8 (kQ (l:=elems.map (·.1)) (aAI.2 ⟨_,List.getElem_mem _,rfl⟩)) (by omega))
      refine⟨t,ht,fun j v hj=>?_⟩;have hj6:j<6:=(by have:=(m7.1 hj).1;simpa using this);have:=hcell j (by omega);rw [Deep.add_add] at this;rw [this,hcs];exact hj
     have:Inhabited Tr:=⟨.mk ⟨0,0,0,0,[],none,0,none,0,0⟩ []⟩;obtain⟨tt,htt⟩:=Deep.choose_lt each;have c0:=(htt 0 (by omega)).2 0 _ rfl;obtain⟨b,off,rfl⟩:=aB1 (by simpa using c0);have hadd:∀ j,((aDr b off):Addr).add j=⟨b,off+j,none⟩:=fun j=>by unfold Addr.add;split <;> simp_all
     have hb:b<W.heap.size:=(by rw [hadd] at c0;exact aA8 c0);refine⟨.mk ⟨x0,x1,x2,x3,rs,q,c,some (aDr b off),len,cap⟩ ((List.range len).map tt),⟨(aQ _).2 ⟨⟨hr,.inr ⟨b,off,cap,by simp [Tr.f,Tr.ks],hb,by simpa [Tr.ks] using hlc,hcap,fun i t hi=>?_⟩,hfit,m8 hlen (by decide)⟩,(bS _).2 fun u hu=>?_⟩,(aQ _).2 ⟨(show rs.length<=1048576 by omega),(bS _).2 fun u hu=>?_⟩⟩,rfl⟩
     ·have hi':((List.range len).map tt)[i]?=some t:=hi;have hil:i<len:=(by have:=(m7.1 hi').1;simpa using this);have hqi:tt i=t:=(by simpa [hil] using hi');have hh:=(htt i hil).2;rw [hqi] at hh;simp only [hadd,<- aAN] at hh;exact⟨hh 0 _ rfl,hh 1 _ rfl,hh 2 _ rfl,hh 3 _ rfl,hh 4 _ rfl,hh 5 _ rfl⟩
     ·have hu':u∈(List.range len).map tt:=hu;obtain⟨i,hi,rfl⟩:=aAI.1 hu';exact(htt i (aCJ.1 hi)).1.1
     ·have hu':u∈(List.range len).map tt:=hu;obtain⟨i,hi,rfl⟩:=aAI.1 hu';exact(htt i (aCJ.1 hi)).1.2
theorem aF8{H:Type}{enc:TypeId×Value->H}{W:World}{base:Nat}{v:Value}{d:DataW H}{p:List MemPlace}(hok:Value.okWide Tryz.prog W .any base 25 v)
  (h:DataW.Trod enc Tryz.prog W 0 (fun _=>true) true 25 v d p) (hw:Rows.uptoBulk d<=1048576):∃ t:Tr,TB W t/\(∀ x∈pp [] t,x.2.f.rs.length<=1048576)/\v=.agg (nDf t.f):=by
 obtain⟨cs,rfl,hsz⟩:=okWide_struct Tryz.underlying25 hok;obtain⟨fuel,hf⟩:=h;obtain⟨t,⟨ht,hs⟩,hcs⟩:=aF9 fuel _ _ hf hw;refine⟨t,ht,fun x hx=>((aQ _).1 (gN (P:=fun u=>u.f.rs.length<=1048576) t [] hs x hx)).1,?_⟩;obtain⟨l⟩:=cs;simp [Value.cells] at hcs;rw [hcs]
end
end Go.Proofs.YtdgfpiekjigfnaaGreatDoor
