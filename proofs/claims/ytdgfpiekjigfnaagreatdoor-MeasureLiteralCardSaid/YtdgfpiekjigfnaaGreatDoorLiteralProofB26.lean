/-
  Parts of the proof.
-/
import Derived.Test.YtdgfpiekjigfnaaGreatDoorLiteralProofA0
import Derived.Test.YtdgfpiekjigfnaaGreatDoorLiteralProofB25
import Derived.Test.YtdgfpiekjigfnaaGreatDoorLiteralProofB15
import Derived.Test.YtdgfpiekjigfnaaGreatDoorLiteralProofB6
import Derived.Test.YtdgfpiekjigfnaaGreatDoorLiteralProofB16
import Derived.Test.YtdgfpiekjigfnaaGreatDoorLiteralProofB22
import Derived.Test.YtdgfpiekjigfnaaGreatDoorLiteralProofB2
import Derived.Test.YtdgfpiekjigfnaaGreatDoorLiteralProofB17
import Derived.Test.YtdgfpiekjigfnaaGreatDoorLiteralProofB24
import Derived.Test.YtdgfpiekjigfnaaGreatDoorLiteralProofB4
import Derived.Laws.OwnMore
set_option maxRecDepth 100000
set_option maxHeartbeats 8000000
namespace Go.Proofs.YtdgfpiekjigfnaaGreatDoor
open Go Go.RowKit
def kW(most:Nat)(t:Tr):List Zl:=lJ most [] ([],t)
theorem sO(most:Nat)(t:Tr):(kW most t).map (·.1)=(pp [] t).take most:=by
 unfold kW lJ;rw [aAP,List.length_nil,Nat.sub_zero,List.map_take,aV1]
theorem oN(most:Nat)(t:Tr):(kW most t).length=min most (pp [] t).length:=by
 have:=congrArg List.length (sO most t);rwa [aAG,aAC] at this
def bE7(w:World)(L:List Zl)(e:Ending)(w':World):Prop:=∃ q c,e=.returned (.slice q L.length c)/\ZR w.heap.size w' (.slice q L.length c) L/\wBl w w'
theorem aZ7{w:World}{t:Tr}(most:Nat)(hm:most<=100000)(hta:TB w t):Calls Tryz.prog 22 #[.agg (nDf t.f),.I (most:Int)] w (bE7 w (kW most t)):=by
 have B1:Hid (wBl w (w.alloc (.cells (nDf t.f) 25))):=bz9;have N1:BoxN (w.alloc (.cells (nDf t.f) 25)) w.heap.size t.f:=aE w _;obtain⟨c0,c1,c2,c3,c4,c5⟩:=N1.six;simp only [n7] at c1 c2 c3 c4 c5;have LY:Hid (Calls Tryz.prog 43 #[.slice none 0 0,.agg #[.I t.f.k,.I t.f.n,.I t.f.mn,.I t.f.mx,.slice t.f.rq t.f.rs.length t.f.rc,.slice t.f.kq t.f.kl t.f.kc,.I 1,.I 0,.bool true,.bool true,.bool true,.I 0],.I (most:Int)] (w.alloc (.cells (nDf t.f) 25)) (aA3 w (w.alloc (.cells (nDf t.f) 25)) (.slice none 0 0) (kW most t))):=(by
  have h:=bV6 (w0:=w) hm t.sz t [] (w.alloc (.cells (nDf t.f) 25)) [] none 0 lz9 hta B1.o (aBH _ _ _ _) lz9;have e:(zc (([],t),0)).toArray=#[.I t.f.k,.I t.f.n,.I t.f.mn,.I t.f.mx,.slice t.f.rq t.f.rs.length t.f.rc,.slice t.f.kq t.f.kl t.f.kc,.I 1,.I 0,.bool true,.bool true,.bool true,.I 0]:=(by simp [zc,Fl.cells,arP,fiP,laP,brP]);rw [e] at h;exact h)
 clear N1 hta;go_enter Tryz.func22,Tryz.ntmps22;go_wp2_with (go_at_call 43;(with_reducible refine(LY.o).mono ?_);rintro e w5 ⟨q5,k5,rfl,h51,h52,h53⟩;have X5:=aC h51;have F5:=aC h53;clear h51 h52 h53)
 go_ret;exact⟨q5,k5,rfl,X5.o,bB B1.o F5.o lz9 (fun k e=>by cases e)⟩
theorem ZR.cells{base:Nat}{W:World}{g c:Nat}{L:List Zl}(h:ZR base W (.slice (some (aDr g 0)) L.length c) L){i:Nat}{z:Zl}(hi:L[i]?=some z){j:Nat}{v:Value}(hj:(zc z)[j]?=some v):W.cell? ⟨g,i*12+j,none⟩=some v:=
 aM h ((kO L i j z hi (by have:=(m8.1 hj).1;rw [kX] at this;exact this)).trans hj)
theorem NB.foot{W:World}{t:Tr}(h:NB W t):bA7 (fun k=>k<W.heap.size) t:=by
 refine⟨fun a e hz=>?_,fun a e hz=>?_⟩
 ·rcases h.r with⟨p,cap,-,e2,-⟩ | ⟨g,off,cap,e2,hg,-⟩
  ·exact absurd e2 hz
  ·injection e2 with e3;rw [e] at e3;cases e3;exact hg
 ·rcases h.k with⟨p,cap,-,e2,-⟩ | ⟨g,off,cap,e2,hg,-⟩
  ·exact absurd e2 hz
  ·injection e2 with e3;rw [e] at e3;cases e3;exact hg
theorem TB.foot{W:World}{t:Tr}(h:TB W t):bU7 (fun k=>k<W.heap.size) t:=pZ (fun _=>NB.foot) t h
theorem NB.ckN{N:Nat->Prop}{W W':World}{t:Tr}(h:NB W t)(hf:bA7 N t)(hc:CKeep N W W'):NB W' t:=by
 refine⟨?_,?_,h.fit,h.len⟩
 ·rcases h.r with q | ⟨g,off,cap,e,hg,h1,h2,h3⟩
  ·exact .inl q
  ·injection e with e1 e2 e3;refine .inr ⟨g,off,cap,by rw [e1,e3],o4 hg hc.size,h1,h2,fun i x hx=>?_⟩;have hN:N g:=hf.1 _ e1 (fun z=>by rw [z] at hx;simp at hx);exact⟨dH hc (p:=⟨g,off+2*i,none⟩) hN (h3 i x hx).1,dH hc (p:=⟨g,off+2*i+1,none⟩) hN (h3 i x hx).2⟩
 ·rcases h.k with q | ⟨g,off,cap,e,hg,h1,h2,h3⟩
  ·exact .inl q
  ·injection e with e1 e2 e3;refine .inr ⟨g,off,cap,by rw [e1,e2,e3],o4 hg hc.size,h1,h2,fun i x hx=>(h3 i x hx).ck hc (hf.2 _ e1 (fun z=>by rw [z] at hx;simp at hx))⟩
theorem TB.ckN{N:Nat->Prop}{W W':World}{t:Tr}(h:TB W t)(hf:bU7 N t)(hc:CKeep N W W'):TB W' t:=aR6 (fun _ a b=>NB.ckN a b hc) t h hf
theorem aX4(par:Tr)(p:Way):∀ (ks:List Tr) (i j:Nat) (u:Tr),ks[j]?=some u->(pps par p i ks)[szs (ks.take j)]?=some ((par,i+j) :: p,u)
 | [],i,j,u,h=>by simp at h
 | v :: ks,i,0,u,h=>by
  simp at h;subst h;rw [aAA,eQ,bN,cL]
  rfl
 | v :: ks,i,j+1,u,h=>by
  rw [aAU] at h;rw [aBS,fM,bN,aAF (by rw [cQ];omega),cQ,Nat.add_sub_cancel_left,aX4 par p ks (i+1) j u h,show i+1+j=i+(j+1) by omega]
theorem bS8{t:Tr}{i:Nat}{x:El}(h:(pp [] t)[i]?=some x){j:Nat}{u:Tr}(hu:x.2.ks[j]?=some u):(pp [] t)[i+1+szs (x.2.ks.take j)]?=some ((x.2,j) :: x.1,u)/\i+1+szs (x.2.ks.take j)+u.sz<=i+x.2.sz:=by
 obtain⟨rest,hr⟩:=seg t [] i x h;have h1:=bM hu;have h2:=lA x.2.ks (j+1);have h3:=fE x.2;refine⟨?_,by omega⟩;have e:((pp [] t).drop i)[1+szs (x.2.ks.take j)]?=some ((x.2,j) :: x.1,u):=by
  rw [hr,aAE (by rw [cQ];have:=dS u;omega),cL,show 1+szs (x.2.ks.take j)=szs (x.2.ks.take j)+1 by omega,aAU,aX4 _ _ _ _ _ _ hu,n7]
 rw [aCB,<- aAO] at e;exact e
theorem bL0{T:Type}{ρ:dE T}(hρ:∀ f ks xs g g',ρ f ks xs g=ρ f ks xs g')(G:Int->T)(t:Tr):∀ g,(ev ρ g t).1=evG ρ G t:=by
 refine Tr.ind (P:=fun t=>∀ g,(ev ρ g t).1=evG ρ G t) (fun t ih g=>?_) t;have key:∀ (ks:List Tr) (g:Int->T),(∀ u∈ks,u∈t.ks)->(evs ρ g ks).1=qU ρ G ks:=by
  intro ks
  induction ks with
  | nil=>intro g _;rw [cK,qU]
  | cons u ks ihk=>
   intro g hm;rw [eB,qU,ih u (hm u t5) g,ihk _ (fun z hz=>hm z (t7 _ hz))]
 rw [jA,kL,key t.ks g (fun _ h=>h)];exact hρ _ _ _ _ _
def oG(c:Bool)(t:Tr):bAb:=evG (bI c) (fun _=>(noB,false)) t
theorem bV2(c:Bool)(t:Tr):oG c t=bI c t.f t.ks (t.ks.map (oG c)) (fun _=>(noB,false)):=by
 have:=kL (ρ:=bI c) (fun _=>(noB,false)) t;rw [lQ] at this;exact this
theorem bP2(c o:Bool)(t:Tr):tvO (bI c) c o t=if aU c o 0 0 (pp [] t)=0 then oG c t else (noB,false):=by
 unfold tvO;rw [bL0 (ρ:=bI c) (fun _ _ _ _ _=>rfl) (fun _=>(noB,false)) t]
 rfl
section
variable {L:Ln}
def StA(s l:ByteArray)(i:Nat):Prop:=i+l.size<=s.size/\∀ k,k<l.size->bt l k=bt s (i+k)
theorem vW{s a b:ByteArray}{i:Nat}(h:StA s (a++b) i):StA s a i/\StA s b (i+a.size):=by
 obtain⟨h1,h2⟩:=h;rw [dN] at h1 h2;refine⟨⟨by omega,fun k hk=>?_⟩,⟨by omega,fun k hk=>?_⟩⟩
 ·rw [<- tB hk (b:=b)];exact h2 k (by omega)
 ·rw [<- tA (a:=a),h2 (a.size+k) (by omega)]
  congr 1
  omega
theorem bN4:∀ (ks:List Tr) (xs:List (bAb)) (s:ByteArray) (b:Bool),(dR s b ks xs).2=true->b=true
 | [],_,s,b,h=>by rw [dR] at h;exact h
 | _ :: _,[],s,b,h=>by rw [dR] at h;exact h
 | u :: ks,x :: xs,s,b,h=>by
  rw [dR] at h
  split at h
  ·have:=bN4 ks xs _ _ h;rw [aAY] at this;exact this.1
  ·simp only [aAY] at h;exact h.1
theorem aH7:∀ (ks:List Tr) (xs:List (bAb)) (s:ByteArray) (b:Bool),∃ r,(dR s b ks xs).1=s++r
 | [],_,s,b=>⟨noB,by rw [dR];apply ByteArray.ext;rw [ByteArray.data_append];simp [noB]⟩
 | _ :: _,[],s,b=>⟨noB,by rw [dR];apply ByteArray.ext;rw [ByteArray.data_append];simp [noB]⟩
 | u :: ks,x :: xs,s,b=>by
  rw [dR]
  split
  ·obtain⟨r,hr⟩:=aH7 ks xs (s++x.1) (b&&x.2);exact⟨x.1++r,by rw [hr,ByteArray.append_assoc]⟩
  ·exact⟨x.1,rfl⟩
theorem bO0{v:bAb}(h:(dQ v).2=true):dQ v=v/\v.1.size<=1000:=by
 unfold dQ at h ⊢;by_cases hb:1000<v.1.size
 ·rw [if_pos hb] at h;cases h
 ·rw [if_neg hb];exact⟨rfl,by omega⟩
theorem yD{ks0:List Tr}(hk:∀ u∈ks0,(oG L.c u).2=true->∀ x:Cf,StA L.s (oG L.c u).1 x.p->∃ y,Mt L u x y/\y.p=x.p+(oG L.c u).1.size) :
  ∀ (ks:List Tr),(∀ u∈ks,u∈ks0)->∀ (s:ByteArray) (b:Bool) (a:Nat) (x:Cf),(dR s b ks (ks.map (oG L.c))).2=true->(dR s b ks (ks.map (oG L.c))).1.size<=1000->StA L.s (dR s b ks (ks.map (oG L.c))).1 a->x.p=a+s.size->∃ y,MtC L ks x y/\y.p=a+(dR s b ks (ks.map (oG L.c))).1.size
 | [],_,s,b,a,x,_,_,_,hx=>⟨x,(dL _ _).2 rfl,by rw [aCH,dR];exact hx⟩
 | u :: ks,hs,s,b,a,x,h2,hz,hst,hx=>by
  rw [aBP,dR] at h2 hz hst ⊢;by_cases hc:((((oG L.c u).2||u.f.k==3) && !(decide (1000<(s++(oG L.c u).1).size)))=true)
  ·rw [if_pos hc] at h2 hz hst ⊢;have hb:=bN4 _ _ _ _ h2;rw [aAY] at hb;obtain⟨r,hr⟩:=aH7 ks (ks.map (oG L.c)) (s++(oG L.c u).1) (b&&(oG L.c u).2);have h3:=hst;rw [hr] at h3;have h4:=(vW (vW h3).1).2;rw [<- hx] at h4;obtain⟨z,z1,z2⟩:=hk u (hs u (t5 ..)) hb.2 x h4;obtain⟨y,y1,y2⟩:=yD hk ks (fun v hv=>hs v (t7 _ hv)) _ _ a z h2 hz hst (by rw [z2,hx,dN];omega);exact⟨y,(dP _ _ _ _).2 ⟨z,z1,y1⟩,y2⟩
  ·rw [if_neg hc] at h2 hz;simp only [aAY] at h2;exact absurd (by rw [h2.2];simp;rw [dN] at hz;omega) hc
theorem aH2{R:Cf->Cf->Prop}{l:ByteArray}{mn:Nat}(hR:∀ x:Cf,StA L.s l x.p->∃ y,R x y/\y.p=x.p+l.size):∀ (k:Nat),k<=mn->∀ x:Cf,StA L.s (nF l k) x.p->∃ y,Tn R mn k x y/\y.p=x.p+(nF l k).size
 | 0,_,x,_=>⟨x,rfl,by rw [pS];simp⟩
 | k+1,hk,x,h=>by
  rw [uN] at h ⊢;obtain⟨h1,h2⟩:=vW h;obtain⟨z,z1,z2⟩:=aH2 (mn:=mn) hR k (by omega) x h1;rw [<- z2] at h2;obtain⟨y,y1,y2⟩:=hR z h2;refine⟨y,?_,by rw [y2,z2,dN];omega⟩;have hp:mn<=k->z.p<y.p:=fun e=>by omega
  exact⟨z,z1,y1,hp⟩
theorem bH0{c o:Bool}{s:ByteArray}{v:Int}{i:Nat}(hs:mR c o [(v,v)])(h:StA s (txt (fA c v)) i):i<s.size/\0<=(uni c s i).1/\uni c s i=(v,(fA c v).length):=by
 have hv:bS c v:=(hs.1.mem v |>.1 ?_).2
 ·obtain⟨h1,h2⟩:=h;rw [gL] at h1 h2
  cases c with
  | false=>
   have hl:(fA false v).length=1:=rfl;have h0:=h2 0 (by rw [hl];omega);have hb:bt (txt (fA false v)) 0=v.toNat:=by
    obtain⟨a,b,-⟩:=hv;have:v<=255:=b;simp [bt,txt,fA];omega
   rw [hb,aAR] at h0;have:uni false s i=((bt s i:Int),1):=rfl;have hv0:0<=v:=hv.1;refine⟨by omega,by rw [this];simp,?_⟩;rw [this,<- h0,hl]
   congr 1
   omega
  | true=>
   have he:fA true v=Lib.encodeRune v:=rfl;rw [he] at h1 h2 ⊢;have hpos:1<=(Lib.encodeRune v).length:=by
    rw [bL2 hv.1 hv.2.1 (hv.2.2 rfl)];unfold eln
    (repeat' split) <;> omega
   have hsl:sl s i (Lib.encodeRune v).length=Lib.encodeRune v:=by
    apply aCE
    ·simp [sl];omega
    ·intro k k1 k2;have h3:=h2 k k2;have hik:i+k<s.data.toList.length:=(by rw [cI];omega);have t1:bt (txt (Lib.encodeRune v)) k=((Lib.encodeRune v)[k]).toNat:=by
      unfold bt txt;rw [aAH,m7 k2]
      rfl
     have t2:bt s (i+k)=(s.data.toList[i+k]'hik).toNat:=by
      unfold bt;rw [aAH,m7 hik]
      rfl
     rw [t1,t2] at h3;simp only [sl,List.getElem_take,List.getElem_drop];exact(UInt8.toNat_inj.1 h3).symm
   obtain⟨d1,d2,d3⟩:=kM ⟨hv.1,hv.2.1,hv.2.2 rfl⟩ hsl;have hu:uni true s i=(v,(Lib.encodeRune v).length):=by
    show (ch s i,wd s i)=_;unfold ch;rw [d3,d2];simp only [aCN,if_false];rw [d1]
   refine⟨by omega,by rw [hu];exact hv.1,hu⟩
 ·exact⟨(v,v),by simp,aAK _,aAK _⟩
theorem aY9(t:Tr):bL (NP L.c L.o) t->(oG L.c t).2=true->∀ x:Cf,StA L.s (oG L.c t).1 x.p->∃ y,Mt L t x y/\y.p=x.p+(oG L.c t).1.size:=by
 refine Tr.ind (P:=fun t=>bL (NP L.c L.o) t->(oG L.c t).2=true->∀ x:Cf,StA L.s (oG L.c t).1 x.p->∃ y,Mt L t x y/\y.p=x.p+(oG L.c t).1.size) (fun t ih hev h2 x hst=>?_) t;have hnp:=((aQ t).1 hev).1;have hk:=fun u hu=>ih u hu (bA hev hu);rw [bV2] at h2 hst ⊢;unfold bI at h2 hst ⊢;by_cases k1:t.f.k=1
 ·rw [if_pos k1];refine⟨x,(eG _ _ _).2 ?_,by simp [cM]⟩;rw [if_neg (by omega),if_neg (by omega),if_neg (by omega),if_neg (by omega),if_neg (by omega)];refine⟨?_,rfl⟩;unfold dK;rw [if_neg (by omega),if_neg (by omega),if_neg (by omega)]
 rw [if_neg k1] at h2 hst ⊢;by_cases k2:t.f.k=2
 ·rw [if_pos k2] at h2 hst ⊢;have hset:=aY0 hnp k2;generalize hrs:t.f.rs=rs at h2 hst hset ⊢
  match rs,h2,hst,hset with
  | [],h2,_,_=>cases h2
  | [(a,b)],h2,hst,hset=>
   unfold tP at h2 hst ⊢;by_cases hab:a=b
   ·subst hab;simp only [if_true] at h2 hst ⊢;obtain⟨u1,u2,u3⟩:=bH0 hset hst;refine⟨⟨x.p+(fA L.c a).length,x.g⟩,(eG _ _ _).2 ?_,by simp [gL]⟩;rw [if_neg (by omega),if_neg (by omega),if_neg (by omega),if_neg (by omega),if_neg (by omega)];refine⟨?_,rfl⟩;unfold dK;rw [if_pos k2,if_pos ⟨u1,u2,by rw [hrs,u3];simp [bA1]⟩,u3]
   ·simp only [if_neg hab] at h2;cases h2
  | _ :: _ :: _,h2,_,_=>cases h2
 rw [if_neg k2] at h2 hst ⊢;by_cases k5:t.f.k=5
 ·rw [if_pos k5] at h2 hst ⊢;obtain⟨e,hz⟩:=bO0 h2;rw [e] at h2 hst ⊢;obtain⟨y,y1,y2⟩:=yD hk t.ks (fun _ h=>h) noB true x.p x h2 hz hst (by simp [cM]);exact⟨y,(eG _ _ _).2 (by rw [if_pos k5];exact y1),y2⟩
 rw [if_neg k5] at h2 hst ⊢;by_cases k7:t.f.k=7
 ·rw [if_pos k7] at h2 hst ⊢;obtain⟨v,hv⟩:=nH hnp (.inl k7);rw [hv] at h2 hst ⊢;obtain⟨y,y1,y2⟩:=hk v (by rw [hv];simp) h2 x hst;refine⟨iB L t.f.n x y,(eG _ _ _).2 ?_,y2⟩;rw [if_neg (by omega),if_neg (by omega),if_pos k7];exact⟨y,(dB _ _ _).2 ⟨v,by rw [hv];simp,y1⟩,rfl⟩
 rw [if_neg k7] at h2 hst ⊢;by_cases k9:t.f.k=9
 ·rw [if_pos k9] at h2 hst ⊢;obtain⟨v,hv⟩:=nH hnp (.inr k9);have hbd:=wJ hnp k9;have hmt:∀ y,Rp (fun x y=>MtA L t.ks x y) t.f.mn t.f.mx x y->Mt L t x y:=fun y h=>(eG _ _ _).2 (by rw [if_neg (by omega),if_neg (by omega),if_neg (by omega),if_neg (by omega),if_pos k9];exact h);have hhd:(t.ks.map (oG L.c)).headD (noB,false)=oG L.c v:=by rw [hv];rfl
  rw [hhd] at h2 hst ⊢;unfold kU at h2 hst ⊢;by_cases m0:t.f.mx=0
  ·rw [if_pos m0];exact⟨x,hmt x ⟨0,by omega,.inr (by omega),rfl⟩,by simp [cM]⟩
  rw [if_neg m0] at h2 hst ⊢;by_cases m1:t.f.mn=0
  ·rw [if_pos m1] at h2;cases h2
  rw [if_neg m1] at h2 hst ⊢;by_cases m2:(oG L.c v).2=true
  ·rw [if_pos m2] at h2 hst ⊢;obtain⟨e,hz⟩:=bO0 h2;rw [e] at h2 hst ⊢;have hmm:t.f.mn=t.f.mx:=(by simpa using h2);obtain⟨y,y1,y2⟩:=aH2 (R:=fun x y=>MtA L t.ks x y) (mn:=t.f.mn.toNat) (fun x hx=>by
    obtain⟨y,a,b⟩:=hk v (by rw [hv];simp) m2 x hx;exact⟨y,(dB _ _ _).2 ⟨v,by rw [hv];simp,a⟩,b⟩) t.f.mn.toNat lz9 x hst
   exact⟨y,hmt y ⟨t.f.mn.toNat,aAB _,.inr (by omega),y1⟩,y2⟩
  ·rw [if_neg m2] at h2;exact absurd h2 m2
 rw [if_neg k9] at h2;cases h2
end
section
theorem bN2{R:Cf->Cf->Prop}{mn:Nat}(hR:∀ x y,R x y->x.p<=y.p\/True):∀ (k:Nat) (x y:Cf),Tn R mn k x y->mn<=k->k-mn<=y.p\/k=mn
 | 0,x,y,h,hk=>by omega
 | k+1,x,y,h,hk=>by
  obtain⟨z,h1,h2,h3⟩:=h;by_cases e:mn<=k
  ·have h4:=h3 e;rcases bN2 hR k x z h1 e with q | q
   ·left;omega
   ·left;omega
  ·right;omega
theorem aV0{R:Cf->Cf->Prop}{mn k:Nat}{x y:Cf}(h:Tn R mn k x y):k-mn<=y.p:=by
 by_cases e:mn<=k
 ·rcases bN2 (R:=R) (fun _ _ _=>.inr trivial) k x y h e with q | q
  ·exact q
  ·omega
 ·omega
theorem aC3{R:Cf->Cf->Prop}{mn:Nat}{x:Cf}(t:Nat):∀ (k:Nat) (y:Cf),t<=k->Tn R mn k x y->∃ z,Tn R mn t x z
 | 0,y,hk,h=>by
  have e:t=0:=by omega
  subst e;exact⟨y,h⟩
 | k+1,y,hk,h=>by
  by_cases e:t=k+1
  ·subst e;exact⟨y,h⟩
  ·obtain⟨z,h1,-,-⟩:=h;exact aC3 t k z (by omega) h1
structure TS(R:Cf->Cf->Prop)(mn:Nat)(mx:Int)(x:Cf)(t:Nat)(O N:Cf->Prop):Prop where
 n:∀ y,N y->Tn R mn t x y/\(mx=-1\/(t:Int)<=mx)
 o:∀ y,O y->Rp R (mn:Int) mx x y
 e:t<=mn->∀ y,¬ O y
def TC(R:Cf->Cf->Prop)(mn:Nat)(mx:Int)(x:Cf)(t:Nat)(O N:Cf->Prop):Prop:=
 (mx≠-1->(∀ y,Tn R mn t x y->(t:Int)<=mx->N y)/\∀ (k:Nat) (y:Cf),k<t->mn<=k->(k:Int)<=mx->Tn R mn k x y->O y) /\
 (mx=-1->(t<=mn->∀ y,Tn R mn t x y->N y)/\(mn<=t->(∀ y,Tn R mn mn x y->O y\/N y)/\∀ y z,O y->R y z->y.p<z.p->O z\/N z))
variable {R:Cf->Cf->Prop} {mn:Nat} {mx:Int} {x:Cf} {t:Nat} {O N:Cf->Prop}
theorem aH0(hm:mx=-1\/(mn:Int)<=mx):TS R mn mx x 0 (fun _=>False) (fun y=>y=x):=
 ⟨fun y h=>⟨h,by omega⟩,fun _ h=>h.elim,fun _ _ h=>h⟩
theorem aH3:TC R mn mx x 0 (fun _=>False) (fun y=>y=x):=
 ⟨fun _=>⟨fun y h _=>h,fun k y h=>by omega⟩,fun _=>⟨fun _ y h=>h,fun h=>⟨fun y hy=>.inr (by
  have:mn=0:=by omega
  subst this;exact hy),fun y z h=>h.elim⟩⟩⟩
theorem qW(h:TS R mn mx x t O N){O' N':Cf->Prop}(hO:∀ y,O' y->O y\/(mn<=t/\N y))(hN:∀ z,N' z->(t:Int)≠mx/\∃ y,N y/\R y z/\(mn<=t->y.p<z.p)):TS R mn mx x (t+1) O' N':=by
 refine⟨fun z hz=>?_,fun y hy=>?_,fun ht y hy=>?_⟩
 ·obtain⟨h1,y,h2,h3,h4⟩:=hN z hz;obtain⟨a,b⟩:=h.n y h2;exact⟨⟨y,a,h3,h4⟩,by omega⟩
 ·rcases hO y hy with q | ⟨q,r⟩
  ·exact h.o y q
  ·obtain⟨a,b⟩:=h.n y r;exact⟨t,by simpa using q,b,by simpa using a⟩
 ·rcases hO y hy with q | ⟨q,r⟩
  ·exact h.e (by omega) y q
  ·omega
theorem qX(hs:TS R mn mx x t O N)(h:TC R mn mx x t O N){O' N':Cf->Prop}(hO:∀ y,O y->O' y)(hO2:mn<=t->∀ y,N y->O' y)(hO3:∀ y,O' y->O y\/(mn<=t/\N y))
  (hN:∀ y z,N y->R y z->(mn<=t->y.p<z.p)->(t:Int)≠mx->N' z\/(mx=-1/\mn<=t/\(O' z\/O y))):TC R mn mx x (t+1) O' N':=by
 refine⟨fun hm=>?_,fun hm=>?_⟩
 ·obtain⟨h1,h2⟩:=h.1 hm;refine⟨fun z hz hzm=>?_,fun k y hk a b c=>?_⟩
  ·obtain⟨y,y1,y2,y3⟩:=hz;rcases hN y z (h1 y y1 (by omega)) y2 y3 (by omega) with q | ⟨q,-⟩
   ·exact q
   ·exact absurd q hm
  ·by_cases e:k=t
   ·subst e;exact hO2 a y (h1 y c b)
   ·exact hO y (h2 k y (by omega) a b c)
 ·obtain⟨h1,h2⟩:=h.2 hm;refine⟨fun ht z hz=>?_,fun ht=>?_⟩
  ·obtain⟨y,y1,y2,y3⟩:=hz;rcases hN y z (h1 (by omega) y y1) y2 y3 (by omega) with q | ⟨-,q,-⟩
   ·exact q
   ·omega
  ·by_cases e:mn<=t
   ·obtain⟨a,b⟩:=h2 e;refine⟨fun y hy=>.inl ?_,fun y z hy hr hp=>?_⟩
    ·rcases a y hy with q | q
     ·exact hO y q
     ·exact hO2 e y q
    ·have hb:O y->O' z\/N' z:=fun q=>by
      rcases b y z q hr hp with r | r
      ·exact .inl (hO z r)
      ·exact .inl (hO2 e z r)
     rcases hO3 y hy with q | ⟨-,q⟩
     ·exact hb q
     ·rcases hN y z q hr (fun _=>hp) (by omega) with r | ⟨-,-,r⟩
      ·exact .inr r
      ·rcases r with r | r
       ·exact .inl r
       ·exact hb r
   ·have e':t+1=mn:=by omega
    refine⟨fun y hy=>.inr ?_,fun y z hy=>?_⟩
    ·rw [<- e'] at hy;obtain⟨z,z1,z2,z3⟩:=hy;rw [e'] at z1 z3;rcases hN z y (h1 (by omega) z (by simpa using z1)) z2 (fun q=>absurd q e) (by omega) with q | ⟨-,q,-⟩
     ·exact q
     ·exact absurd q e
    ·rcases hO3 y hy with q | ⟨q,-⟩
     ·exact absurd q (hs.e (by omega) y)
     ·exact absurd q e
theorem aV2(hs:TS R mn mx x t O N)(h:TC R mn mx x t O N)(hN:∀ y,¬ N y)(y:Cf):O y↔Rp R (mn:Int) mx x y:=by
 refine⟨hs.o y,?_⟩;rintro ⟨k,h1,h2,h3⟩;rw [aAX] at h1 h3;by_cases hm:mx=-1
 ·obtain⟨a,b⟩:=h.2 hm;by_cases e:mn<=t
  ·obtain⟨p,q⟩:=b e;have:∀ (k:Nat) (y:Cf),mn<=k->Tn R mn k x y->O y:=by
    intro k
    induction k with
    | zero=>
     intro y hk hy;have:mn=0:=(by omega);subst this;exact(p y hy).resolve_right (hN y)
    | succ k ih=>
     intro y hk hy;by_cases e2:mn<=k
     ·obtain⟨z,z1,z2,z3⟩:=hy;exact(q z y (ih z e2 z1) z2 (z3 e2)).resolve_right (hN y)
     ·have:mn=k+1:=by omega
      subst this;exact(p y hy).resolve_right (hN y)
   exact this k y h1 h3
  ·obtain⟨z,hz⟩:=aC3 t k y (by omega) h3;exact absurd (a (by omega) z hz) (hN z)
 ·obtain⟨a,b⟩:=h.1 hm;have h2':(k:Int)<=mx:=by omega
  by_cases e:k<t
  ·exact b k y e h1 h2' h3
  ·obtain⟨z,hz⟩:=aC3 t k y (by omega) h3;exact absurd (a z hz (by omega)) (hN z)
theorem bG3(hs:TS R mn mx x t O N)(h:TC R mn mx x t O N)(ht:(t:Int)=mx)(hmn:mn<=t)(y:Cf):(O y\/N y)↔Rp R (mn:Int) mx x y:=by
 constructor
 ·rintro (q | q)
  ·exact hs.o y q
  ·obtain⟨a,b⟩:=hs.n y q;exact⟨t,by simpa using hmn,b,by simpa using a⟩
 ·rintro ⟨k,h1,h2,h3⟩;rw [aAX] at h1 h3;obtain⟨a,b⟩:=h.1 (by omega);by_cases e:k<t
  ·exact .inl (b k y e h1 (by omega) h3)
  ·have:k=t:=by omega
   subst this;exact .inr (a y h3 (by omega))
end
section
structure Gh where
 t:Tr
 L:Ln
 Z:List Zl
 base:Nat
 b:Nat
 zb:Nat
 zc:Nat
 pb:Nat
 pc:Nat
 rb:Nat
 rc:Nat
abbrev Gh.n(H:Gh):Nat:=H.L.s.size
abbrev Gh.cells(H:Gh)(wk:Int)(mu:Bool):Array Value:=#[.slice (some ⟨H.zb,0,none⟩) H.Z.length H.zc,.string H.L.s,.bool H.L.c,.bool H.L.o,
 .bool (H.L.u 0),.bool (H.L.u 1),.bool (H.L.u 2),.bool (H.L.u 3),.bool (H.L.u 4),.bool (H.L.u 5),.bool (H.L.u 6),.bool (H.L.u 7),.bool (H.L.u 8),.bool (H.L.u 9),
 .slice (some ⟨H.pb,0,none⟩) H.Z.length H.pc,.slice (some ⟨H.rb,0,none⟩) H.Z.length H.rc,.I wk,.bool mu]
open Classical in
noncomputable def plB (L:Ln) (t:Tr):Bool:=decide (PlT L t)
def rwV(n:Nat):Option Nat->Value | none=>.slice none 0 0 | some k=>.slice (some (aDr k 0)) (n+1) (n+1)
def Ls12(base:Nat)(V:World)(q:Option Addr)(c:Nat)(l:List Nat):Prop:=V.ownsRow base 3 1 (.slice q l.length c) l.length (l.map fun j:Nat=>.I (j:Int))
def gX(L:Ln)(t:Tr)(a:Nat)(l:List Nat):Prop:=(∀ j,j∈l↔Ps L t a j)/\l.Pairwise (· < ·)
def RowK(H:Gh)(V:World)(k:Nat)(t:Tr):Prop:=∃ cs:List Value,V.heap[k]?=some (.cells cs.toArray 171 (0,0))/\cs.length=(H.n+1)*2 /\
 ∀ a,a<=H.n->∃ (h:Bool) (q:Option Addr) (n c:Nat),cs[a*2]?=some (.bool h)/\cs[a*2+1]?=some (.slice q n c)/\(h=true->∃ l:List Nat,n=l.length/\Ls12 H.base V q c l/\gX H.L t a l)
structure WM(H:Gh)(V:World)(rs:lOn)(wk:Int)(mu:Bool):Prop where
 hd:V.heap[H.b]?=some (.cells (H.cells wk mu) 52 (0,0))
 z:ZR H.base V (.slice (some ⟨H.zb,0,none⟩) H.Z.length H.zc) H.Z
 pl:V.ownsRow H.base 4 1 (.slice (some ⟨H.pb,0,none⟩) H.Z.length H.pc) H.Z.length (H.Z.map fun z=>.bool (plB H.L z.1.2))
 rw:V.ownsRow H.base 169 1 (.slice (some ⟨H.rb,0,none⟩) H.Z.length H.rc) H.Z.length (rs.map (rwV H.n))
 ap:∀ (i j k:Nat),rs[i]?=some (some k)->rs[j]?=some (some k)->i=j
 row:∀ (i k:Nat) (z:Zl),rs[i]?=some (some k)->H.Z[i]?=some z->H.base<=k/\RowK H V k z.1.2
 bb:H.base<=H.b
 ta:TB V H.t
 tf:bU7 (fun k=>k<H.base) H.t
 wk:mu=false->0<=wk/\wk<=20000
def wf(H:Gh)(rs:lOn)(k:Nat):Prop:=k=H.b\/k=H.rb\/some k∈rs
structure Grw(n:Nat)(rs rs':lOn):Prop where
 old:∀ (j k:Nat),rs[j]?=some (some k)->rs'[j]?=some (some k)
 new:∀ k,some k∈rs'->some k∈rs\/n<=k
variable {H:Gh} {V V' W W':World} {rs rs' rs'':lOn} {wk:Int} {mu:Bool}
theorem Grw.refl(n:Nat)(rs:lOn):Grw n rs rs:=⟨fun _ _ h=>h,fun _ h=>.inl h⟩
theorem Grw.trans{n m:Nat}(h:Grw n rs rs')(k:Grw m rs' rs'')(hm:n<=m):Grw n rs rs'':=
 ⟨fun j i a=>k.old j i (h.old j i a),fun i a=>by
  rcases k.new i a with q | q
  ·exact h.new i q
  ·exact .inr (by omega)⟩
theorem Grw.wf{n:Nat}(h:Grw n rs rs'){k:Nat}(hk:wf H rs' k)(hn:k<n):wf H rs k:=by
 rcases hk with e | e | e
 ·exact .inl e
 ·exact .inr (.inl e)
 ·rcases h.new k e with q | q
  ·exact .inr (.inr q)
  ·omega
theorem oV{A B C:World}{S T:Nat->Prop}(h:Fr (fun k=>wf H rs k\/S k) A B)(g:Grw A.heap.size rs rs')(k:Fr (fun k=>wf H rs' k\/T k) B C)(hT:∀ i,T i->S i\/A.heap.size<=i):Fr (fun k=>wf H rs k\/S k) A C:=
 ⟨k.os.trans h.os,k.tape.trans h.tape,k.output.trans h.output,m9 h.size k.size,fun i hi hs=>(k.block i (o4 hi h.size) (fun q=>by
  rcases q with q | q
  ·exact hs (.inl (g.wf q hi))
  ·rcases hT i q with r | r
   ·exact hs (.inr r)
   ·omega)).trans (h.block i hi hs)⟩
def wM(ty:TypeId):Prop:=ty=52\/ty=62\/ty=169\/ty=171\/ty=3
structure Kp(H:Gh)(V V':World):Prop where
 size:V.heap.size<=V'.heap.size
 lo:∀ k,k<H.base->k<V.heap.size->V'.heap[k]?=V.heap[k]?
 pl:V'.heap[H.pb]?=V.heap[H.pb]?
 own:∀ (k:Nat) (cs:Array Value) (ty:TypeId),V.heap[k]?=some (.cells cs ty (0,0))->H.base<=k->wM ty->V'.heap[k]?=V.heap[k]?
theorem nG{e:TypeId}{size n:Nat}{v:Value}{xs:List Value}(h:V.ownsRow H.base e size v n xs)(hk:Kp H V V')(he:wM e):V'.ownsRow H.base e size v n xs:=by
 obtain⟨h1,h2 | ⟨g,cap,cur,q1,q2,q3,q4⟩⟩:=h
 ·exact⟨h1,.inl h2⟩
 ·exact⟨h1,.inr ⟨g,cap,cur,q1,q2,(hk.own g cur e q3 q2 he).trans q3,q4⟩⟩
theorem RowK.kp{k:Nat}{t:Tr}(h:RowK H V k t)(hk:Kp H V V')(hb:H.base<=k):RowK H V' k t:=by
 obtain⟨cs,h1,h2,h3⟩:=h;refine⟨cs,(hk.own k _ _ h1 hb (.inr (.inr (.inr (.inl rfl))))).trans h1,h2,fun a ha=>?_⟩;obtain⟨b,q,n,c,p1,p2,p3⟩:=h3 a ha;refine⟨b,q,n,c,p1,p2,fun e=>?_⟩;obtain⟨l,l1,l2,l3⟩:=p3 e;exact⟨l,l1,nG l2 hk (.inr (.inr (.inr (.inr rfl)))),l3⟩
theorem WM.kp(h:WM H V rs wk mu)(hk:Kp H V V'):WM H V' rs wk mu:=by
 refine⟨(hk.own _ _ _ h.hd h.bb (.inl rfl)).trans h.hd,nG h.z hk (.inr (.inl rfl)),?_,nG h.rw hk (.inr (.inr (.inl rfl))),h.ap,fun i k z a b=>⟨(h.row i k z a b).1,(h.row i k z a b).2.kp hk (h.row i k z a b).1⟩,h.bb,?_,h.tf,h.wk⟩
 ·obtain⟨h1,h2 | ⟨g,cap,cur,q1,q2,q3,q4⟩⟩:=h.pl
  ·exact⟨h1,.inl h2⟩
  ·refine⟨h1,.inr ⟨g,cap,cur,q1,q2,?_,q4⟩⟩;injection q1 with q1;injection q1 with q1;injection q1 with q1;subst q1;exact hk.pl.trans q3
 ·exact h.ta.ckN h.tf ⟨hk.size,fun k cur t fr hk' hc=>(hk.lo k hk' (aB hc)).trans hc⟩
theorem Kp.below(hb:wBl V V')(hp:H.pb<V.heap.size):Kp H V V':=
 ⟨hb.size,fun k _ h=>hb.block k h,hb.block _ hp,fun k _ _ h _ _=>hb.block k (aB h)⟩
theorem WM.pb_lt(h:WM H V rs wk mu):H.pb<V.heap.size:=(aF h.pl rfl).2.1
theorem WM.below(h:WM H V rs wk mu)(hb:wBl V V'):WM H V' rs wk mu:=h.kp (Kp.below hb h.pb_lt)
theorem Kp.fr{S:Nat->Prop}(hf:Fr S V V')(hp:H.pb<V.heap.size)(hS:∀ k,k<V.heap.size->S k->H.base<=k/\k≠H.pb/\∃ cs ty,V.heap[k]?=some (.cells cs ty (0,0))/\¬ wM ty):Kp H V V':=
 ⟨hf.size,fun k hk h=>hf.block k h (fun q=>by have:=(hS k h q).1;omega),hf.block _ hp (fun q=>(hS _ hp q).2.1 rfl),fun k cs ty h _ hm=>hf.block k (aB h) (fun q=>by
  obtain⟨-,-,cs',ty',h1,h2⟩:=hS k (aB h) q;rw [h] at h1;injection h1 with h1;injection h1 with _ h1 _;exact h2 (h1 ▸ hm))⟩
theorem WM.fr{S:Nat->Prop}(h:WM H V rs wk mu)(hf:Fr S V V')(hS:∀ k,k<V.heap.size->S k->H.base<=k/\k≠H.pb/\∃ cs ty,V.heap[k]?=some (.cells cs ty (0,0))/\¬ wM ty):WM H V' rs wk mu:=h.kp (Kp.fr hf h.pb_lt hS)
theorem WM.rl(h:WM H V rs wk mu):rs.length=H.Z.length:=by
 have:=h.rw.1;rw [aAG] at this;omega
theorem WM.cell(h:WM H V rs wk mu){i:Nat}{v:Value}(hi:(H.cells wk mu)[i]?=some v):V.cell? ⟨H.b,i,none⟩=some v:=aA h.hd hi
theorem WM.frz(h:WM H V rs wk mu)(i:Nat):V.frozen? ⟨H.b,i,none⟩=false:=aG h.hd i
theorem WM.b_lt(h:WM H V rs wk mu):H.b<V.heap.size:=aB h.hd
theorem WM.wf_lo(h:WM H V rs wk mu){k:Nat}(hk:wf H rs k):H.base<=k:=by
 rcases hk with e | e | e
 ·rw [e];exact h.bb
 ·rw [e];exact(aF h.rw rfl).1
 ·obtain⟨i,hi,hi2⟩:=List.getElem_of_mem e;have hl:=h.rl;exact(h.row i k (H.Z[i]'(by omega)) (by rw [m7 hi,hi2]) (m7 _)).1
theorem WM.wf_ty(h:WM H V rs wk mu){k:Nat}(hk:wf H rs k):k<V.heap.size/\∃ cs ty,V.heap[k]?=some (.cells cs ty (0,0))/\(ty=52\/ty=169\/ty=171):=by
 rcases hk with e | e | e
 ·rw [e];exact⟨h.b_lt,_,_,h.hd,.inl rfl⟩
 ·rw [e];obtain⟨a,b,cur,c⟩:=aF h.rw rfl;exact⟨b,cur,_,c,.inr (.inl rfl)⟩
 ·obtain⟨i,hi,hi2⟩:=List.getElem_of_mem e;have hl:=h.rl;obtain⟨cs,h1,-⟩:=(h.row i k (H.Z[i]'(by omega)) (by rw [m7 hi,hi2]) (m7 _)).2;exact⟨aB h1,_,_,h1,.inr (.inr rfl)⟩
theorem kD{S:Nat->Prop}{base:Nat}{e:TypeId}{size n:Nat}{v:Value}{xs:List Value}(h:V.ownsRow base e size v n xs)(hw:WM H V rs wk mu)(hf:Fr (fun k=>wf H rs k\/S k) V V')(hS:∀ k,v.ownBlock=some k->¬ S k)(he:e≠52/\e≠169/\e≠171):V'.ownsRow base e size v n xs:=by
 refine aH h hf fun k hk q=>?_;rcases q with q | q
 ·obtain⟨-,cs,ty,h1,h2⟩:=hw.wf_ty q;obtain⟨-,-,cur,h3⟩:=aF h hk;rw [h3] at h1;injection h1 with h1;injection h1 with _ h1 _;subst h1;rcases h2 with r | r | r
  ·exact he.1 r
  ·exact he.2.1 r
  ·exact he.2.2 r
 ·exact hS k hk q
end
section
attribute [local go_sem] Oper.semAt_some
theorem uK(a:Nat)(w:World)(ha:a<256):Calls Tryz.prog 125 #[.int .u8 (a:Int)] w fun e w'=>e=.returned (.int .u8 (smB a:Int))/\w'=w:=by
 by_cases h1:65<=a
 ·by_cases h2:a<=90
  ·have i1:(65:Int)<=(a:Int):=by omega
   have i2:(a:Int)<=90:=by omega
   have hw:IntKind.wrap .u8 ((a:Int)+32)=(a:Int)+32:=by rw [IntKind.wrap_u8];omega
   have HV:Hid ((smB a:Int)=(a:Int)+32):=aC (by unfold smB;rw [if_pos ⟨h1,h2⟩];omega);clear h1 h2;go_enter Tryz.func125,Tryz.ntmps125;go_wp2;go_ret;exact⟨by rw [HV.o];rfl,rfl⟩
  ·have i1:(65:Int)<=(a:Int):=by omega
   have i2:¬ (a:Int)<=90:=by omega
   have HV:Hid ((smB a:Int)=(a:Int)):=aC (by unfold smB;rw [if_neg (by omega)]);clear h1 h2;go_enter Tryz.func125,Tryz.ntmps125;go_wp2;go_ret;exact⟨by rw [HV.o];rfl,rfl⟩
 ·have i1:¬ (65:Int)<=(a:Int):=by omega
  have HV:Hid ((smB a:Int)=(a:Int)):=aC (by unfold smB;rw [if_neg (by omega)]);clear h1;go_enter Tryz.func125,Tryz.ntmps125;go_wp2;go_ret;exact⟨by rw [HV.o];rfl,rfl⟩
theorem aS8(a b:Nat)(o:Bool)(w:World)(ha:a<256)(hb:b<256):Calls Tryz.prog 98 #[.int .u8 (a:Int),.int .u8 (b:Int),.bool o] w fun e w'=>e=.returned (.bool (alk o a b))/\w'=w:=by
 by_cases h1:a=b
 ·have i1:((a:Int)==(b:Int))=true:=by rw [h1];simp
  have HV:Hid (alk o a b=true):=aC (by unfold alk;rw [h1];simp);clear h1;go_enter Tryz.func98,Tryz.ntmps98;go_wp2;go_ret;exact⟨by rw [HV.o];rfl,rfl⟩
 ·have i1:((a:Int)==(b:Int))=false:=by simp;omega
  have e1:(a==b)=false:=by simpa using h1
  cases o with
  | false=>
   have HV:Hid (alk false a b=false):=aC (by unfold alk;rw [e1];simp);clear h1 e1;go_enter Tryz.func98,Tryz.ntmps98;go_wp2;go_ret;exact⟨by rw [HV.o];rfl,rfl⟩
  | true=>
   have HV:Hid (alk true a b=(smB a==smB b)):=aC (by unfold alk;rw [e1];simp);have CA:=aC (uK a w ha);have CB:=aC (uK b w hb);have HE:Hid (((smB a:Int)==(smB b:Int))=(smB a==smB b)):=aC (by rw [aBQ];simp only [beq_iff_eq];omega);generalize smB a=p at HV CA HE;generalize smB b=q at HV CB HE;clear h1 e1;go_enter Tryz.func98,Tryz.ntmps98;go_wp2_with first
    |(go_at_call 125;(with_reducible refine(CA.o).mono ?_);rintro e w5 ⟨rfl,h5⟩;subst w5)
    |(go_at_call 125;(with_reducible refine(CB.o).mono ?_);rintro e w5 ⟨rfl,h5⟩;subst w5)
   go_ret;refine⟨?_,rfl⟩;rw [HV.o,<- HE.o]
   rfl
def fH(is:List Bool)(k:Nat):List Nat:=(List.range k).filter fun j=>is[j]?.getD false
theorem aP2(is:List Bool)(k:Nat):fH is (k+1)=fH is k++(if is[k]?.getD false then [k] else []):=by
 unfold fH;rw [List.range_succ,List.filter_append]
 congr 1
 by_cases h:is[k]?.getD false=true <;> simp [h]
theorem sI(is:List Bool)(k:Nat):(fH is k).length<=k:=by
 unfold fH;refine m9 (List.length_filter_le _ _) ?_;simp
theorem jK{is:List Bool}{j:Nat}:j∈fH is is.length↔is[j]?=some true:=by
 unfold fH;rw [List.mem_filter,List.mem_range];constructor
 ·rintro ⟨h1,h2⟩;rw [m7 h1] at h2 ⊢;simpa using h2
 ·intro h;exact⟨(m8.1 h).1,by rw [h];rfl⟩
theorem aJ1(is:List Bool)(k:Nat):(fH is k).Pairwise (· < ·):=List.Pairwise.filter _ List.pairwise_lt_range
structure RsI(w:World)(q:Option Addr)(c:Nat)(l:List Nat)(V:World):Prop where
 l:Ls12 w.heap.size V q c l
 bel:wBl w V
theorem RsI.snoc{w V w6:World}{q q6:Option Addr}{c c6:Nat}{l:List Nat}{x:Nat}{ob:Obj}(h:RsI w q c l V)
  (o6:w6.ownsRow w.heap.size 3 1 (.slice q6 (l.length+1) c6) (l.length+1) ((l.map fun j:Nat=>.I (j:Int))++[.I (x:Int)])) (hg:(V.alloc ob).grownBy w6 (Value.slice q l.length c).ownBlock):RsI w q6 c6 (l++[x]) w6:=by
 have F6:Fr (fun z=>(Value.slice q l.length c).ownBlock=some z) V w6:=((Fr.refl _ V).alloc ob).grown hg fun k hk=>hk;refine⟨?_,h.bel.trans (F6.below h.bel.size fun k hk=>(aF h.l hk).1)⟩;unfold Ls12;rw [o8,aBU];exact o6
def bW8(w:World)(l:List Nat)(e:Ending)(w':World):Prop:=∃ q c,e=.returned (.slice q l.length c)/\Ls12 w.heap.size w' q c l/\wBl w w'
theorem dT{w:World}{base g c:Nat}{is:List Bool}(h:w.ownsRow base 4 1 (.slice (some (aDr g 0)) is.length c) is.length (is.map Value.bool))(hl:is.length<=1000000) :
  Calls Tryz.prog 37 #[.slice (some (aDr g 0)) is.length c] w (bW8 w (fH is is.length)):=by
 have HR:=aC h;have U5:Hid (RsI w none 0 [] w):=⟨aBH _ _ _ _,Below.refl _ _⟩;clear h;go_enter Tryz.func37,Tryz.ntmps37;go_upto_region 3 with fail
 go_loopw [3,4] (fun l i wr=>∃ (k:Nat) (q:Option Addr) (cc:Nat),k<=is.length/\i=.I (k:Int)/\l=.slice q (fH is k).length cc/\RsI w q cc (fH is k) wr) (fun _ i _=>is.length-(intOf i).toNat)
 case atStart=>exact⟨0,none,0,by omega,rfl,rfl,U5.o⟩
 case round=>
  obtain⟨k,q,cc,hk,rfl,rfl,hu⟩:=hrel;have HU:=aC hu;have HN:=aC (aP2 is k);have hlen:=sI is k;obtain⟨l,hl⟩:∃ l,fH is k=l:=⟨_,rfl⟩;have HQ:=aC hl;rw [hl] at hu HU HN hlen ⊢;clear hl;clear hu;rename World=>wr;by_cases hkl:k<is.length
  ·have i0:(k:Int)<(is.length:Int):=by omega
   have hw2:IntKind.wrap .i64 ((k:Int)+1)=(k:Int)+1:=wrap_small _ (by omega) (by omega);obtain⟨x,hx⟩:∃ x,is[k]?=some x:=⟨_,m7 hkl⟩;have y0:wr.cell? (aDr g k)=some (.bool x):=(HU.o.bel.cell (p:=(aDr g k)) (aF HR.o rfl).2.1).trans (aM HR.o (by simp [hx]));rw [hx] at HN;clear hx
   cases x with
   | true=>
    obtain⟨t0,hi,hz0,hz1,hz2⟩:=aW jH;have Y7:Hid ((wr.alloc (.cells #[.I (k:Int)] 3)).ownsRow w.heap.size 3 1 (.slice q l.length cc) l.length (l.map fun j:Nat=>.I (j:Int))):=o9 HU.o.l _;have HNEW:Hid (∀ j u,([.I (k:Int)]:List Value)[j]?=some u->(wr.alloc (.cells #[.I (k:Int)] 3)).cell? (((aDr wr.heap.size 0):Addr).add j)=some u):=bJ wr [.I (k:Int)] _;have HB8:Hid (w.heap.size<=(wr.alloc (.cells #[.I (k:Int)] 3)).heap.size):=m9 HU.o.bel.size (by simp);go_wp2_with (at_builtin;refine wpList_append_own_at _ rfl _ _ 44 rfl w.heap.size 3 t0 (.I 0) 1 8 jE hi hz0 hz1 hz2 rfl (by decide) (.slice q l.length cc) l.length (l.map fun j:Nat=>.I (j:Int)) rfl Y7.o (aDr wr.heap.size 0) 1 1 [.I (k:Int)] rfl rfl HNEW.o (by simp [Value.oneCell']) (by unfold maxLen;omega) (by omega) HB8.o ?_;intro v' w6 hown' hgrow _ _;obtain⟨q6,c6,rfl⟩:=aR hown';have U6:=aC (HU.o.snoc hown' hgrow);clear hown' hgrow)
    go_roundw
    case rel=>exact⟨k+1,q6,c6,by omega,by go_num,by rw [HN.o];simp,by rw [HN.o];exact U6.o⟩
    case measure=>simp only [intOf];omega
   | false=>
    go_wp2;go_roundw
    case rel=>exact⟨k+1,q,cc,by omega,by go_num,by rw [HN.o];simp,by rw [HN.o];simpa using HU.o⟩
    case measure=>simp only [intOf];omega
  ·have hkk:k=is.length:=by omega
   have i0:¬ (k:Int)<(is.length:Int):=by omega
   have HK:=aC hkk;clear hkk;go_wp2;go_ret;rw [<- HK.o,HQ.o];exact⟨q,cc,rfl,HU.o.l,HU.o.bel⟩
end
theorem bT6(s:ByteArray)(p n:Nat):(s.extract p (p+n)).data.toList=sl s p n:=by
 rw [ByteArray.data_extract,Array.toList_extract,List.extract_eq_take_drop];unfold sl
 congr 1
 omega
theorem nQ(s:ByteArray)(i:Nat)(h:i<s.size):(s[i]'h).toNat=bt s i:=by
 have e:s.data.toList[i]?=some (s.data.toList[i]'(by rw [cI];exact h)):=m7 _;unfold bt;rw [aAH,e]
 rfl
theorem fZ{s:ByteArray}{p:Nat}(hb:bad s p=false):(bt s p<128/\Utf8.decode s p=(bt s p,1)) \/
  (1<s.size-p/\bt s p/32=6/\bt s (p+1)/64=2/\128<=bt s p%32*64+bt s (p+1)%64/\Utf8.decode s p=(bt s p%32*64+bt s (p+1)%64,2)) \/
  (2<s.size-p/\bt s p/16=14/\bt s (p+1)/64=2/\bt s (p+2)/64=2/\2048<=bt s p%16*4096+bt s (p+1)%64*64+bt s (p+2)%64/\Utf8.decode s p=(bt s p%16*4096+bt s (p+1)%64*64+bt s (p+2)%64,3)) \/
  (3<s.size-p/\bt s p/8=30/\bt s (p+1)/64=2/\bt s (p+2)/64=2/\bt s (p+3)/64=2/\65536<=bt s p%8*262144+bt s (p+1)%64*4096+bt s (p+2)%64*64+bt s (p+3)%64/\Utf8.decode s p=(bt s p%8*262144+bt s (p+1)%64*4096+bt s (p+2)%64*64+bt s (p+3)%64,4)):=by
 have hn:Utf8.decode s p≠(65533,1):=by simpa [bad] using hb
 have e:=lR s p;rcases nM (s.size-p) (bt s p) (bt s (p+1)) (bt s (p+2)) (bt s (p+3)) with k | ⟨a1,k⟩ | ⟨a1,a2,a3,a4,k⟩ | ⟨a1,a2,a3,a4,a5,a6,k⟩ | ⟨a1,a2,a3,a4,a5,a6,a7,k⟩
 ·rw [k] at e;exact absurd e hn
 ·rw [k] at e;exact .inl ⟨a1,e⟩
 ·rw [k] at e;exact .inr (.inl ⟨a1,a2,a3,a4,e⟩)
 ·rw [k] at e;exact .inr (.inr (.inl ⟨a1,a2,a3,a4,a5,e⟩))
 ·rw [k] at e;exact .inr (.inr (.inr ⟨a1,a2,a3,a4,a5,a6,e⟩))
def aT0(b0 n:Nat)(c0:Int):Prop:=(n=2/\192<=b0/\b0<224/\c0=b0-192)\/(n=3/\224<=b0/\b0<240/\c0=b0-224)\/(n=4/\240<=b0/\b0<248/\c0=b0-240)
def cvF(s:ByteArray)(p:Nat)(c0:Int):Nat->Int
 | 0=>c0
 | j+1=>64*cvF s p c0 j+bt s (p+(j+1))-128
def qO(s:ByteArray)(p k:Nat):Prop:=∀ j,1<=j->j<k->128<=bt s (p+j)/\bt s (p+j)<=191
theorem qB{s:ByteArray}{p:Nat}{c0:Int}(h0:0<=c0)(h1:c0<=31):∀ j,j<=3->qO s p (j+1)->0<=cvF s p c0 j/\cvF s p c0 j<16777216
 | 0,_,_=>by simp [cvF];omega
 | 1,_,hc=>by have c1:=hc 1 (by omega) (by omega);simp only [cvF,n7];omega
 | 2,_,hc=>by have c1:=hc 1 (by omega) (by omega);have c2:=hc 2 (by omega) (by omega);simp only [cvF,n7,Nat.reduceAdd];omega
 | 3,_,hc=>by have c1:=hc 1 (by omega) (by omega);have c2:=hc 2 (by omega) (by omega);have c3:=hc 3 (by omega) (by omega);simp only [cvF,n7,Nat.reduceAdd];omega
theorem bE0{s:ByteArray}{p:Nat}(h:(128<=bt s p/\bt s p<192)\/248<=bt s p):bad s p=true:=by
 rcases hb:bad s p with _ | _
 ·exfalso
  have:=mW s p;rcases fZ hb with⟨a1,_⟩ | ⟨_,a2,_⟩ | ⟨_,a2,_⟩ | ⟨_,a2,_⟩ <;> omega
 ·rfl
theorem qC{s:ByteArray}{p n:Nat}{c0:Int}(h:aT0 (bt s p) n c0)(hn:s.size-p<n):bad s p=true:=by
 rcases hb:bad s p with _ | _
 ·exfalso
  rcases h with h | h | h <;> rcases fZ hb with⟨a1,_⟩ | ⟨_,a2,_⟩ | ⟨_,a2,_⟩ | ⟨_,a2,_⟩ <;> omega
 ·rfl
theorem jU{s:ByteArray}{p n j:Nat}{c0:Int}(h:aT0 (bt s p) n c0)(h1:1<=j)(hj:j<n)(hb':bt s (p+j)<128\/191<bt s (p+j)):bad s p=true:=by
 rcases hb:bad s p with _ | _
 ·exfalso
  have hj':j=1\/j=2\/j=3:=by rcases h with h | h | h <;> omega
  rcases hj' with rfl | rfl | rfl <;> rcases h with h | h | h <;> rcases fZ hb with⟨a1,_⟩ | ⟨_,a2,a3,_⟩ | ⟨_,a2,a3,a4,_⟩ | ⟨_,a2,a3,a4,a5,_⟩ <;> omega
 ·rfl
theorem jP{s:ByteArray}{p n:Nat}{c0:Int}(h:aT0 (bt s p) n c0)(hc:qO s p n)(hb:bad s p=false):(Utf8.decode s p).1=cvF s p c0 (n-1)/\wd s p=n:=by
 unfold wd;rcases h with⟨rfl,h⟩ | ⟨rfl,h⟩ | ⟨rfl,h⟩
 ·have c1:=hc 1 (by omega) (by omega);rcases fZ hb with⟨a1,e⟩ | ⟨_,a2,a3,_,e⟩ | ⟨_,a2,a3,a4,_,e⟩ | ⟨_,a2,a3,a4,a5,_,e⟩
  ·omega
  ·have e2:cvF s p c0 (2-1)=64*c0+bt s (p+1)-128:=rfl;rw [e,e2];refine⟨?_,rfl⟩;simp only;omega
  ·omega
  ·omega
 ·have c1:=hc 1 (by omega) (by omega);have c2:=hc 2 (by omega) (by omega);rcases fZ hb with⟨a1,e⟩ | ⟨_,a2,a3,_,e⟩ | ⟨_,a2,a3,a4,_,e⟩ | ⟨_,a2,a3,a4,a5,_,e⟩
  ·omega
  ·omega
  ·have e2:cvF s p c0 (3-1)=64*(64*c0+bt s (p+1)-128)+bt s (p+2)-128:=rfl;rw [e,e2];refine⟨?_,rfl⟩;simp only;omega
  ·omega
 ·have c1:=hc 1 (by omega) (by omega);have c2:=hc 2 (by omega) (by omega);have c3:=hc 3 (by omega) (by omega);rcases fZ hb with⟨a1,e⟩ | ⟨_,a2,a3,_,e⟩ | ⟨_,a2,a3,a4,_,e⟩ | ⟨_,a2,a3,a4,a5,_,e⟩
  ·omega
  ·omega
  ·omega
  ·have e2:cvF s p c0 (4-1)=64*(64*(64*c0+bt s (p+1)-128)+bt s (p+2)-128)+bt s (p+3)-128:=rfl;rw [e,e2];refine⟨?_,rfl⟩;simp only;omega
section
attribute [local go_sem] aT
theorem bY{s:ByteArray}{p:Nat}(h:bad s p=true):ch s p=-1/\wd s p=1:=⟨(bD3 h).1,(bD3 h).2.1⟩
theorem nL(s:ByteArray)(p n:Nat):(s.extract p (p+n)).toList=sl s p n:=by rw [Lib.toList_data,bT6]
theorem aI9(s:ByteArray)(p:Nat)(w:World)(hp:p<s.size)(hs:s.size<=1099511627776) :
  Calls Tryz.prog 69 #[.string s,.I (p:Int)] w fun e w'=>e=.returned (.tuple #[.I (ch s p),.I (wd s p:Int)])/\wBl w w':=by
 have h0:¬ (p:Int)<0:=by omega
 have h1:¬ (s.size:Int)<=(p:Int):=by omega
 have h2:(0:Int)<=(p:Int):=by omega
 have h3:(p:Int)<(s.size:Int):=by omega
 have g0:=nQ s p hp;obtain⟨b0,hb0⟩:∃ b,bt s p=b:=⟨_,rfl⟩;have hbl:=mW s p;rw [hb0] at g0 hbl;have wb:IntKind.wrap .i64 (b0:Int)=(b0:Int):=wrap_small _ (by omega) (by omega);have HB:Hid (bt s p=b0):=hb0;clear hb0;by_cases k1:(b0:Int)<128
 ·have E:Hid (ch s p=(b0:Int)/\wd s p=1):=by
   show ch s p=(b0:Int)/\wd s p=1;have e:Utf8.decode s p=(b0,1):=by
    rw [lR,HB.o];unfold Lib.decodeN;rw [if_pos (by omega)]
   have hb:bad s p=false:=by unfold bad;rw [e];simp;omega
   exact⟨by rw [pC hb,e],by unfold wd;rw [e]⟩
  go_enter Tryz.func69,Tryz.ntmps69;go_wp2
  go_ret2
  rw [E.o.1,E.o.2];exact⟨rfl,Below.refl _ _⟩
 by_cases k2:¬ ((192:Int)<=(b0:Int)/\(b0:Int)<248)
 ·have E:Hid (ch s p=-1/\wd s p=1):=bY (bE0 (by rw [HB.o];omega));have k5:¬ ((192:Int)<=(b0:Int)/\(b0:Int)<224):=by omega
  have k6:¬ ((224:Int)<=(b0:Int)/\(b0:Int)<240):=by omega
  have k7:¬ ((240:Int)<=(b0:Int)/\(b0:Int)<248):=by omega
  by_cases k3:(b0:Int)<192
  ·have k4:¬ (192:Int)<=(b0:Int):=by omega
   have k8:¬ (224:Int)<=(b0:Int):=by omega
   have k9:¬ (240:Int)<=(b0:Int):=by omega
   clear k2 k5 k6 k7;go_enter Tryz.func69,Tryz.ntmps69;go_wp2
   go_ret2
   rw [E.o.1,E.o.2];exact⟨rfl,Below.refl _ _⟩
  ·have j1:(192:Int)<=(b0:Int):=by omega
   have j2:(224:Int)<=(b0:Int):=by omega
   have j3:(240:Int)<=(b0:Int):=by omega
   have j4:¬ (b0:Int)<224:=by omega
   have j5:¬ (b0:Int)<240:=by omega
   have j6:¬ (b0:Int)<248:=by omega
   clear k2 k5 k6 k7;go_enter Tryz.func69,Tryz.ntmps69;go_wp2
   go_ret2
   rw [E.o.1,E.o.2];exact⟨rfl,Below.refl _ _⟩
 obtain⟨n,c0,hLd⟩:∃ n c0,aT0 b0 n c0:=by
  by_cases q1:b0<224
  ·exact⟨2,_,.inl ⟨rfl,by omega,q1,rfl⟩⟩
  by_cases q2:b0<240
  ·exact⟨3,_,.inr (.inl ⟨rfl,by omega,q2,rfl⟩)⟩
  ·exact⟨4,_,.inr (.inr ⟨rfl,by omega,by omega,rfl⟩)⟩
 have LD:Hid (aT0 (bt s p) n c0):=by show aT0 (bt s p) n c0;rw [HB.o];exact hLd
 have hc0:0<=c0/\c0<=31:=by rcases hLd with h | h | h <;> omega
 have hwsp:IntKind.wrap .i64 ((s.size:Int)-(p:Int))=(s.size:Int)-(p:Int):=wrap_small _ (by omega) (by omega);go_enter Tryz.func69,Tryz.ntmps69;rcases hLd with⟨rfl,l1,l2,l3⟩ | ⟨rfl,l1,l2,l3⟩ | ⟨rfl,l1,l2,l3⟩
 ·have j1:(192:Int)<=(b0:Int):=by omega
  have j4:(b0:Int)<224:=by omega
  have v1:IntKind.wrap .i64 ((b0:Int)-192)=c0:=by rw [wrap_small _ (by omega) (by omega)];omega
  clear k2 l1 l2 l3;go_upto_region 16 with fail
  by_cases hsh:s.size-p<2
  ·have E:Hid (ch s p=-1/\wd s p=1):=bY (qC LD.o hsh);have q1:(s.size:Int)-(p:Int)<2:=(by omega);go_wp2
   go_ret2
   rw [E.o.1,E.o.2];exact⟨rfl,Below.refl _ _⟩
  have q1:¬ (s.size:Int)-(p:Int)<2:=by omega
  have hpn:p+2<=s.size:=by omega
  clear hsh;go_wp2;go_loopw [7,8] (fun t i wr=>∃ k:Nat,1<=k/\k<=2/\i=.I (k:Int)/\t=.I (cvF s p c0 (k-1))/\qO s p k/\wr=w) (fun _ i _=>2-(intOf i).toNat)
  case atStart=>exact⟨1,by omega,by omega,rfl,rfl,fun j h1 h2=>by omega,rfl⟩
  case round=>
   obtain⟨k,hk1,hk,rfl,rfl,hct,hw⟩:=hrel;subst hw;obtain⟨j,rfl⟩:∃ j,k=j+1:=⟨k-1,by omega⟩;rw [aBV];have C:Hid (qO s p (j+1)):=hct;have hcr:=qB (s:=s) (p:=p) hc0.1 hc0.2 j (by omega) hct;obtain⟨cv,hcv⟩:∃ cv,cvF s p c0 j=cv:=⟨_,rfl⟩;have HCV:Hid (cvF s p c0 j=cv):=hcv;rw [hcv] at hcr ⊢;clear hcv hct;by_cases hlt:j+1<2
   ·have gk:=nQ s (p+(j+1)) (by omega);obtain⟨bk,hbk⟩:∃ b,bt s (p+(j+1))=b:=⟨_,rfl⟩;have hbkl:=mW s (p+(j+1));rw [hbk] at gk hbkl;have HBK:Hid (bt s (p+(j+1))=bk):=hbk;clear hbk;have i1:((j+1:Nat):Int)<2:=(by omega);have wbk:IntKind.wrap .i64 (bk:Int)=(bk:Int):=wrap_small _ (by omega) (by omega);have wix:IntKind.wrap .i64 ((p:Int)+((j+1:Nat):Int))=((p+(j+1):Nat):Int):=(by rw [wrap_small _ (by omega) (by omega)];omega);have x0:(0:Int)<=((p+(j+1):Nat):Int):=(by omega);have x1:((p+(j+1):Nat):Int)<(s.size:Int):=(by omega);have x2:((p+(j+1):Nat):Int).toNat=p+(j+1):=(by omega);obtain⟨ix,hix⟩:∃ ix,p+(j+1)=ix:=⟨_,rfl⟩;obtain⟨jj,hjj⟩:∃ jj,j+1=jj:=⟨_,rfl⟩;have ixl:ix<s.size:=(by omega);have gx:(s[ix]'ixl).toNat=bk:=(by subst hix;exact gk);clear gk;rw [hix] at wix x0 x1 x2;rw [hjj] at wix i1 ⊢;have HJ:Hid (j+1=jj):=hjj;have HIX:Hid (p+(j+1)=ix):=hix;clear hjj hix;by_cases b1:(bk:Int)<128
    ·have E:Hid (ch s p=-1/\wd s p=1):=bY (jU LD.o (j:=j+1) (by omega) hlt (.inl (by rw [HBK.o];omega)));go_wp2
     go_ret2
     rw [E.o.1,E.o.2];exact⟨rfl,Below.refl _ _⟩
    by_cases b2:(191:Int)<(bk:Int)
    ·have E:Hid (ch s p=-1/\wd s p=1):=bY (jU LD.o (j:=j+1) (by omega) hlt (.inr (by rw [HBK.o];omega)));go_wp2
     go_ret2
     rw [E.o.1,E.o.2];exact⟨rfl,Below.refl _ _⟩
    have y1:IntKind.wrap .i64 (64*cv)=64*cv:=wrap_small _ (by omega) (by omega);have y2:IntKind.wrap .i64 (64*cv+(bk:Int))=64*cv+(bk:Int):=wrap_small _ (by omega) (by omega);have y3:IntKind.wrap .i64 (64*cv+(bk:Int)-128)=64*cv+(bk:Int)-128:=wrap_small _ (by omega) (by omega);have y4:IntKind.wrap .i64 ((jj:Int)+1)=(jj:Int)+1:=wrap_small _ (by omega) (by omega);go_wp2;go_roundw
    case rel=>
     refine⟨jj+1,by omega,by have:=HJ.o;omega,by go_num,?_,fun i q1 q2=>?_,by first | rfl | trivial⟩
     ·rw [aBV,<- HJ.o,cvF,HCV.o,HBK.o]
     ·by_cases e:i<j+1
      ·exact C.o i q1 e
      ·obtain rfl:i=j+1:=by have:=HJ.o;omega
       rw [HBK.o];omega
    case measure=>simp only [intOf];have:=HJ.o;omega
   ·obtain rfl:j=2-1:=by omega
    have i1:¬ (((2:Nat)-1+1:Nat):Int)<2:=(by omega);have his:=aX1 cv;have wpn:IntKind.wrap .i64 ((p:Int)+2)=(p:Int)+2:=wrap_small _ (by omega) (by omega);have z1:(p:Int)<=(p:Int)+2:=(by omega);have z2:(p:Int)+2<=(s.size:Int):=(by omega);have z3:((p:Int)+2).toNat=p+2:=(by omega);rcases hcx:isC cv with _ | _
    ·rw [hcx] at his;have E:Hid (ch s p=-1/\wd s p=1):=by
      refine bY ?_;rcases hb:bad s p with _ | _
      ·exfalso
       have gv:=jP LD.o C.o hb;have hv:=mN s p;rw [gv.1,HCV.o] at hv;simp [isC] at hcx;simp [Lib.validRune] at hv;omega
      ·rfl
     go_wp2_with (go_at_call 95;(with_reducible refine(his _).mono ?_);rintro e w5 ⟨rfl,h5⟩;subst w5)
     refine wx9 ?_
     repeat (go_big_quiet_step (first | exact rfl))
     refine wpQuiet_nil ?_;intro w5 hw5;have B5:Hid (wBl wr w5):=aP hw5;clear hw5;go_wp2
     go_ret2
     rw [E.o.1,E.o.2];exact⟨rfl,B5.o⟩
    ·rw [hcx] at his;have hEx:Hid (∀ W,Calls Tryz.prog 96 #[.I cv] W fun e w'=>e=.returned (.string (txt (Lib.encodeRune cv)))/\wBl W w'):=fun W=>wD cv W hcx;have hir:0<=cv/\cv<=1114111/\(cv<55296\/57343<cv):=(by simpa [isC] using hcx);have HIR:Hid _:=hir;obtain⟨T,hT⟩:∃ T,txt (Lib.encodeRune cv)=T:=⟨_,rfl⟩;rw [hT] at hEx;have hTl:T.toList=Lib.encodeRune cv:=(by rw [<- hT,Lib.toList_data];rfl);have hsl:=nL s p 2;by_cases heq:Lib.encodeRune cv=sl s p 2
     ·have hcmp:(T.toList==(s.extract p (p+2)).toList)=true:=by rw [hTl,hsl,heq];simp
      have E:Hid (ch s p=cv/\wd s p=2):=by
       show ch s p=cv/\wd s p=2;have hl:(Lib.encodeRune cv).length=2:=(by rw [heq];unfold sl;rw [aAC,aAS,cI];omega);have d:=kM HIR.o (by rw [hl];exact heq.symm);exact⟨by rw [pC d.2.2,d.1],by rw [d.2.1,hl]⟩
      clear hT hTl hsl heq hir;go_wp2_with (go_at_call 95;(with_reducible refine(his _).mono ?_);rintro e w5 ⟨rfl,h5⟩;subst w5)
      refine wx9 ?_
      repeat (go_big_quiet_step (first | exact rfl |(go_at_call 96;exact bP (hEx.o _))))
      refine wpQuiet_nil ?_;intro w5 hw5;have B5:Hid (wBl wr w5):=aP hw5;clear hw5;go_wp2
      go_ret2
      rw [E.o.1,E.o.2];exact⟨rfl,B5.o⟩
     ·have hcmp:(T.toList==(s.extract p (p+2)).toList)=false:=by rw [hTl,hsl];simpa using heq
      have E:Hid (ch s p=-1/\wd s p=1):=by
       refine bY ?_;rcases hb:bad s p with _ | _
       ·exfalso
        have gv:=jP LD.o C.o hb;have es:=wU s p hp hb;rw [gv.2,gv.1,HCV.o] at es;exact heq es
       ·rfl
      clear hT hTl hsl heq hir;go_wp2_with (go_at_call 95;(with_reducible refine(his _).mono ?_);rintro e w5 ⟨rfl,h5⟩;subst w5)
      refine wx9 ?_
      repeat (go_big_quiet_step (first | exact rfl |(go_at_call 96;exact bP (hEx.o _))))
      refine wpQuiet_nil ?_;intro w5 hw5;have B5:Hid (wBl wr w5):=aP hw5;clear hw5;go_wp2
      go_ret2
      rw [E.o.1,E.o.2];exact⟨rfl,B5.o⟩
 ·have j1:(224:Int)<=(b0:Int):=by omega
  have j4:(b0:Int)<240:=by omega
  have j6:(192:Int)<=(b0:Int):=by omega
  have j7:¬ (b0:Int)<224:=by omega
  have v1:IntKind.wrap .i64 ((b0:Int)-224)=c0:=by rw [wrap_small _ (by omega) (by omega)];omega
  clear k2 l1 l2 l3;go_upto_region 16 with fail
  by_cases hsh:s.size-p<3
  ·have E:Hid (ch s p=-1/\wd s p=1):=bY (qC LD.o hsh);have q1:(s.size:Int)-(p:Int)<3:=(by omega);go_wp2
   go_ret2
   rw [E.o.1,E.o.2];exact⟨rfl,Below.refl _ _⟩
  have q1:¬ (s.size:Int)-(p:Int)<3:=by omega
  have hpn:p+3<=s.size:=by omega
  clear hsh;go_wp2;go_loopw [7,8] (fun t i wr=>∃ k:Nat,1<=k/\k<=3/\i=.I (k:Int)/\t=.I (cvF s p c0 (k-1))/\qO s p k/\wr=w) (fun _ i _=>3-(intOf i).toNat)
  case atStart=>exact⟨1,by omega,by omega,rfl,rfl,fun j h1 h2=>by omega,rfl⟩
  case round=>
   obtain⟨k,hk1,hk,rfl,rfl,hct,hw⟩:=hrel;subst hw;obtain⟨j,rfl⟩:∃ j,k=j+1:=⟨k-1,by omega⟩;rw [aBV];have C:Hid (qO s p (j+1)):=hct;have hcr:=qB (s:=s) (p:=p) hc0.1 hc0.2 j (by omega) hct;obtain⟨cv,hcv⟩:∃ cv,cvF s p c0 j=cv:=⟨_,rfl⟩;have HCV:Hid (cvF s p c0 j=cv):=hcv;rw [hcv] at hcr ⊢;clear hcv hct;by_cases hlt:j+1<3
   ·have gk:=nQ s (p+(j+1)) (by omega);obtain⟨bk,hbk⟩:∃ b,bt s (p+(j+1))=b:=⟨_,rfl⟩;have hbkl:=mW s (p+(j+1));rw [hbk] at gk hbkl;have HBK:Hid (bt s (p+(j+1))=bk):=hbk;clear hbk;have i1:((j+1:Nat):Int)<3:=(by omega);have wbk:IntKind.wrap .i64 (bk:Int)=(bk:Int):=wrap_small _ (by omega) (by omega);have wix:IntKind.wrap .i64 ((p:Int)+((j+1:Nat):Int))=((p+(j+1):Nat):Int):=(by rw [wrap_small _ (by omega) (by omega)];omega);have x0:(0:Int)<=((p+(j+1):Nat):Int):=(by omega);have x1:((p+(j+1):Nat):Int)<(s.size:Int):=(by omega);have x2:((p+(j+1):Nat):Int).toNat=p+(j+1):=(by omega);obtain⟨ix,hix⟩:∃ ix,p+(j+1)=ix:=⟨_,rfl⟩;obtain⟨jj,hjj⟩:∃ jj,j+1=jj:=⟨_,rfl⟩;have ixl:ix<s.size:=(by omega);have gx:(s[ix]'ixl).toNat=bk:=(by subst hix;exact gk);clear gk;rw [hix] at wix x0 x1 x2;rw [hjj] at wix i1 ⊢;have HJ:Hid (j+1=jj):=hjj;have HIX:Hid (p+(j+1)=ix):=hix;clear hjj hix;by_cases b1:(bk:Int)<128
    ·have E:Hid (ch s p=-1/\wd s p=1):=bY (jU LD.o (j:=j+1) (by omega) hlt (.inl (by rw [HBK.o];omega)));go_wp2
     go_ret2
     rw [E.o.1,E.o.2];exact⟨rfl,Below.refl _ _⟩
    by_cases b2:(191:Int)<(bk:Int)
    ·have E:Hid (ch s p=-1/\wd s p=1):=bY (jU LD.o (j:=j+1) (by omega) hlt (.inr (by rw [HBK.o];omega)));go_wp2
     go_ret2
     rw [E.o.1,E.o.2];exact⟨rfl,Below.refl _ _⟩
    have y1:IntKind.wrap .i64 (64*cv)=64*cv:=wrap_small _ (by omega) (by omega);have y2:IntKind.wrap .i64 (64*cv+(bk:Int))=64*cv+(bk:Int):=wrap_small _ (by omega) (by omega);have y3:IntKind.wrap .i64 (64*cv+(bk:Int)-128)=64*cv+(bk:Int)-128:=wrap_small _ (by omega) (by omega);have y4:IntKind.wrap .i64 ((jj:Int)+1)=(jj:Int)+1:=wrap_small _ (by omega) (by omega);go_wp2;go_roundw
    case rel=>
     refine⟨jj+1,by omega,by have:=HJ.o;omega,by go_num,?_,fun i q1 q2=>?_,by first | rfl | trivial⟩
     ·rw [aBV,<- HJ.o,cvF,HCV.o,HBK.o]
     ·by_cases e:i<j+1
      ·exact C.o i q1 e
      ·obtain rfl:i=j+1:=by have:=HJ.o;omega
       rw [HBK.o];omega
    case measure=>simp only [intOf];have:=HJ.o;omega
   ·obtain rfl:j=3-1:=by omega
    have i1:¬ (((3:Nat)-1+1:Nat):Int)<3:=(by omega);have his:=aX1 cv;have wpn:IntKind.wrap .i64 ((p:Int)+3)=(p:Int)+3:=wrap_small _ (by omega) (by omega);have z1:(p:Int)<=(p:Int)+3:=(by omega);have z2:(p:Int)+3<=(s.size:Int):=(by omega);have z3:((p:Int)+3).toNat=p+3:=(by omega);rcases hcx:isC cv with _ | _
    ·rw [hcx] at his;have E:Hid (ch s p=-1/\wd s p=1):=by
      refine bY ?_;rcases hb:bad s p with _ | _
      ·exfalso
       have gv:=jP LD.o C.o hb;have hv:=mN s p;rw [gv.1,HCV.o] at hv;simp [isC] at hcx;simp [Lib.validRune] at hv;omega
      ·rfl
     go_wp2_with (go_at_call 95;(with_reducible refine(his _).mono ?_);rintro e w5 ⟨rfl,h5⟩;subst w5)
     refine wx9 ?_
     repeat (go_big_quiet_step (first | exact rfl))
     refine wpQuiet_nil ?_;intro w5 hw5;have B5:Hid (wBl wr w5):=aP hw5;clear hw5;go_wp2
     go_ret2
     rw [E.o.1,E.o.2];exact⟨rfl,B5.o⟩
    ·rw [hcx] at his;have hEx:Hid (∀ W,Calls Tryz.prog 96 #[.I cv] W fun e w'=>e=.returned (.string (txt (Lib.encodeRune cv)))/\wBl W w'):=fun W=>wD cv W hcx;have hir:0<=cv/\cv<=1114111/\(cv<55296\/57343<cv):=(by simpa [isC] using hcx);have HIR:Hid _:=hir;obtain⟨T,hT⟩:∃ T,txt (Lib.encodeRune cv)=T:=⟨_,rfl⟩;rw [hT] at hEx;have hTl:T.toList=Lib.encodeRune cv:=(by rw [<- hT,Lib.toList_data];rfl);have hsl:=nL s p 3;by_cases heq:Lib.encodeRune cv=sl s p 3
     ·have hcmp:(T.toList==(s.extract p (p+3)).toList)=true:=by rw [hTl,hsl,heq];simp
      have E:Hid (ch s p=cv/\wd s p=3):=by
       show ch s p=cv/\wd s p=3;have hl:(Lib.encodeRune cv).length=3:=(by rw [heq];unfold sl;rw [aAC,aAS,cI];omega);have d:=kM HIR.o (by rw [hl];exact heq.symm);exact⟨by rw [pC d.2.2,d.1],by rw [d.2.1,hl]⟩
      clear hT hTl hsl heq hir;go_wp2_with (go_at_call 95;(with_reducible refine(his _).mono ?_);rintro e w5 ⟨rfl,h5⟩;subst w5)
      refine wx9 ?_
      repeat (go_big_quiet_step (first | exact rfl |(go_at_call 96;exact bP (hEx.o _))))
      refine wpQuiet_nil ?_;intro w5 hw5;have B5:Hid (wBl wr w5):=aP hw5;clear hw5;go_wp2
      go_ret2
      rw [E.o.1,E.o.2];exact⟨rfl,B5.o⟩
     ·have hcmp:(T.toList==(s.extract p (p+3)).toList)=false:=by rw [hTl,hsl];simpa using heq
      have E:Hid (ch s p=-1/\wd s p=1):=by
       refine bY ?_;rcases hb:bad s p with _ | _
       ·exfalso
        have gv:=jP LD.o C.o hb;have es:=wU s p hp hb;rw [gv.2,gv.1,HCV.o] at es;exact heq es
       ·rfl
      clear hT hTl hsl heq hir;go_wp2_with (go_at_call 95;(with_reducible refine(his _).mono ?_);rintro e w5 ⟨rfl,h5⟩;subst w5)
      refine wx9 ?_
      repeat (go_big_quiet_step (first | exact rfl |(go_at_call 96;exact bP (hEx.o _))))
      refine wpQuiet_nil ?_;intro w5 hw5;have B5:Hid (wBl wr w5):=aP hw5;clear hw5;go_wp2
      go_ret2
      rw [E.o.1,E.o.2];exact⟨rfl,B5.o⟩
 ·have j1:(240:Int)<=(b0:Int):=by omega
  have j4:(b0:Int)<248:=by omega
  have j6:(192:Int)<=(b0:Int):=by omega
  have j7:¬ (b0:Int)<224:=by omega
  have j8:(224:Int)<=(b0:Int):=by omega
  have j9:¬ (b0:Int)<240:=by omega
  have v1:IntKind.wrap .i64 ((b0:Int)-240)=c0:=by rw [wrap_small _ (by omega) (by omega)];omega
  clear k2 l1 l2 l3;go_upto_region 16 with fail
  by_cases hsh:s.size-p<4
  ·have E:Hid (ch s p=-1/\wd s p=1):=bY (qC LD.o hsh);have q1:(s.size:Int)-(p:Int)<4:=(by omega);go_wp2
   go_ret2
   rw [E.o.1,E.o.2];exact⟨rfl,Below.refl _ _⟩
  have q1:¬ (s.size:Int)-(p:Int)<4:=by omega
  have hpn:p+4<=s.size:=by omega
  clear hsh;go_wp2;go_loopw [7,8] (fun t i wr=>∃ k:Nat,1<=k/\k<=4/\i=.I (k:Int)/\t=.I (cvF s p c0 (k-1))/\qO s p k/\wr=w) (fun _ i _=>4-(intOf i).toNat)
  case atStart=>exact⟨1,by omega,by omega,rfl,rfl,fun j h1 h2=>by omega,rfl⟩
  case round=>
   obtain⟨k,hk1,hk,rfl,rfl,hct,hw⟩:=hrel;subst hw;obtain⟨j,rfl⟩:∃ j,k=j+1:=⟨k-1,by omega⟩;rw [aBV];have C:Hid (qO s p (j+1)):=hct;have hcr:=qB (s:=s) (p:=p) hc0.1 hc0.2 j (by omega) hct;obtain⟨cv,hcv⟩:∃ cv,cvF s p c0 j=cv:=⟨_,rfl⟩;have HCV:Hid (cvF s p c0 j=cv):=hcv;rw [hcv] at hcr ⊢;clear hcv hct;by_cases hlt:j+1<4
   ·have gk:=nQ s (p+(j+1)) (by omega);obtain⟨bk,hbk⟩:∃ b,bt s (p+(j+1))=b:=⟨_,rfl⟩;have hbkl:=mW s (p+(j+1));rw [hbk] at gk hbkl;have HBK:Hid (bt s (p+(j+1))=bk):=hbk;clear hbk;have i1:((j+1:Nat):Int)<4:=(by omega);have wbk:IntKind.wrap .i64 (bk:Int)=(bk:Int):=wrap_small _ (by omega) (by omega);have wix:IntKind.wrap .i64 ((p:Int)+((j+1:Nat):Int))=((p+(j+1):Nat):Int):=(by rw [wrap_small _ (by omega) (by omega)];omega);have x0:(0:Int)<=((p+(j+1):Nat):Int):=(by omega);have x1:((p+(j+1):Nat):Int)<(s.size:Int):=(by omega);have x2:((p+(j+1):Nat):Int).toNat=p+(j+1):=(by omega);obtain⟨ix,hix⟩:∃ ix,p+(j+1)=ix:=⟨_,rfl⟩;obtain⟨jj,hjj⟩:∃ jj,j+1=jj:=⟨_,rfl⟩;have ixl:ix<s.size:=(by omega);have gx:(s[ix]'ixl).toNat=bk:=(by subst hix;exact gk);clear gk;rw [hix] at wix x0 x1 x2;rw [hjj] at wix i1 ⊢;have HJ:Hid (j+1=jj):=hjj;have HIX:Hid (p+(j+1)=ix):=hix;clear hjj hix;by_cases b1:(bk:Int)<128
    ·have E:Hid (ch s p=-1/\wd s p=1):=bY (jU LD.o (j:=j+1) (by omega) hlt (.inl (by rw [HBK.o];omega)));go_wp2
     go_ret2
     rw [E.o.1,E.o.2];exact⟨rfl,Below.refl _ _⟩
    by_cases b2:(191:Int)<(bk:Int)
    ·have E:Hid (ch s p=-1/\wd s p=1):=bY (jU LD.o (j:=j+1) (by omega) hlt (.inr (by rw [HBK.o];omega)));go_wp2
     go_ret2
     rw [E.o.1,E.o.2];exact⟨rfl,Below.refl _ _⟩
    have y1:IntKind.wrap .i64 (64*cv)=64*cv:=wrap_small _ (by omega) (by omega);have y2:IntKind.wrap .i64 (64*cv+(bk:Int))=64*cv+(bk:Int):=wrap_small _ (by omega) (by omega);have y3:IntKind.wrap .i64 (64*cv+(bk:Int)-128)=64*cv+(bk:Int)-128:=wrap_small _ (by omega) (by omega);have y4:IntKind.wrap .i64 ((jj:Int)+1)=(jj:Int)+1:=wrap_small _ (by omega) (by omega);go_wp2;go_roundw
    case rel=>
     refine⟨jj+1,by omega,by have:=HJ.o;omega,by go_num,?_,fun i q1 q2=>?_,by first | rfl | trivial⟩
     ·rw [aBV,<- HJ.o,cvF,HCV.o,HBK.o]
     ·by_cases e:i<j+1
      ·exact C.o i q1 e
      ·obtain rfl:i=j+1:=by have:=HJ.o;omega
       rw [HBK.o];omega
    case measure=>simp only [intOf];have:=HJ.o;omega
   ·obtain rfl:j=4-1:=by omega
    have i1:¬ (((4:Nat)-1+1:Nat):Int)<4:=(by omega);have his:=aX1 cv;have wpn:IntKind.wrap .i64 ((p:Int)+4)=(p:Int)+4:=wrap_small _ (by omega) (by omega);have z1:(p:Int)<=(p:Int)+4:=(by omega);have z2:(p:Int)+4<=(s.size:Int):=(by omega);have z3:((p:Int)+4).toNat=p+4:=(by omega);rcases hcx:isC cv with _ | _
    ·rw [hcx] at his;have E:Hid (ch s p=-1/\wd s p=1):=by
      refine bY ?_;rcases hb:bad s p with _ | _
      ·exfalso
       have gv:=jP LD.o C.o hb;have hv:=mN s p;rw [gv.1,HCV.o] at hv;simp [isC] at hcx;simp [Lib.validRune] at hv;omega
      ·rfl
     go_wp2_with (go_at_call 95;(with_reducible refine(his _).mono ?_);rintro e w5 ⟨rfl,h5⟩;subst w5)
     refine wx9 ?_
     repeat (go_big_quiet_step (first | exact rfl))
     refine wpQuiet_nil ?_;intro w5 hw5;have B5:Hid (wBl wr w5):=aP hw5;clear hw5;go_wp2
     go_ret2
     rw [E.o.1,E.o.2];exact⟨rfl,B5.o⟩
    ·rw [hcx] at his;have hEx:Hid (∀ W,Calls Tryz.prog 96 #[.I cv] W fun e w'=>e=.returned (.string (txt (Lib.encodeRune cv)))/\wBl W w'):=fun W=>wD cv W hcx;have hir:0<=cv/\cv<=1114111/\(cv<55296\/57343<cv):=(by simpa [isC] using hcx);have HIR:Hid _:=hir;obtain⟨T,hT⟩:∃ T,txt (Lib.encodeRune cv)=T:=⟨_,rfl⟩;rw [hT] at hEx;have hTl:T.toList=Lib.encodeRune cv:=(by rw [<- hT,Lib.toList_data];rfl);have hsl:=nL s p 4;by_cases heq:Lib.encodeRune cv=sl s p 4
     ·have hcmp:(T.toList==(s.extract p (p+4)).toList)=true:=by rw [hTl,hsl,heq];simp
      have E:Hid (ch s p=cv/\wd s p=4):=by
       show ch s p=cv/\wd s p=4;have hl:(Lib.encodeRune cv).length=4:=(by rw [heq];unfold sl;rw [aAC,aAS,cI];omega);have d:=kM HIR.o (by rw [hl];exact heq.symm);exact⟨by rw [pC d.2.2,d.1],by rw [d.2.1,hl]⟩
      clear hT hTl hsl heq hir;go_wp2_with (go_at_call 95;(with_reducible refine(his _).mono ?_);rintro e w5 ⟨rfl,h5⟩;subst w5)
      refine wx9 ?_
      repeat (go_big_quiet_step (first | exact rfl |(go_at_call 96;exact bP (hEx.o _))))
      refine wpQuiet_nil ?_;intro w5 hw5;have B5:Hid (wBl wr w5):=aP hw5;clear hw5;go_wp2
      go_ret2
      rw [E.o.1,E.o.2];exact⟨rfl,B5.o⟩
     ·have hcmp:(T.toList==(s.extract p (p+4)).toList)=false:=by rw [hTl,hsl];simpa using heq
      have E:Hid (ch s p=-1/\wd s p=1):=by
       refine bY ?_;rcases hb:bad s p with _ | _
       ·exfalso
        have gv:=jP LD.o C.o hb;have es:=wU s p hp hb;rw [gv.2,gv.1,HCV.o] at es;exact heq es
       ·rfl
      clear hT hTl hsl heq hir;go_wp2_with (go_at_call 95;(with_reducible refine(his _).mono ?_);rintro e w5 ⟨rfl,h5⟩;subst w5)
      refine wx9 ?_
      repeat (go_big_quiet_step (first | exact rfl |(go_at_call 96;exact bP (hEx.o _))))
      refine wpQuiet_nil ?_;intro w5 hw5;have B5:Hid (wBl wr w5):=aP hw5;clear hw5;go_wp2
      go_ret2
      rw [E.o.1,E.o.2];exact⟨rfl,B5.o⟩
end
section
attribute [local go_sem] Oper.semAt_some aT
theorem bR1{w:World}{v:Value}{L:lIi}{c:Int}(h:ArgR w v L) :
  Calls Tryz.prog 154 #[v,.I c] w fun e w'=>e=.returned (.bool (nK L c))/\wBl w w':=by
 obtain⟨q,cap,rfl,hlen,-,hcells⟩:=h.slice;have HC:Hid (∀ (i:Nat) (r:Int×Int),L[i]?=some r->∃ g off,q=some (aDr g off)/\g<w.heap.size/\w.cell? ⟨g,off+2*i,none⟩=some (.I r.1)/\w.cell? ⟨g,off+2*i+1,none⟩=some (.I r.2)):=hcells;clear hcells h;unfold maxLen at hlen;go_enter Tryz.func154,Tryz.ntmps154;go_wp2;go_loopw [5] (fun i wr=>∃ k:Nat,k<=L.length/\i=.I k/\nK (L.take k) c=false/\wBl w wr) (fun i _=>L.length-(intOf i).toNat)
 case atStart=>exact⟨0,r9 _,rfl,rfl,Below.refl _ _⟩
 case round=>
  obtain⟨k,hk,rfl,hno,hbl⟩:=hrel;have HB:Hid (wBl w wr):=hbl;have HN:Hid (nK (L.take k) c=false):=hno;clear hbl hno;by_cases hlt:k<L.length
  ·obtain⟨r,hr⟩:∃ r,L[k]?=some r:=⟨_,m7 hlt⟩;obtain⟨g,off,rfl,hg,x1,x2⟩:=HC.o k r hr;have d1:=(HB.o.cell (p:=⟨g,off+2*k,none⟩) hg).trans x1;have d2:=(HB.o.cell (p:=⟨g,off+2*k+1,none⟩) hg).trans x2;rw [aAV] at d1 d2;have HR:Hid (L[k]?=some r):=hr;have i0:(0:Int)<=(k:Int):=(by omega);have i1:(k:Int)<(L.length:Int):=(by omega);clear x1 x2 hr;obtain⟨lo,hi⟩:=r;dsimp only at d1 d2;by_cases h1:lo<=c
   ·by_cases h2:c<=hi
    ·have F:Hid (nK L c=true):=aE9 HR.o h1 h2;have e1:decide (lo<=c)=true:=aAQ h1;have e2:decide (c<=hi)=true:=aAQ h2;go_wp2;go_ret;exact⟨by rw [F.o];rfl,HB.o⟩
    ·have E:Hid ((decide (lo<=c)&&decide (c<=hi))=false):=aC (by simp [h2]);have e1:decide (lo<=c)=true:=aAQ h1;have e2:decide (c<=hi)=false:=t6 h2;go_wp2;go_roundw
     case rel=>exact⟨k+1,by omega,by go_num,by rw [uU HR.o,HN.o];exact E.o,HB.o⟩
     case measure=>simp [intOf];omega
   ·have E:Hid ((decide (lo<=c)&&decide (c<=hi))=false):=aC (by simp [h1]);have e1:decide (lo<=c)=false:=t6 h1;go_wp2;go_roundw
    case rel=>exact⟨k+1,by omega,by go_num,by rw [uU HR.o,HN.o];exact E.o,HB.o⟩
    case measure=>simp [intOf];omega
  ·have i1:¬ (k:Int)<(L.length:Int):=by omega
   have E:Hid (nK L c=false):=aC (by have:=HN.o;rwa [n9 (by omega)] at this);go_wp2;go_ret;exact⟨by rw [E.o];rfl,HB.o⟩
theorem aN1(s:ByteArray)(k:Nat)(c:Bool)(w:World)(hk:k<s.size)(hs:s.size<=1000000) :
  Calls Tryz.prog 153 #[.string s,.I (k:Int),.bool c] w fun e w'=>e=.returned (.tuple #[.I (uni c s k).1,.I ((uni c s k).2:Int)])/\wBl w w':=by
 cases c with
 | true=>
  have e:uni true s k=(ch s k,wd s k):=rfl;rw [e];clear e;have hc:=aC (fun W=>aI9 s k W hk (by omega));dsimp only;generalize ch s k=x at hc;generalize wd s k=y at hc;go_enter Tryz.func153,Tryz.ntmps153;go_wp2_with (go_at_call 69;(with_reducible refine(hc.o _).mono ?_);rintro e w5 ⟨rfl,h5⟩;have B5:=aC h5;clear h5)
  go_ret2
  exact⟨rfl,B5.o⟩
 | false=>
  have e:uni false s k=((bt s k:Int),1):=rfl;rw [e];clear e;have i0:¬ (k:Int)<0:=by omega
  have i1:¬ (s.size:Int)<=(k:Int):=by omega
  have i2:(0:Int)<=(k:Int):=by omega
  have i3:(k:Int)<(s.size:Int):=by omega
  have g0:=nQ s k hk;have hb:=mW s k;obtain⟨b0,hb0⟩:∃ b,bt s k=b:=⟨_,rfl⟩;rw [hb0] at g0 hb;have HB:=aC hb0;have wb:IntKind.wrap .i64 (b0:Int)=(b0:Int):=wrap_small _ (by omega) (by omega);clear hb0;go_enter Tryz.func153,Tryz.ntmps153;go_wp2
  go_ret2
  exact⟨by rw [HB.o];rfl,Below.refl _ _⟩
theorem aB5(s:ByteArray)(c:Bool)(w:World):Calls Tryz.prog 153 #[.string s,.I (s.size:Int),.bool c] w fun e w'=>e=.returned (.tuple #[.I 0,.I 0])/\wBl w w':=by
 obtain⟨k,hk⟩:∃ k,s.size=k:=⟨_,rfl⟩;have i0:¬ (k:Int)<0:=by omega
 have i1:(s.size:Int)<=(k:Int):=by omega
 rw [hk]
 cases c with
 | true=>
  have hc:Hid (∀ W,Calls Tryz.prog 69 #[.string s,.I (k:Int)] W fun e w'=>e=.returned (.tuple #[.I 0,.I 0])/\wBl W w'):=fun W=>by
   clear hk;go_enter Tryz.func69,Tryz.ntmps69;go_wp2
   go_ret2
   exact⟨rfl,Below.refl _ _⟩
  clear hk;go_enter Tryz.func153,Tryz.ntmps153;go_wp2_with (go_at_call 69;(with_reducible refine(hc.o _).mono ?_);rintro e w5 ⟨rfl,h5⟩;have B5:=aC h5;clear h5)
  go_ret2
  exact⟨rfl,B5.o⟩
 | false=>
  clear hk;go_enter Tryz.func153,Tryz.ntmps153;go_wp2
  go_ret2
  exact⟨rfl,Below.refl _ _⟩
def unE(L:Ln)(i:Nat):Int×Nat:=if i<L.s.size then uni L.c L.s i else (0,0)
theorem bF6(L:Ln)(k:Nat)(w:World)(hk:k<=L.s.size)(hs:L.s.size<=1000000) :
  Calls Tryz.prog 153 #[.string L.s,.I (k:Int),.bool L.c] w fun e w'=>e=.returned (.tuple #[.I (unE L k).1,.I ((unE L k).2:Int)])/\wBl w w':=by
 unfold unE
 split
 ·exact aN1 L.s k L.c w (by assumption) hs
 ·have:k=L.s.size:=by omega
  subst this;exact aB5 L.s L.c w
def lfV(o:Option Nat):Int:=match o with | none=>-1 | some j=>(j:Int)
theorem aZ1(L:Ln)(f:Fl)(i:Nat)(hk:f.k=2):dK L f i=if (unE L i).2=0\/(unE L i).1<0\/nK f.rs (unE L i).1=false then none else some (i+(unE L i).2):=by
 unfold dK unE;rw [if_pos hk];by_cases h:i<L.s.size
 ·rw [if_pos h];have:=bF8 L.c L.s i;by_cases h2:0<=(uni L.c L.s i).1/\bA1 f.rs (uni L.c L.s i).1=true
  ·rw [if_pos ⟨h,h2⟩,if_neg];have e:nK f.rs (uni L.c L.s i).1=true:=h2.2;rintro (q | q | q)
   ·omega
   ·omega
   ·rw [e] at q;cases q
  ·rw [if_neg (fun q=>h2 q.2),if_pos];by_cases h3:(uni L.c L.s i).1<0
   ·exact .inr (.inl h3)
   ·refine .inr (.inr ?_)
    cases hh:nK f.rs (uni L.c L.s i).1 with
    | false=>rfl
    | true=>exact absurd ⟨by omega,hh⟩ h2
 ·rw [if_neg (fun q=>h q.1),if_neg h,if_pos (.inl rfl)]
end
section
attribute [local go_sem] Oper.semAt_some aT
variable {H:Gh} {rs:lOn} {wk:Int} {mu:Bool}
theorem aZ3{w:World}(hw:WM H w rs wk mu)(f:Fl)(a:Nat)(ha:a<=H.L.s.size)(hn:H.L.s.size<=1000000)(hr:ArgR w (.slice f.rq f.rs.length f.rc) f.rs) :
  Calls Tryz.prog 124 #[.pointer (some ⟨H.b,0,none⟩),.agg (nDf f),.I (a:Int)] w fun e w'=>e=.returned (.I (lfV (dK H.L f a)))/\wBl w w':=by
 have B0:Hid (wBl w (w.alloc (.cells (nDf f) 25))):=bz9;have N0:Hid (BoxN (w.alloc (.cells (nDf f) 25)) w.heap.size f):=aE w _;have W0:=aC (hw.below B0.o);have R0:=aC (hr.kept B0.o);clear hr;go_enter Tryz.func124,Tryz.ntmps124;go_upto_region 1 with fail
 generalize (w.alloc (.cells (nDf f) 25))=w1 at B0 N0 W0 R0 ⊢;obtain⟨n0,n1,n2,n3,n4,n5⟩:=N0.o.six;simp only [n7] at n1 n2 n3 n4 n5;have c1:=W0.o.cell (i:=1) rfl;have c2:=W0.o.cell (i:=2) rfl;by_cases k2:f.k=2
 ·have HV:=aC (aZ1 H.L f a k2);have UC:=aC (fun W=>bF6 H.L a W ha hn);have e2:(f.k==2)=true:=by rw [k2];rfl
  obtain⟨⟨x,y⟩,hxy⟩:∃ q,unE H.L a=q:=⟨_,rfl⟩;have hy:y<=4:=by
   have:y=(unE H.L a).2:=by rw [hxy]
   rw [this];unfold unE
   split
   ·exact(aB6 (by assumption)).2
   ·simp
  rw [hxy] at HV UC;clear hxy k2;dsimp only at HV UC;go_upto_region 3 with fail
  refine wx9 ?_;have lb:=W0.o.b_lt
  repeat (go_big_quiet_step (first | exact rfl |(go_at_call 153;exact bP (UC.o _))))
  refine wpQuiet_nil ?_;intro w5 hw5;have B5:=aC (aP hw5);clear hw5;have HB5:=aC (aJ B0.o B5.o lz9);have m4:w5.cell? (aDr w.heap.size 4)=some (.slice f.rq f.rs.length f.rc):=(B5.o.cell (p:=(aDr w.heap.size 4)) (aB N0.o)).trans n4;have HC:=aC (bR1 (c:=x) (R0.o.kept B5.o));obtain⟨hb,hhb⟩:∃ q,nK f.rs x=q:=⟨_,rfl⟩;rw [hhb] at HV HC;clear hhb n0 n1 n2 n3 n4 n5 c1 c2;go_upto_region 5 with (go_at_call 154;(with_reducible refine(HC.o).mono ?_);rintro e w6 ⟨rfl,h6⟩;have B6:=aC (aJ HB5.o h6 lz9);clear h6)
  by_cases y0:y=0
  ·subst y0;go_wp2;go_ret;exact⟨by rw [HV.o];rfl,B6.o⟩
  ·have q0:((y:Int)==0)=false:=by simp;omega
   have HY:=aC y0;clear y0;by_cases x0:x<0
   ·have HV2:Hid (dK H.L f a=none):=aC (by rw [HV.o,if_pos (.inr (.inl x0))]);clear HV;go_wp2;go_ret;exact⟨by rw [HV2.o];rfl,B6.o⟩
   ·cases hb with
    | false=>
     have HV2:Hid (dK H.L f a=none):=aC (by rw [HV.o,if_pos (.inr (.inr rfl))]);clear HV;go_wp2;go_ret;exact⟨by rw [HV2.o];rfl,B6.o⟩
    | true=>
     have hwr:IntKind.wrap .i64 ((a:Int)+(y:Int))=(a:Int)+(y:Int):=wrap_small _ (by omega) (by omega);have HV2:Hid (dK H.L f a=some (a+y)):=aC (by
      rw [HV.o,if_neg];rintro (q | q | q)
      ·exact HY.o q
      ·exact x0 q
      ·cases q)
     clear HV;go_wp2;go_ret;refine⟨?_,B6.o⟩;rw [HV2.o];show _=Ending.returned (.I ((a+y:Nat):Int));rw [Int.natCast_add]
     rfl
 ·have e2:(f.k==2)=false:=by simpa using k2
  by_cases k3:f.k=3
  ·have e3:(f.k==3)=true:=by rw [k3];rfl
   have HV:Hid (dK H.L f a=if a=0 then some a else none):=aC (by unfold dK;rw [if_neg k2,if_pos k3]);clear k2 k3;by_cases a0:a=0
   ·subst a0;go_wp2;go_ret;exact⟨by rw [HV.o];rfl,B0.o⟩
   ·have q0:((a:Int)==0)=false:=by simp;omega
    have q1:((a:Int) != 0)=true:=(by simp;omega);have HA:=aC a0;clear a0;go_wp2;go_ret;exact⟨by rw [HV.o,if_neg HA.o];rfl,B0.o⟩
  ·have e3:(f.k==3)=false:=by simpa using k3
   by_cases k4:f.k=4
   ·have e4:(f.k==4)=true:=by rw [k4];rfl
    have HV:Hid (dK H.L f a=if a=H.L.s.size then some a else none):=aC (by unfold dK;rw [if_neg k2,if_neg k3,if_pos k4]);clear k2 k3 k4;by_cases a0:a=H.L.s.size
    ·have q0:((a:Int)==(H.L.s.size:Int))=true:=by rw [a0];simp
     have q1:((a:Int) != (H.L.s.size:Int))=false:=(by rw [a0];simp);have HA:=aC a0;clear a0;go_wp2;go_ret;exact⟨by rw [HV.o,if_pos HA.o];rfl,B0.o⟩
    ·have q0:((a:Int)==(H.L.s.size:Int))=false:=by simp;omega
     have q1:((a:Int) != (H.L.s.size:Int))=true:=(by simp;omega);have HA:=aC a0;clear a0;go_wp2;go_ret;exact⟨by rw [HV.o,if_neg HA.o];rfl,B0.o⟩
   ·have e4:(f.k==4)=false:=by simpa using k4
    have HV:Hid (dK H.L f a=some a):=aC (by unfold dK;rw [if_neg k2,if_neg k3,if_neg k4]);clear k2 k3 k4;go_wp2;go_ret;exact⟨by rw [HV.o];rfl,B0.o⟩
theorem bE2{w:World}(hw:WM H w rs wk mu)(q:Int×Int)(a:Nat)(ha:a<=H.L.s.size)(hn:H.L.s.size<=1000000)(hq:q=(-1,-1)\/(0<=q.1/\q.1<=q.2/\q.2<=(H.L.s.size:Int))) :
  Calls Tryz.prog 74 #[.pointer (some ⟨H.b,0,none⟩),.agg #[.I q.1,.I q.2],.I (a:Int)] w fun e w'=>e=.returned (.I (lfV (gQ H.L q a)))/\wBl w w':=by
 obtain⟨A,B⟩:=q;dsimp only at hq ⊢;have B0:Hid (wBl w (w.alloc (.cells #[.I A,.I B] 84))):=bz9;have N0:Hid ((w.alloc (.cells #[.I A,.I B] 84)).heap[w.heap.size]?=some (.cells #[.I A,.I B] 84 (0,0))):=aE w _;have W0:=aC (hw.below B0.o);by_cases hA:A<0
 ·have HV:Hid (gQ H.L (A,B) a=none):=aC (by unfold gQ;rw [if_pos (.inl hA)]);go_enter Tryz.func74,Tryz.ntmps74;go_upto_region 1 with fail
  generalize (w.alloc (.cells #[.I A,.I B] 84))=w1 at B0 N0 W0 ⊢;have n0:=aA N0.o (i:=0) rfl;go_wp2;go_ret;exact⟨by rw [HV.o];rfl,B0.o⟩
 ·have hq:=hq.resolve_left (fun e=>by injection e with e1;omega);obtain⟨n,hnn⟩:∃ n:Nat,B-A=(n:Int):=⟨(B-A).toNat,by omega⟩;obtain⟨p,hp⟩:∃ p:Nat,A=(p:Int):=⟨A.toNat,by omega⟩;have hsub:IntKind.wrap .i64 (B-A)=(n:Int):=by rw [hnn];exact wrap_small _ (by omega) (by omega)
  have hs2:IntKind.wrap .i64 ((H.L.s.size:Int)-(a:Int))=(H.L.s.size:Int)-(a:Int):=by rw [IntKind.wrap_i64];omega
  have HB:Hid (gQ H.L (A,B) a=if H.L.s.size<a+n then none else if ∀ k,k<n->alk H.L.o (bt H.L.s (p+k)) (bt H.L.s (a+k))=true then some (a+n) else none):=aC (by
   unfold gQ;simp only;rw [show (B-A).toNat=n by omega,show A.toNat=p by omega];by_cases h1:H.L.s.size<a+n
   ·rw [if_pos (.inr h1),if_pos h1]
   ·rw [if_neg (by omega),if_neg h1])
  have hpn:p+n<=H.L.s.size:=by omega
  clear hnn hq;subst hp;go_enter Tryz.func74,Tryz.ntmps74;go_upto_region 1 with fail
  generalize (w.alloc (.cells #[.I (p:Int),.I B] 84))=w1 at B0 N0 W0 ⊢;have n0:=aA N0.o (i:=0) rfl;have n1:=aA N0.o (i:=1) rfl;have c1:=W0.o.cell (i:=1) rfl;have c3:=W0.o.cell (i:=3) rfl;by_cases hlong:H.L.s.size<a+n
  ·have q1:(H.L.s.size:Int)-(a:Int)<(n:Int):=by omega
   have HV:Hid (gQ H.L ((p:Int),B) a=none):=aC (by rw [HB.o,if_pos hlong]);clear HB;go_wp2;go_ret;exact⟨by rw [HV.o];rfl,B0.o⟩
  ·have q1:¬ (H.L.s.size:Int)-(a:Int)<(n:Int):=by omega
   rw [if_neg hlong] at HB;have AL:=aC (fun (x y:Nat) (hx:x<256) (hy:y<256) W=>aS8 x y H.L.o W hx hy);have lb:=W0.o.b_lt;have lw:=aB N0.o;clear hlong;go_upto_region 7 with fail
   go_loopw [8] (fun i wr=>∃ k:Nat,k<=n/\i=.I (k:Int)/\(∀ j,j<k->alk H.L.o (bt H.L.s (p+j)) (bt H.L.s (a+j))=true)/\wBl w1 wr) (fun i _=>n-(intOf i).toNat)
   case atStart=>exact⟨0,r9 _,rfl,fun j h=>by omega,Below.refl _ _⟩
   case round=>
    obtain⟨k,hk,rfl,hall,hbl⟩:=hrel;have HL:=aC hall;have BL:=aC hbl;clear hall hbl;by_cases hkn:k<n
    ·have i0:(k:Int)<(n:Int):=by omega
     have d0:wr.cell? (aDr w.heap.size 0)=some (.I (p:Int)):=(BL.o.cell (p:=(aDr w.heap.size 0)) lw).trans n0;have d1:wr.cell? ⟨H.b,1,none⟩=some (.string H.L.s):=(BL.o.cell (p:=⟨H.b,1,none⟩) lb).trans c1;have d3:wr.cell? ⟨H.b,3,none⟩=some (.bool H.L.o):=(BL.o.cell (p:=⟨H.b,3,none⟩) lb).trans c3;have lb2:H.b<wr.heap.size:=o4 lb BL.o.size;have lw2:w.heap.size<wr.heap.size:=o4 lw BL.o.size;have g1:=nQ H.L.s (p+k) (by omega);have g2:=nQ H.L.s (a+k) (by omega);have l1:=mW H.L.s (p+k);have l2:=mW H.L.s (a+k);have x1:IntKind.wrap .i64 ((p:Int)+(k:Int))=((p+k:Nat):Int):=(by rw [wrap_small _ (by omega) (by omega)];omega);have x2:IntKind.wrap .i64 ((a:Int)+(k:Int))=((a+k:Nat):Int):=(by rw [wrap_small _ (by omega) (by omega)];omega);have x3:IntKind.wrap .i64 ((k:Int)+1)=(k:Int)+1:=wrap_small _ (by omega) (by omega);have AC:=aC (AL.o _ _ l1 l2);obtain⟨r,hr⟩:∃ r,alk H.L.o (bt H.L.s (p+k)) (bt H.L.s (a+k))=r:=⟨_,rfl⟩;have HR:=aC hr;rw [hr] at AC;clear hr;obtain⟨u1,hu1⟩:∃ u,bt H.L.s (p+k)=u:=⟨_,rfl⟩;obtain⟨u2,hu2⟩:∃ u,bt H.L.s (a+k)=u:=⟨_,rfl⟩;rw [hu1] at g1 l1 AC;rw [hu2] at g2 l2 AC;clear hu1 hu2;obtain⟨i1,hi1⟩:∃ i,p+k=i:=⟨_,rfl⟩;obtain⟨i2,hi2⟩:∃ i,a+k=i:=⟨_,rfl⟩;have z1:i1<H.L.s.size:=(by omega);have z2:i2<H.L.s.size:=(by omega);have gx1:(H.L.s[i1]'z1).toNat=u1:=(by subst hi1;exact g1);have gx2:(H.L.s[i2]'z2).toNat=u2:=(by subst hi2;exact g2);rw [hi1] at x1;rw [hi2] at x2;have HI1:=aC hi1;have HI2:=aC hi2;clear g1 g2 hi1 hi2;have y1:(0:Int)<=(i1:Int):=(by omega);have y2:(i1:Int)<(H.L.s.size:Int):=(by omega);have y3:(0:Int)<=(i2:Int):=(by omega);have y4:(i2:Int)<(H.L.s.size:Int):=(by omega);go_upto_region 9 with fail
     refine wx9 ?_
     repeat (go_big_quiet_step (first | exact rfl |(go_at_call 98;exact bP ((AC.o _).mono (by rintro e w5 ⟨rfl,rfl⟩;exact⟨rfl,Below.refl _ _⟩)))))
     refine wpQuiet_nil ?_;intro w5 hw5;have B5:=aC (aJ BL.o (aP hw5) lz9);clear hw5
     cases r with
     | true=>
      go_wp2;go_roundw
      case rel=>exact⟨k+1,by omega,by go_num,fun j hj=>by
       by_cases e:j=k
       ·subst e;exact HR.o
       ·exact HL.o j (by omega),B5.o⟩
      case measure=>simp only [intOf];omega
     | false=>
      have HV:Hid (gQ H.L ((p:Int),B) a=none):=aC (by
       rw [HB.o,if_neg (fun q=>by have:=q k hkn;rw [HR.o] at this;cases this)])
      go_wp2;go_ret;exact⟨by rw [HV.o];rfl,aJ B0.o B5.o lz9⟩
    ·have hkk:k=n:=by omega
     subst hkk;have i0:¬ (k:Int)<(k:Int):=(by omega);have x3:IntKind.wrap .i64 ((a:Int)+(k:Int))=((a+k:Nat):Int):=(by rw [wrap_small _ (by omega) (by omega)];omega);have HV:Hid (gQ H.L ((p:Int),B) a=some (a+k)):=aC (by rw [HB.o,if_pos HL.o]);go_wp2;go_ret;exact⟨by rw [HV.o];rfl,aJ B0.o BL.o lz9⟩
end
section
attribute [local go_sem] Oper.semAt_some aT
structure Gk(H:Gh):Prop where
 mp:H.Z.map (·.1)=pp [] H.t
 te:∀ (i:Nat) (z:Zl),H.Z[i]?=some z->z.2=i+z.1.2.sz
 len:H.Z.length<=2000
 sm:H.L.s.size<=1000
 np:bL (NP H.L.c H.L.o) H.t
variable {H:Gh} {rs:lOn} {wk:Int} {mu:Bool}
theorem Gk.at(hk:Gk H){i:Nat}{z:Zl}(h:H.Z[i]?=some z):(pp [] H.t)[i]?=some z.1:=by rw [<- hk.mp,aBC,h];rfl
theorem Gk.get(hk:Gk H){i:Nat}{x:El}(h:(pp [] H.t)[i]?=some x):∃ z,H.Z[i]?=some z/\z.1=x:=by
 rw [<- hk.mp,aBC] at h
 cases hz:H.Z[i]? with
 | none=>rw [hz] at h;cases h
 | some z=>rw [hz] at h;exact⟨z,rfl,t8 h⟩
theorem Gk.npz(hk:Gk H){i:Nat}{z:Zl}(h:H.Z[i]?=some z):bL (NP H.L.c H.L.o) z.1.2:=gP H.t [] hk.np z.1 (n8 (hk.at h))
theorem Gk.kid(hk:Gk H){i:Nat}{z:Zl}(h:H.Z[i]?=some z){j:Nat}{u:Tr}(hu:z.1.2.ks[j]?=some u):∃ y,H.Z[i+1+szs (z.1.2.ks.take j)]?=some y/\y.1.2=u/\y.2=i+1+szs (z.1.2.ks.take (j+1)):=by
 obtain⟨h1,-⟩:=bS8 (hk.at h) hu;obtain⟨y,hy,e⟩:=hk.get h1;refine⟨y,hy,by rw [e],?_⟩;rw [hk.te _ _ hy,e,bM hu];simp only;omega
def hU(i:Nat)(ks:List Tr):List Nat:=(List.range ks.length).map fun j=>i+1+szs (ks.take j)
theorem eA(i:Nat)(ks:List Tr):(hU i ks).length=ks.length:=by simp [hU]
theorem jM{i j:Nat}{ks:List Tr}(h:j<ks.length):(hU i ks)[j]?=some (i+1+szs (ks.take j)):=by simp [hU,h]
theorem aQ6{i j:Nat}{ks:List Tr}(h:j<ks.length):(hU i ks).take (j+1)=(hU i ks).take j++[i+1+szs (ks.take j)]:=by
 rw [t9,jM h];rfl
theorem bQ0{ks:List Tr}{j:Nat}(hj:j<ks.length):szs (ks.take j)<szs ks:=by
 have h:=bM (m7 hj);have:=dS ks[j];have:=lA ks (j+1);omega
theorem lK{w:World}(hk:Gk H)(hw:WM H w rs wk mu){i:Nat}{z:Zl}(hz:H.Z[i]?=some z) :
  Calls Tryz.prog 72 #[.pointer (some ⟨H.b,0,none⟩),.I (i:Int)] w (bW8 w (hU i z.1.2.ks)):=by
 have W0:=aC hw;have lb:=hw.b_lt;have c0:=hw.cell (i:=0) rfl;have hil:=(m8.1 hz).1;have hlen:=hk.len;have hto:=hk.te i z hz;have hsz:=fE z.1.2;have y11:=hw.z.cells hz (j:=11) (v:=.I (z.2:Int)) rfl;have hzb:=(aF hw.z rfl).2.1;have HK:=aC hk;have HZ:=aC hz;have hsl:i+1+szs z.1.2.ks<=2000:=by
  have:=hk.mp;obtain⟨r,hr⟩:=seg H.t [] i z.1 (hk.at hz);have h3:=congrArg List.length hr;rw [o8,cQ,aAS] at h3;have h4:=congrArg List.length this;rw [aAG] at h4;omega
 have hto2:z.2=i+1+szs z.1.2.ks:=by omega
 rw [hto2] at y11;have hwr:IntKind.wrap .i64 ((i:Int)+1)=((i+1+szs (z.1.2.ks.take 0):Nat):Int):=by rw [wrap_small _ (by omega) (by omega),aAA,eQ];omega
 have U5:Hid (RsI w none 0 [] w):=⟨aBH _ _ _ _,Below.refl _ _⟩;have iil:(i:Int)<(H.Z.length:Int):=by omega
 clear hw hk hz hto hsz hto2;go_enter Tryz.func72,Tryz.ntmps72;go_upto_region 3 with fail
 go_loopw [5,6] (fun l k wr=>∃ (j:Nat) (q:Option Addr) (cc:Nat),j<=z.1.2.ks.length/\k=.I ((i+1+szs (z.1.2.ks.take j):Nat):Int)/\l=.slice q ((hU i z.1.2.ks).take j).length cc/\RsI w q cc ((hU i z.1.2.ks).take j) wr) (fun _ k _=>2001-(intOf k).toNat)
 case atStart=>exact⟨0,none,0,by omega,rfl,rfl,U5.o⟩
 case round=>
  obtain⟨j,q,cc,hj,rfl,rfl,hu⟩:=hrel;rename World=>wr;have HU:=aC hu;have d0:wr.cell? ⟨H.b,0,none⟩=some (.slice (some ⟨H.zb,0,none⟩) H.Z.length H.zc):=(hu.bel.cell (p:=⟨H.b,0,none⟩) lb).trans c0;have d11:wr.cell? ⟨H.zb,i*12+11,none⟩=some (.I ((i+1+szs z.1.2.ks:Nat):Int)):=(hu.bel.cell (p:=⟨H.zb,i*12+11,none⟩) hzb).trans y11;have hll:((hU i z.1.2.ks).take j).length<=2000:=by
   have:=cO z.1.2.ks;rw [aAC,eA];omega
  clear hu;by_cases hjl:j<z.1.2.ks.length
  ·have hlt:=bQ0 hjl;obtain⟨y,y1,y2,y3⟩:=HK.o.kid HZ.o (m7 hjl);have hkl:=(m8.1 y1).1;have e11:wr.cell? ⟨H.zb,(i+1+szs (z.1.2.ks.take j))*12+11,none⟩=some (.I ((i+1+szs (z.1.2.ks.take (j+1)):Nat):Int)):=by
    rw [<- y3];exact(HU.o.bel.cell (p:=⟨H.zb,_,none⟩) hzb).trans (W0.o.z.cells y1 (j:=11) rfl)
   have HT:=aC (aQ6 (i:=i) hjl);have hnx:=lA z.1.2.ks (j+1);have hgt:szs (z.1.2.ks.take j)<szs (z.1.2.ks.take (j+1)):=by
    rw [bM (m7 hjl)];have:=dS z.1.2.ks[j];omega
   clear y1 y2 y3;obtain⟨l,hl⟩:∃ l,(hU i z.1.2.ks).take j=l:=⟨_,rfl⟩;rw [hl] at HU HT hll ⊢;clear hl;obtain⟨k,hkk⟩:∃ k,i+1+szs (z.1.2.ks.take j)=k:=⟨_,rfl⟩;obtain⟨k',hkk'⟩:∃ k,i+1+szs (z.1.2.ks.take (j+1))=k:=⟨_,rfl⟩;obtain⟨m,hm⟩:∃ k,i+1+szs z.1.2.ks=k:=⟨_,rfl⟩;have b0:(k:Int)<(m:Int):=(by omega);have b1:k<k':=(by omega);have b2:k'<=2000:=(by omega);rw [hkk] at HT e11 hkl ⊢;rw [hkk'] at e11;rw [hm] at d11;have HK':=aC hkk';have kkl:(k:Int)<(H.Z.length:Int):=(by omega);clear hkk hkk' hm hlt hgt hnx;obtain⟨t0,hi,hz0,hz1,hz2⟩:=aW jH;have Y7:Hid ((wr.alloc (.cells #[.I (k:Int)] 3)).ownsRow w.heap.size 3 1 (.slice q l.length cc) l.length (l.map fun j:Nat=>.I (j:Int))):=o9 HU.o.l _;have HNEW:Hid (∀ j u,([.I (k:Int)]:List Value)[j]?=some u->(wr.alloc (.cells #[.I (k:Int)] 3)).cell? (((aDr wr.heap.size 0):Addr).add j)=some u):=bJ wr [.I (k:Int)] _;have HB8:Hid (w.heap.size<=(wr.alloc (.cells #[.I (k:Int)] 3)).heap.size):=m9 HU.o.bel.size (by simp);go_upto_region 5 with fail
   go_upto_region 4 with (at_builtin;refine wpList_append_own_at _ rfl _ _ 44 rfl w.heap.size 3 t0 (.I 0) 1 8 jE hi hz0 hz1 hz2 rfl (by decide) (.slice q l.length cc) l.length (l.map fun j:Nat=>.I (j:Int)) rfl Y7.o (aDr wr.heap.size 0) 1 1 [.I (k:Int)] rfl rfl HNEW.o (by simp [Value.oneCell']) (by unfold maxLen;omega) (by omega) HB8.o ?_;intro v' w6 hown' hgrow _ _;obtain⟨q6,c6,rfl⟩:=aR hown';have U6:=aC (HU.o.snoc hown' hgrow);clear hown' hgrow)
   have f0:w6.cell? ⟨H.b,0,none⟩=some (.slice (some ⟨H.zb,0,none⟩) H.Z.length H.zc):=(U6.o.bel.cell (p:=⟨H.b,0,none⟩) lb).trans c0;have f11:w6.cell? ⟨H.zb,k*12+11,none⟩=some (.I (k':Int)):=by
    have h1:=HU.o.bel.cell (p:=⟨H.zb,k*12+11,none⟩) hzb;have h2:=U6.o.bel.cell (p:=⟨H.zb,k*12+11,none⟩) hzb;rw [h2,<- h1];exact e11
   clear d0 d11 e11;go_wp2;go_roundw
   case rel=>exact⟨j+1,q6,c6,by omega,by rw [HK'.o],by rw [HT.o];simp,by rw [HT.o];exact U6.o⟩
   case measure=>simp only [intOf];omega
  ·have hjj:j=z.1.2.ks.length:=by omega
   have e1:(hU i z.1.2.ks).take j=hU i z.1.2.ks:=n9 (by rw [eA];omega);have e2:z.1.2.ks.take j=z.1.2.ks:=n9 (by omega);rw [e1] at HU hll ⊢;rw [e2];clear e1 e2 hjj;obtain⟨l,hl⟩:∃ l,hU i z.1.2.ks=l:=⟨_,rfl⟩;have HQ:=aC hl;rw [hl] at HU hll ⊢;clear hl;obtain⟨m,hm⟩:∃ k,i+1+szs z.1.2.ks=k:=⟨_,rfl⟩;rw [hm] at d11 ⊢;have b0:¬ (m:Int)<(m:Int):=(by omega);clear hm;go_wp2;go_ret;rw [HQ.o];exact⟨q,cc,rfl,HU.o.l,HU.o.bel⟩
end
section
attribute [local go_sem] Oper.semAt_some aT
variable {H:Gh} {rs:lOn} {wk:Int} {mu:Bool}
def kR(H:Gh)(W:World)(rs:lOn)(wk:Int)(mu:Bool)(t:Tr)(a:Nat)(e:Ending)(W':World):Prop:=∃ (q:Option Addr) (c:Nat) (l:List Nat) (rs':lOn),
 e=.returned (.slice q l.length c)/\Ls12 H.base W' q c l/\gX H.L t a l/\WM H W' rs' wk mu/\Grw W.heap.size rs rs'/\Fr (fun k=>wf H rs k\/False) W W'
def PlC(H:Gh)(n:Nat):Prop:=∀ (i a:Nat) (z:Zl) (W:World) (rs:lOn) (wk:Int) (mu:Bool),H.Z[i]?=some z->z.1.2.sz<=n->PlT H.L z.1.2->a<=H.L.s.size->WM H W rs wk mu ->
 Calls Tryz.prog 70 #[.pointer (some ⟨H.b,0,none⟩),.I (i:Int),.I (a:Int)] W (kR H W rs wk mu z.1.2 a)
def BR(base:Nat)(V:World)(g c:Nat)(is:List Bool):Prop:=V.ownsRow base 4 1 (.slice (some (aDr g 0)) is.length c) is.length (is.map Value.bool)
theorem wO(is:List Bool)(j:Nat)(b:Bool):(is.map Value.bool).set j (.bool b)=(is.set j b).map Value.bool:=by rw [List.map_set]
theorem BR.put{base g c:Nat}{V:World}{is:List Bool}(h:BR base V g c is)(j:Nat)(b:Bool):BR base (V.setCell (aDr g j) (.bool b)) g c (is.set j b):=by
 have:=(World.ownsRow.stored h j (.bool b)).1;unfold BR;rw [aAW,<- wO];exact this
theorem BR.cell{base g c:Nat}{V:World}{is:List Bool}(h:BR base V g c is){j:Nat}{b:Bool}(hj:is[j]?=some b):V.cell? (aDr g j)=some (.bool b):=aM h (by simp [hj])
theorem BR.frz{base g c:Nat}{V:World}{is:List Bool}(h:BR base V g c is)(j:Nat):V.frozen? (aDr g j)=false:=World.ownsRow.frozenAt h j
theorem BR.lt{base g c:Nat}{V:World}{is:List Bool}(h:BR base V g c is):g<V.heap.size:=(aF h rfl).2.1
theorem BR.lo{base g c:Nat}{V:World}{is:List Bool}(h:BR base V g c is):base<=g:=(aF h rfl).1
theorem BR.ty{base g c:Nat}{V:World}{is:List Bool}(h:BR base V g c is):∃ cs,V.heap[g]?=some (.cells cs 4 (0,0)):=(aF h rfl).2.2
theorem BR.kept{base g c:Nat}{V V':World}{is:List Bool}(h:BR base V g c is)(hb:wBl V V'):BR base V' g c is:=aH (S:=fun _=>False) h (Fr.of_below hb) (fun _ _ q=>q)
theorem BR.wf{base g c:Nat}{V V':World}{is:List Bool}{S:Nat->Prop}(h:BR base V g c is)(hw:WM H V rs wk mu)(hf:Fr (fun k=>wf H rs k\/S k) V V')(hS:¬ S g):BR base V' g c is:=
 kD h hw hf (fun k hk=>by cases hk;exact hS) ⟨by decide,by decide,by decide⟩
theorem uC:¬ wM 4:=by unfold wM;decide
theorem WM.mark{base g c:Nat}{V V':World}{is:List Bool}(hw:WM H V rs wk mu)(h:BR base V g c is)(hf:Fr (fun k=>k=g) V V')(hb:H.base<=g)(hp:g≠H.pb):WM H V' rs wk mu:=
 hw.fr hf fun k _ e=>by
  subst e;obtain⟨cs,hc⟩:=h.ty;exact⟨hb,hp,cs,_,hc,uC⟩
theorem pF{is:List Bool}{j k:Nat}(hk:k<is.length):((is.set k true)[j]?=some true↔is[j]?=some true\/j=k):=by
 rw [aBO];by_cases e:k=j
 ·subst e;rw [if_pos rfl,if_pos hk];simp
 ·rw [if_neg e];constructor
  ·exact .inl
  ·rintro (q | q)
   ·exact q
   ·exact absurd q.symm e
def MkP(H:Gh)(W:World)(rs:lOn)(wk:Int)(mu:Bool)(base g c:Nat)(is:List Bool)(P:Nat->Prop)(e:Ending)(W':World):Prop:=e=.returned (.tuple #[])/\∃ (rs':lOn) (is':List Bool),
 WM H W' rs' wk mu/\Grw W.heap.size rs rs'/\Fr (fun k=>wf H rs k\/k=g) W W'/\BR base W' g c is'/\is'.length=is.length/\∀ j,is'[j]?=some true↔is[j]?=some true\/P j
structure MkI(base g c:Nat)(W1:World)(is:List Bool)(P:Nat->Prop)(l:List Nat)(is':List Bool)(V:World):Prop where
 r:BR base V g c is'
 n:is'.length=is.length
 m:∀ j,is'[j]?=some true↔is[j]?=some true\/(j∈l/\P j)
 f:Fr (fun k=>k=g) W1 V
theorem MkI.snoc{base g c:Nat}{W1 V:World}{is is':List Bool}{P:Nat->Prop}{l:List Nat}{x:Nat}(h:MkI base g c W1 is P l is' V)(hx:x<is.length)(hP:P x):MkI base g c W1 is P (l++[x]) (is'.set x true) (V.setCell (aDr g x) (.bool true)):=by
 refine⟨h.r.put x true,by rw [aAW];exact h.n,fun j=>?_,h.f.setCell (p:=(aDr g x)) rfl _⟩;rw [pF (by rw [h.n];exact hx),h.m,o5,v9];constructor
 ·rintro ((q | ⟨q,r⟩) | rfl)
  ·exact .inl q
  ·exact .inr ⟨.inl q,r⟩
  ·exact .inr ⟨.inr rfl,hP⟩
 ·rintro (q | ⟨q | q,r⟩)
  ·exact .inl (.inl q)
  ·exact .inl (.inr ⟨q,r⟩)
  ·exact .inr q
theorem MkI.skip{base g c:Nat}{W1 V:World}{is is':List Bool}{P:Nat->Prop}{l:List Nat}{x:Nat}(h:MkI base g c W1 is P l is' V)(hP:¬ P x):MkI base g c W1 is P (l++[x]) is' V:=by
 refine⟨h.r,h.n,fun j=>?_,h.f⟩;rw [h.m,o5,v9];constructor
 ·rintro (q | ⟨q,r⟩)
  ·exact .inl q
  ·exact .inr ⟨.inl q,r⟩
 ·rintro (q | ⟨q | rfl,r⟩)
  ·exact .inl q
  ·exact .inr ⟨q,r⟩
  ·exact absurd r hP
theorem Ls12.cell{base:Nat}{V:World}{g c:Nat}{l:List Nat}(h:Ls12 base V (some (aDr g 0)) c l){j x:Nat}(hj:l[j]?=some x):V.cell? (aDr g j)=some (.I (x:Int)):=aM h (by simp [hj])
theorem Ls12.at{base:Nat}{V:World}{q:Option Addr}{c:Nat}{l:List Nat}(h:Ls12 base V q c l)(hl:0<l.length):∃ g,q=some (aDr g 0)/\g<V.heap.size/\base<=g/\∃ cs,V.heap[g]?=some (.cells cs 3 (0,0)):=by
 obtain⟨g,c',e⟩:=aL h hl;injection e with e1 _ _;subst e1;obtain⟨a,b,d⟩:=aF h rfl;exact⟨g,rfl,b,a,d⟩
def fuP(fu:Bool)(a j:Nat):Prop:=fu=true->a<j
theorem lI{n:Nat}(hp:PlC H n)(hk:Gk H){w:World}(hw:WM H w rs wk mu){i a:Nat}{z:Zl}(hz:H.Z[i]?=some z)(hn:z.1.2.sz<=n)(hpl:PlT H.L z.1.2)(ha:a<=H.L.s.size)
  {base g c:Nat} {is:List Bool} (hb:BR base w g c is) (hl:is.length=H.L.s.size+1) (hg:H.base<=g) (hgp:g≠H.pb) (fu:Bool) :
  Calls Tryz.prog 123 #[.pointer (some ⟨H.b,0,none⟩),.slice (some (aDr g 0)) is.length c,.I (i:Int),.I (a:Int),.bool fu] w
   (MkP H w rs wk mu base g c is (fun j=>Ps H.L z.1.2 a j/\fuP fu a j)):=by
 have HP:=aC (hp i a z w rs wk mu hz hn hpl ha hw);have HW:=aC hw;have HB:=aC hb;have hsm:=hk.sm;have HPS:Hid (∀ j,Ps H.L z.1.2 a j->j<=H.L.s.size):=fun j h=>(bN6 hpl ha h).2;have HLN:=aC hl;have hlm:is.length<=1001:=by omega
 clear hp hw hz hn hb hk hl;go_enter Tryz.func123,Tryz.ntmps123;go_upto_region 2 with (go_at_call 70;(with_reducible refine(HP.o).mono ?_);rintro e w1 ⟨q,cl,l,rs1,rfl,h1,h2,h3,h4,h5⟩;have L1:=aC h1;have E1:=aC h2;have W1:=aC h3;have G1:=aC h4;have F1:=aC h5;clear h1 h2 h3 h4 h5)
 have B1:=aC (HB.o.wf HW.o F1.o (fun h=>h));have hll:l.length<=1000+1:=by
  have h1:=E1.o.2;have h2:∀ j∈l,j<=H.L.s.size:=fun j hj=>HPS.o j ((E1.o.1 j).1 hj);have key:∀ (l:List Nat) (m b:Nat),l.Pairwise (· < ·)->(∀ j∈l,b<=j/\j<b+m)->l.length<=m:=by
   intro l
   induction l with
   | nil=>intro m b _ _;simp
   | cons x l ih=>
    intro m b hpw hm;obtain⟨m',rfl⟩:∃ m',m=m'+1:=⟨m-1,by have:=hm x (by simp);omega⟩;have:=ih m' (b+1) (aBD.1 hpw).2 (fun j hj=>by
     have h3:=(aBD.1 hpw).1 j hj;have h4:=hm x (by simp);have h5:=hm j (by simp [hj]);omega)
    simp;omega
  have:=key l (H.L.s.size+1) 0 h1 (fun j hj=>by have:=h2 j hj;omega);omega
 have M1:Hid (MkI base g c w1 is (fuP fu a) (l.take 0) is w1):=⟨B1.o,rfl,fun j=>by simp,Fr.refl _ _⟩;go_loopw [11] (fun i wr=>∃ (k:Nat) (is':List Bool),k<=l.length/\i=.I (k:Int)/\MkI base g c w1 is (fuP fu a) (l.take k) is' wr) (fun i _=>l.length-(intOf i).toNat)
 case atStart=>exact⟨0,is,r9 _,rfl,M1.o⟩
 case round=>
  obtain⟨k,is',hkl,rfl,hm⟩:=hrel;have HM:=aC hm;clear hm;by_cases hlt:k<l.length
  ·have i0:(k:Int)<(l.length:Int):=by omega
   have hw2:IntKind.wrap .i64 ((k:Int)+1)=(k:Int)+1:=wrap_small _ (by omega) (by omega);obtain⟨x,hx⟩:∃ x,l[k]?=some x:=⟨_,m7 hlt⟩;have hxs:x<=H.L.s.size:=HPS.o x ((E1.o.1 x).1 (n8 hx));obtain⟨gl,rfl,gl1,gl2,gl3,gl4⟩:=L1.o.at (by omega);have hne:gl≠g:=by
    obtain⟨cs,hc⟩:=B1.o.ty;exact bH gl4 hc (by decide)
   have y0:wr.cell? (aDr gl k)=some (.I (x:Int)):=by
    have e:=HM.o.f.block gl gl1 hne;have h1:=L1.o.cell hx;unfold World.cell? at h1 ⊢;rw [e];exact h1
   have HT:Hid (l.take (k+1)=l.take k++[x]):=aC (by rw [t9,hx];rfl);have hxl:(x:Int)<(is.length:Int):=(by have:=HLN.o;omega);have hfz:=HM.o.r.frz x;have hc:∃ b,wr.cell? (aDr g x)=some (.bool b):=⟨_,HM.o.r.cell (m7 (by rw [HM.o.n];have:=HLN.o;omega))⟩;obtain⟨b0,hb0⟩:=hc;clear hx
   cases fu with
   | false=>
    have HN:=aC (HM.o.snoc (x:=x) (by have:=HLN.o;omega) (fun h=>by cases h));go_wp2;go_roundw
    case rel=>exact⟨k+1,_,by omega,by go_num,by rw [HT.o];exact HN.o⟩
    case measure=>simp only [intOf];omega
   | true=>
    by_cases hax:a<x
    ·have q0:(a:Int)<(x:Int):=by omega
     have HN:=aC (HM.o.snoc (x:=x) (by have:=HLN.o;omega) (fun _=>hax));clear hax;go_wp2;go_roundw
     case rel=>exact⟨k+1,_,by omega,by go_num,by rw [HT.o];exact HN.o⟩
     case measure=>simp only [intOf];omega
    ·have q0:¬ (a:Int)<(x:Int):=by omega
     have HN:=aC (HM.o.skip (x:=x) (fun h=>hax (h rfl)));clear hax;go_wp2;go_roundw
     case rel=>exact⟨k+1,_,by omega,by go_num,by rw [HT.o];exact HN.o⟩
     case measure=>simp only [intOf];omega
  ·have i0:¬ (k:Int)<(l.length:Int):=by omega
   have HT:Hid (l.take k=l):=aC (n9 (by omega));go_wp2
   go_end0
   refine⟨rfl,rs1,is',W1.o.mark B1.o HM.o.f hg hgp,G1.o,?_,HM.o.r,HM.o.n,fun j=>?_⟩
   ·refine⟨HM.o.f.os.trans F1.o.os,HM.o.f.tape.trans F1.o.tape,HM.o.f.output.trans F1.o.output,m9 F1.o.size HM.o.f.size,fun i hi hs=>(HM.o.f.block i (o4 hi F1.o.size) (fun e=>hs (.inr e))).trans (F1.o.block i hi (fun q=>hs (.inl (q.resolve_right fun f=>f))))⟩
   ·have:=HM.o.m j;rw [HT.o] at this;rw [this,E1.o.1]
end
section
variable {H:Gh} {rs rs' rs'':lOn} {wk:Int} {mu:Bool} {L:Ln}
theorem aY4:∀ (ks:List Tr),(∀ u∈ks,PlT L u)->Pn (fun x y=>MtC L ks x y)
 | [],_,x,y,h=>by
  have h:y=x:=(dL x y).1 h;subst h;exact⟨rfl,fun g=>(dL _ _).2 rfl⟩
 | u :: us,hu,x,y,h=>by
  obtain⟨z,h1,h2⟩:=(dP _ _ _ _).1 h;obtain⟨a,b⟩:=aJ6 u (hu u (t5 ..)) x z h1;obtain⟨c,d⟩:=aY4 us (fun v hv=>hu v (t7 _ hv)) z y h2;exact⟨c.trans a,fun g=>(dP _ _ _ _).2 ⟨⟨z.p,g⟩,b g,d g⟩⟩
theorem aX3{ks:List Tr}{j:Nat}{u:Tr}(hpl:∀ v∈ks,PlT L v)(hu:ks[j]?=some u)(a x:Nat):MtC L (ks.take (j+1)) ⟨a,[]⟩ ⟨x,[]⟩ ↔ ∃ y,MtC L (ks.take j) ⟨a,[]⟩ ⟨y,[]⟩/\Ps L u y x:=by
 rw [t9,hu,aAZ,yU];constructor
 ·rintro ⟨z,h1,h2⟩;have:=(aY4 (ks.take j) (fun v hv=>hpl v (aAJ hv)) _ _ h1).1;obtain⟨zp,zg⟩:=z;simp only at this;subst this;exact⟨zp,h1,h2⟩
 ·rintro ⟨y,h1,h2⟩;exact⟨⟨y,[]⟩,h1,h2⟩
theorem yJ{ks:List Tr}{j:Nat}{u:Tr}(hu:ks[j]?=some u)(a x:Nat):MtA L (ks.take (j+1)) ⟨a,[]⟩ ⟨x,[]⟩↔MtA L (ks.take j) ⟨a,[]⟩ ⟨x,[]⟩\/Ps L u a x:=by
 rw [t9,hu,aAZ,yV]
 rfl
theorem bR7{t:Tr}(hk:t.f.k=5)(a x:Nat):Ps L t a x↔MtC L t.ks ⟨a,[]⟩ ⟨x,[]⟩:=by unfold Ps;rw [eG,if_pos hk]
theorem bR8{t:Tr}(hk:t.f.k=6)(a x:Nat):Ps L t a x↔MtA L t.ks ⟨a,[]⟩ ⟨x,[]⟩:=by unfold Ps;rw [eG,if_neg (by omega),if_pos hk]
theorem bR6{t:Tr}(hp:PlT L t)(hk:t.f.k=7)(a x:Nat):Ps L t a x↔MtA L t.ks ⟨a,[]⟩ ⟨x,[]⟩:=by
 have hn:=((aQ t).1 hp).1.2 hk;have e:∀ x z,iB L t.f.n x z=z:=fun x z=>by unfold iB;rw [hn];rfl
 unfold Ps;rw [eG,if_neg (by omega),if_neg (by omega),if_pos hk];constructor
 ·rintro ⟨z,h1,h2⟩;rw [e] at h2;rw [h2];exact h1
 ·intro h;exact⟨_,h,(e _ _).symm⟩
theorem bI8{t:Tr}(hk:t.f.k=1\/t.f.k=2\/t.f.k=3\/t.f.k=4)(a x:Nat):Ps L t a x↔dK L t.f a=some x:=by
 unfold Ps;rw [eG,if_neg (by omega),if_neg (by omega),if_neg (by omega),if_neg (by omega),if_neg (by omega)];simp
theorem bR5{t v:Tr}(hk:t.f.k=9)(hv:t.ks=[v])(a x:Nat):Ps L t a x↔Rp (fun x y=>Mt L v x y) t.f.mn t.f.mx ⟨a,[]⟩ ⟨x,[]⟩:=by
 have e:(fun x y=>MtA L t.ks x y)=fun x y=>Mt L v x y:=by
  funext x y
  rw [hv];refine propext ((dB _ _ _).trans ?_);simp
 unfold Ps;rw [eG,if_neg (by omega),if_neg (by omega),if_neg (by omega),if_neg (by omega),if_pos hk,e]
structure PS(H:Gh)(w:World)(rs:lOn)(wk:Int)(mu:Bool)(V:World)(rs':lOn):Prop where
 wm:WM H V rs' wk mu
 g:Grw w.heap.size rs rs'
 f:Fr (fun k=>wf H rs k\/False) w V
theorem PS.refl{w:World}(h:WM H w rs wk mu):PS H w rs wk mu w rs:=⟨h,Grw.refl _ _,Fr.refl _ _⟩
theorem PS.below{w V V':World}(h:PS H w rs wk mu V rs')(hb:wBl V V'):PS H w rs wk mu V' rs':=⟨h.wm.below hb,h.g,h.f.then hb⟩
theorem PS.mark{w V V':World}{base g c:Nat}{is:List Bool}{P:Nat->Prop}{e:Ending}(h:PS H w rs wk mu V rs')(hm:MkP H V rs' wk mu base g c is P e V')(hg:w.heap.size<=g):e=.returned (.tuple #[])/\∃ rs'' is',PS H w rs wk mu V' rs''/\Fr (fun k=>wf H rs' k\/k=g) V V'/\BR base V' g c is'/\is'.length=is.length/\∀ j,is'[j]?=some true↔is[j]?=some true\/P j:=by
 obtain⟨h1,rs'',is',h2,h3,h4,h5,h6,h7⟩:=hm;exact⟨h1,rs'',is',⟨h2,h.g.trans h3 h.f.size,oV h.f h.g h4 fun i e=>by subst e;exact .inr hg⟩,h4,h5,h6,h7⟩
theorem PS.put{w V V':World}{base g c:Nat}{is:List Bool}(h:PS H w rs wk mu V rs')(hb:BR base V g c is)(hf:Fr (fun k=>k=g) V V')(hg:w.heap.size<=g)(hbs:H.base<=w.heap.size)(hp:H.pb<w.heap.size):PS H w rs wk mu V' rs':=
 ⟨h.wm.mark hb hf (by omega) (by omega),h.g,⟨hf.os.trans h.f.os,hf.tape.trans h.f.tape,hf.output.trans h.f.output,m9 h.f.size hf.size,fun i hi hs=>(hf.block i (o4 hi h.f.size) (by omega)).trans (h.f.block i hi hs)⟩⟩
theorem iM{V V':World}{S:Nat->Prop}(hw:WM H V rs wk mu)(hf:Fr (fun k=>wf H rs k\/S k) V V'){k:Nat}{cs:Array Value}{ty:TypeId}(hk:V.heap[k]?=some (.cells cs ty (0,0)))(he:ty≠52/\ty≠169/\ty≠171)(hS:¬ S k):V'.heap[k]?=some (.cells cs ty (0,0)):=
 (hf.block k (aB hk) (fun q=>by
  rcases q with q | q
  ·obtain⟨-,cs',ty',h1,h2⟩:=hw.wf_ty q;rw [hk] at h1;injection h1 with h1;injection h1 with _ h1 _;subst h1;rcases h2 with r | r | r
   ·exact he.1 r
   ·exact he.2.1 r
   ·exact he.2.2 r
  ·exact hS q)).trans hk
theorem Ls12.wf{base:Nat}{V V':World}{q:Option Addr}{c:Nat}{l:List Nat}{S:Nat->Prop}(h:Ls12 base V q c l)(hw:WM H V rs wk mu)(hf:Fr (fun k=>wf H rs k\/S k) V V')(hS:∀ k,S k->∃ cs ty,V.heap[k]?=some (.cells cs ty (0,0))/\ty≠3):Ls12 base V' q c l:=
 kD h hw hf (fun k hk hs=>by
  obtain⟨-,-,cur,h3⟩:=aF h hk;obtain⟨cs,ty,h4,h5⟩:=hS k hs;rw [h3] at h4;injection h4 with h4;injection h4 with _ h4 _;exact h5 h4.symm) ⟨by decide,by decide,by decide⟩
theorem Ls12.kept{base:Nat}{V V':World}{q:Option Addr}{c:Nat}{l:List Nat}(h:Ls12 base V q c l)(hb:wBl V V'):Ls12 base V' q c l:=aH (S:=fun _=>False) h (Fr.of_below hb) (fun _ _ q=>q)
theorem Ls12.mono{base base':Nat}{V:World}{q:Option Addr}{c:Nat}{l:List Nat}(h:Ls12 base V q c l)(hb:base'<=base):Ls12 base' V q c l:=bE h hb
theorem aN8:(Tryz.prog.info? 4).map (fun i=>(i.zero,i.size,i.bytes))=some (some (.bool false),1,1):=by kernel_rfl
theorem aN2:Tryz.prog.underlying 49=some (.slice 4):=by kernel_rfl
def cX(n:Nat):List Bool:=List.replicate n false
def noC(n:Nat):Array Value:=((cX n).map Value.bool).toArray
theorem dO(n:Nat):(cX n).length=n:=by simp [cX]
theorem eY(n:Nat)(h:n<=1000000)(w:World) :
  (Instr.makeSlice 49 (.I (n:Int)) (.I (n:Int))).run Tryz.prog w=.ok (.slice (some (aDr w.heap.size 0)) n n) (w.alloc (.cells (noC n) 4)):=by
 obtain⟨i0,hi,hz0,hz1,hz2⟩:=aW aN8;have:=run_make (P:=Tryz.prog) w 49 4 i0 (.bool false) aN2 hi hz0 .i64 .i64 (n:Int) (n:Int) (by omega) (by omega) (by rw [hz2];omega) (by omega);rw [hz1] at this;have e:madeCells #[.bool false] n=noC n:=by
  unfold noC cX;apply Array.ext
  ·simp [madeCells]
  intro i h1 h2;simp [madeCells,Nat.mod_one]
 rw [<- e];simpa [Value.cells] using this
theorem kP{base n:Nat}{V:World}(hb:base<=V.heap.size)(hn:n<=1000000):BR base (V.alloc (.cells (noC n) 4)) V.heap.size n (cX n):=by
 unfold BR noC cX;refine⟨by simp,.inr ⟨V.heap.size,n,_,by simp,hb,aE V _,by simp,by unfold maxLen;omega,by simp,by simp⟩⟩
theorem eT{n j:Nat}:(cX n)[j]?≠some true:=fun h=>by
 have:=n8 h;simp [cX] at this
theorem nJ{is:List Bool}{j:Nat}(h:is[j]?=some true):j<is.length:=(m8.1 h).1
theorem mM{t:Tr}{a:Nat}{is:List Bool}(h:∀ j,is[j]?=some true↔Ps L t a j):gX L t a (fH is is.length):=⟨fun j=>jK.trans (h j),aJ1 _ _⟩
theorem pT{w V V':World}{t:Tr}{a:Nat}{q:Option Addr}{c:Nat}{l:List Nat}(h:PS H w rs wk mu V rs')(hl:Ls12 V.heap.size V' q c l)(hb:wBl V V')(hE:gX H.L t a l)(hbs:H.base<=w.heap.size):kR H w rs wk mu t a (.returned (.slice q l.length c)) V':=
 ⟨q,c,l,rs',rfl,hl.mono (m9 hbs h.f.size),hE,(h.below hb).wm,h.g,(h.below hb).f⟩
end
end Go.Proofs.YtdgfpiekjigfnaaGreatDoor
