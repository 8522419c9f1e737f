/-
  Parts of the proof.
-/
import Derived.Test.YtlamifbjklpdbaaGreatLessProofA0
import Derived.Test.YtlamifbjklpdbaaGreatLessProofB4
import Derived.Test.YtlamifbjklpdbaaGreatLessProofB12
import Derived.Test.YtlamifbjklpdbaaGreatLessProofB13
import Derived.Deep.RegionWith
set_option linter.unusedSimpArgs false
set_option maxRecDepth 100000
set_option maxHeartbeats 8000000
namespace Go.Proofs.YtlamifbjklpdbaaGreat
open Go Go.RowKit
section
attribute [local go_sem] Oper.semAt_some
theorem oK{V V':World}{base base':Nat}{e e':TypeId}{size size' n n':Nat}{v u:Value}{xs ys:List Value}(h:V.ownsRow base e size v n xs)(hu:V.ownsRow base' e' size' u n' ys)(hne:e≠e')(hg:V.grownBy V' u.ownBlock):V'.ownsRow base e size v n xs:=
 aK h ((Fr.refl (blk u) V).grown hg fun _ hk=>hk) (fun k hk q=>by obtain⟨_,_,cur,hc⟩:=aG hu q;exact dF h hc (fun e=>hne e.symm) hk)
structure WOr(W:World)(K:List Tr)(A:List (Int×Int))(kq:Option Addr)(kc:Nat)(aq:Option Addr)(ac:Nat)(wr:World):Prop where
 kr:wr.ownsRow W.heap.size 25 6 (.slice kq K.length kc) K.length (aQ K)
 ar:RR W.heap.size wr (.slice aq A.length ac) A
 bel:Below W.heap.size W wr
theorem WOr.kept{W wr wr':World}{K:List Tr}{A:List (Int×Int)}{kq aq:Option Addr}{kc ac:Nat}(h:WOr W K A kq kc aq ac wr)(hb:Below wr.heap.size wr wr'):WOr W K A kq kc aq ac wr':=
 ⟨aK h.kr (Fr.of_below (S:=fun _=>False) hb) (fun _ _ z=>z),h.ar.kept hb,aF h.bel hb lz9⟩
theorem WOr.apK{W V V':World}{K:List Tr}{A:List (Int×Int)}{kq aq q6:Option Addr}{kc ac n6 cap6:Nat}{u:Tr}(h:WOr W K A kq kc aq ac V)(ho:V'.ownsRow W.heap.size 25 6 (.slice q6 (K.length+1) cap6) n6 (aQ K++u.f.cells))(hg:V.grownBy V' (Value.slice kq K.length kc).ownBlock):WOr W (K++[u]) A q6 cap6 aq ac V':=by
 have e:n6=K.length+1:=by obtain⟨q,c,e⟩:=aR ho;injection e with _ e;exact e.symm
 subst e
 refine⟨?_,oK h.ar h.kr (by decide) hg,fT h.bel lz9 h.kr hg⟩
 rw [cO,j3,show aQ [u]=u.f.cells by simp [aQ]]
 exact ho
theorem WOr.apA{W V V':World}{K:List Tr}{A B:List (Int×Int)}{kq aq q6:Option Addr}{kc ac n6 m6 cap6:Nat}(h:WOr W K A kq kc aq ac V)(ho:V'.ownsRow W.heap.size 53 2 (.slice q6 n6 cap6) m6 (aH A++aH B))(hg:V.grownBy V' (Value.slice aq A.length ac).ownBlock):WOr W K (A++B) kq kc q6 cap6 V'/\n6=(A++B).length:=by
 have h1:RR W.heap.size V' (.slice q6 n6 cap6) (A++B):=kL ho
 have e:n6=(A++B).length:=by obtain⟨q,c,e⟩:=h1.shape;injection e with _ e
 subst e
 exact⟨⟨oK h.kr h.ar (by decide) hg,h1,bX h.bel h.ar hg⟩,rfl⟩
def reR(x:Tr)(C:List (Int×Int))(q:Option Addr)(c:Nat):Tr:=.mk ⟨x.f.k,x.f.n,x.f.mn,x.f.mx,C,q,c,x.f.kq,x.f.kl,x.f.kc⟩ x.ks
theorem aQ3(x:Tr)(C:List (Int×Int))(q:Option Addr)(c:Nat):er (reR x C q c)=(er x).wr C:=by rw [bQ,bQ];rfl
theorem aQ2(x:Tr)(C:List (Int×Int))(q:Option Addr)(c:Nat):(reR x C q c).sz=x.sz:=by rw [dY,dY];rfl
theorem aF5(l:List Tr)(i:Nat)(x:Tr):szs (l.set i x)<=szs l+x.sz:=by
 induction l generalizing i with
 | nil=>rw [List.set_nil,dJ];omega
 | cons y l ih=>
  cases i with
  | zero=>rw [i4,bK,bK];omega
  | succ i=>rw [i8,bK,bK];have:=ih i;omega
theorem KR.set4{W:World}{g:Nat}{ks:List Tr}(h:KR W g ks){i:Nat}{x:Tr}(hx:ks[i]?=some x)(C:List (Int×Int))(q:Option Addr)(c:Nat):KR (W.setCell ⟨g,i*6+4,none⟩ (.slice q C.length c)) g (ks.set i (reR x C q c)):=by
 have hi:i<ks.length:=(i7.1 hx).1
 refine⟨bO h.blk _ _,fun j u hj=>?_⟩
 by_cases e:j=i
 ·subst e
  rw [List.getElem?_set_self hi] at hj
  cases hj
  obtain⟨k0,k1,k2,k3,k4,k5⟩:=h.six j x hx
  exact⟨aE k0 (by omega),aE k1 (by omega),aE k2 (by omega),aE k3 (by omega),j9 _ _ _ k4,aE k5 (by omega)⟩
 ·rw [List.getElem?_set_ne (Ne.symm e)] at hj
  obtain⟨k0,k1,k2,k3,k4,k5⟩:=h.six j u hj
  exact⟨aE k0 (by omega),aE k1 (by omega),aE k2 (by omega),aE k3 (by omega),aE k4 (by omega),aE k5 (by omega)⟩
theorem aQ1{base:Nat}{W:World}{x:Tr}{C:List (Int×Int)}{q:Option Addr}{c:Nat}(h:TA W x)(hr:RR base W (.slice q C.length c) C)(hf:Fit C)(hl:C.length+3<=8796093022208):TA W (reR x C q c):=
 (aL _).2 ⟨⟨hr.arg,h.node.k,hf,hl,NO.rows hr h.node.own.2⟩,(aO _).2 fun _ hu=>h.kid hu⟩
theorem aI1{l:List Tr}{m:Nat}(h:∀ u∈l,u.f.rs.length<=m):(osf l).A.length<=l.length*m:=by
 rw [(osi l).ranges]
 have:∀ k:List Tr,(∀ u∈k,u.f.rs.length<=m)->(k.flatMap fun u=>u.f.rs).length<=k.length*m:=by
  intro k
  induction k with
  | nil=>intro _;simp
  | cons x k ih=>
   intro hk
   rw [s4,j3,i9,Nat.add_mul]
   have h1:=hk x (g7 ..)
   have h2:=ih fun u hu=>hk u (b6 _ hu)
   omega
 refine j4 (this (l.filter fK) fun u hu=>h u (o6.1 hu).1) (Nat.mul_le_mul_right _ (List.length_filter_le _ _))
noncomputable def aA1 (ks:List Tr):Option Er:=if 2<=(ks.filter fK).length then some (fR 6 ((kJ (unC ((ks.filter fK).flatMap fun u=>u.f.rs)) false (ks.map er)).flatMap fun e=>if e.kd=6 then e.ks else [e]) (.mk 2 0 0 0 [] [])) else none
theorem sC(l:List Tr):(l.flatMap eI).map er=(l.map er).flatMap fun e=>if e.kd=6 then e.ks else [e]:=by
 induction l with
 | nil=>rfl
 | cons x l ih=>
  rw [s4,o4,ih,l8,s4]
  congr 1
  unfold eI
  rw [cQ]
  by_cases h:x.f.k=6
  ·rw [if_pos h,if_pos h,bQ];rfl
  ·rw [if_neg h,if_neg h];rfl
theorem iL{R:Ending->World->Prop}{a:Act}{W:World}{b:Nat}{f:Fl}{e:Bool}(h:Six W b 0 f)(ha:a.tmps[2]?.getD undef=.pointer (some ⟨b,0,none⟩))(he:a.tmps[3]?.getD undef=.bool e)(hd:a.defers=[])(hR:R (.returned (.tuple #[.agg #[.int .i64 f.k,.int .i64 f.n,.int .i64 f.mn,.int .i64 f.mx,.slice f.rq f.rs.length f.rc,.slice f.kq f.kl f.kc],.bool e])) W):bodyPost Tryz.prog Tryz.f47 R .ret a W:=by
 obtain⟨z0,z1,z2,z3,z4,z5⟩:=h
 simp only [a7] at z1 z2 z3 z4 z5
 refine bodyPost_ret (v:=.tuple #[.agg #[.int .i64 f.k,.int .i64 f.n,.int .i64 f.mn,.int .i64 f.mx,.slice f.rq f.rs.length f.rc,.slice f.kq f.kl f.kc],.bool e]) ?_ hd hR
 simp [results,Tryz.results47,go_sem,ha,he,z0,z1,z2,z3,z4,z5]
theorem oY{t:Tr}{w:World}(hta:TA w t)(hs:t.sz<=2000)(hrl:∀ u∈t.ks,u.f.rs.length<=600000):Calls Tryz.prog 47 #[.agg #[.int .i64 t.f.k,.int .i64 t.f.n,.int .i64 t.f.mn,.int .i64 t.f.mx,.slice t.f.rq t.f.rs.length t.f.rc,.slice t.f.kq t.f.kl t.f.kc]] w (RSays w.heap.size w (aA1 t.ks)):=by
 obtain⟨t0,hi,hz0,hz1,hz2⟩:=aW fD
 obtain⟨s0,hjr,sz0,sz1,sz2⟩:=aW cA
 obtain⟨tf,L⟩:=t
 obtain⟨fk,fn,fmn,fmx,frs,frq,frc,fkq,fkl,fkc⟩:=tf
 have hkl:fkl=L.length:=hta.node.kl
 subst hkl
 have hsz:szs L<2000:=by have:=dY (Tr.mk ⟨fk,fn,fmn,fmx,frs,frq,frc,fkq,L.length,fkc⟩ L);simp only [Tr.ks] at this;omega
 obtain⟨W,hW,B1,N1,R1⟩:=gU w ⟨fk,fn,fmn,fmx,frs,frq,frc,fkq,L.length,fkc⟩
 have T1:=hta.kept B1
 obtain⟨q',c',e,hml,-,hx⟩:=T1.node.k.slice
 have HTK:Hid (∀ V u,Below W.heap.size W V->u∈L->TA V u):=aB fun V u hV hu=>(T1.kept hV).kid hu
 change ∀ (i:Nat) (t:Tr),L[i]?=some t->∃ g off,q'=some ⟨g,off,none⟩/\g<W.heap.size/\Six W g (off+i*6) t.f at hx
 change Value.slice fkq L.length fkc=Value.slice q' L.length c' at e
 change ∀ u∈L,u.f.rs.length<=600000 at hrl
 show Calls Tryz.prog 47 #[.agg #[.int .i64 fk,.int .i64 fn,.int .i64 fmn,.int .i64 fmx,.slice frq frs.length frc,.slice fkq L.length fkc]] w (RSays w.heap.size w (aA1 L))
 injection e with e1 _ e3
 subst e1 e3
 obtain⟨c0,c1,c2,c3,c4,c5⟩:=N1.six
 simp only [a7] at c1 c2 c3 c4 c5
 have hml':L.length<=9223372036854775807:=hml
 have hLl:L.length<2000:=by have:=eD L;omega
 have HH:=aB hx
 have BB:=aB B1
 have RR1:=aB R1
 have NN1:=aB N1
 have HS:=aB hsz
 have HRL:=aB hrl
 have LZ:=aC R1
 obtain⟨OO,hOO⟩:∃ o,aA1 L=o:=⟨_,rfl⟩
 rw [hOO]
 unfold aA1 at hOO
 have HOO:=aB hOO
 clear hta hs N1 R1 B1 T1 hsz hrl hx hml hOO
 go_enter Tryz.func47,Tryz.ntmps47
 go_upto_region 1 with fail
 go_wp2
 go_loopw [13,4,5,6,7] (fun i s a f n wr=>∃ (j:Nat) (kq aq:Option Addr) (kc ac:Nat),j<=L.length/\i=.int .i64 (j:Int)/\s=.slice kq (osf (L.take j)).K.length kc/\a=.slice aq (osf (L.take j)).A.length ac/\f=.int .i64 ((osf (L.take j)).f:Int)/\n=.int .i64 ((osf (L.take j)).s:Int)/\WOr W (osf (L.take j)).K (osf (L.take j)).A kq kc aq ac wr) (fun i _ _ _ _ _=>L.length-(intOf i).toNat)
 case atStart=>exact⟨0,none,none,0,0,m7 _,rfl,rfl,rfl,rfl,rfl,t4 _ _ _ _,RR.nil _ _,Below.refl _ _⟩
 case round=>
  obtain⟨j,kq,aq,kc,ac,hj,rfl,rfl,rfl,rfl,rfl,hown⟩:=hrel
  have HO:=aB hown
  have hoi:=osi (L.take j)
  have hKl:(osf (L.take j)).K.length<=2000:=by
   have h1:=eD (osf (L.take j)).K
   have h2:=hoi.szs
   have h3:=fN L j
   have h4:=HS.out
   omega
  have hAl:(osf (L.take j)).A.length<=1200000000:=by
   have h1:=aI1 (l:=L.take j) (m:=600000) fun u hu=>HRL.out u (aAG hu)
   have h2:(L.take j).length<=2000:=by rw [o9];omega
   have h3:=Nat.mul_le_mul_right 600000 h2
   omega
  have hsl:(osf (L.take j)).s<=2000:=by
   rw [hoi.sets]
   have:=List.length_filter_le fK (L.take j)
   rw [o9] at this
   omega
  have hfl:(osf (L.take j)).f<=2000:=j4 hoi.lt hKl
  have HOI:=aB hoi
  clear hown hoi
  by_cases hjl:j<L.length
  ·have i0:(j:Int)<(L.length:Int):=by omega
   obtain⟨u,hu⟩:∃ u,L[j]?=some u:=⟨_,b7 hjl⟩
   obtain⟨g,off,hq,hg,six⟩:=HH.out j u hu
   have hin:u∈L:=i5 hu
   have hul:=HRL.out u hin
   obtain⟨d0,d1,d2,d3,d4,d5⟩:=six.ck (CK.of_below HO.out.bel) hg
   have HN:osf (L.take (j+1))=(osf (L.take j)).add u:=by
    rw [o7,hu]
    exact rA _ _
   have HNX:=aB HN
   have K4:Below wr.heap.size wr (wr.alloc (.cells #[.int .i64 u.f.k,.int .i64 u.f.n,.int .i64 u.f.mn,.int .i64 u.f.mx,.slice u.f.rq u.f.rs.length u.f.rc,.slice u.f.kq u.f.kl u.f.kc] 25)):=bz9
   have N4:Hid (BoxN (wr.alloc (.cells #[.int .i64 u.f.k,.int .i64 u.f.n,.int .i64 u.f.mn,.int .i64 u.f.mx,.slice u.f.rq u.f.rs.length u.f.rc,.slice u.f.kq u.f.kl u.f.kc] 25)) wr.heap.size u.f):=aD wr _
   have O4:=aB (HO.out.kept K4)
   rw [hq]
   clear six hu K4 HN HOI
   go_upto_region 7 with fail
   generalize (wr.alloc (.cells #[.int .i64 u.f.k,.int .i64 u.f.n,.int .i64 u.f.mn,.int .i64 u.f.mx,.slice u.f.rq u.f.rs.length u.f.rc,.slice u.f.kq u.f.kl u.f.kc] 25))=W4 at N4 O4 ⊢
   clear d0 d1 d2 d3 d4 d5 HO
   generalize osf (L.take j)=oo at HNX O4 hKl hAl hsl hfl ⊢
   obtain⟨K,A,F,S⟩:=oo
   dsimp only at O4 hKl hAl hsl hfl ⊢
   obtain⟨n0,n1,n2,n3,n4,n5⟩:=N4.out.six
   simp only [a7] at n1 n2 n3 n4 n5
   by_cases k2:u.f.k=2
   ·have e2:(u.f.k==2)=true:=by simpa using k2
    have TU:=aB (HTK.out W4 u O4.out.bel hin)
    have AR:=TU.out.node.r
    have step:∀ (V:World) (q6:Option Addr) (cap6:Nat),WOr W K (A++u.f.rs) kq kc q6 cap6 V->BoxN V wr.heap.size u.f->True:=fun _ _ _ _ _=>trivial
    clear step
    by_cases hS:1<=S
    ·have hS1:((S:Int)+1>1):=by omega
     have EN:=aB (show (OS.mk K A F S).add u=⟨K,A++u.f.rs,F,S+1⟩ by unfold OS.add;rw [if_pos k2,if_pos hS])
     cases hrq:u.f.rq with
     | none=>
      rw [hrq] at n4
      have hrs:u.f.rs=[]/\u.f.rc=0:=by
       rw [hrq] at AR
       rcases AR with⟨p,cap,e,h1,h2⟩ | ⟨g',off',cap,e,-⟩
       ·injection e with e1 _ e3
        subst e1
        exact⟨h1,e3.trans (h2 rfl)⟩
       ·cases e
      rw [hrs.1,hrs.2,List.length_nil] at n4
      have HRS:=aB hrs
      clear hrs AR
      go_wp2_with (at_builtin;refine wpList_append_own_none rfl _ _ 22 rfl W.heap.size 53 s0 2 aU hjr (.slice aq A.length ac) A.length (aH A) rfl O4.out.ar rfl ?_)
      go_roundw
      case rel=>exact⟨j+1,kq,aq,kc,ac,by omega,by go_num,by rw [HNX.out,EN.out],by rw [HNX.out,EN.out,HRS.out.1,l9],by rw [HNX.out,EN.out],by rw [HNX.out,EN.out];go_num,by rw [HNX.out,EN.out,HRS.out.1,l9];exact O4.out⟩
      case measure=>simp only [intOf];omega
     | some ad=>
      rw [hrq] at n4 AR
      have NW:=aB (AR.news)
      clear AR
      go_wp2_with (at_builtin;refine wpList_append_own_at _ rfl _ _ 22 rfl W.heap.size 53 s0 (.agg #[.int .i64 0,.int .i64 0]) 2 16 aU hjr sz0 sz1 sz2 rfl (by decide) (.slice aq A.length ac) A.length (aH A) rfl O4.out.ar ad u.f.rs.length u.f.rc (aH u.f.rs) rfl (bV u.f.rs) NW.out (eR u.f.rs) (by unfold maxLen;omega) (by omega) O4.out.bel.size ?_;intro v' w6 hown' hgrow _ _;obtain⟨q6,cap6,rfl⟩:=aR hown';obtain⟨h71,h72⟩:=O4.out.apA hown' hgrow;have O7:=aB h71;have EL:=aB h72;clear hown' hgrow h71 h72)
      go_roundw
      case rel=>exact⟨j+1,kq,q6,kc,cap6,by omega,by go_num,by rw [HNX.out,EN.out],by rw [HNX.out,EN.out,EL.out],by rw [HNX.out,EN.out],by rw [HNX.out,EN.out];go_num,by rw [HNX.out,EN.out];exact O7.out⟩
      case measure=>simp only [intOf];omega
    ·have hS0:S=0:=by omega
     subst hS0
     have EN:=aB (show (OS.mk K A F 0).add u=⟨K++[u],A++u.f.rs,K.length,1⟩ by unfold OS.add;rw [if_pos k2,if_neg (by simp)])
     cases hrq:u.f.rq with
     | none=>
      rw [hrq] at n4
      have hrs:u.f.rs=[]/\u.f.rc=0:=by
       rw [hrq] at AR
       rcases AR with⟨p,cap,e,h1,h2⟩ | ⟨g',off',cap,e,-⟩
       ·injection e with e1 _ e3
        subst e1
        exact⟨h1,e3.trans (h2 rfl)⟩
       ·cases e
      have n4':=n4
      rw [hrs.1,hrs.2,List.length_nil] at n4'
      have HRS:=aB hrs
      have HRQ:=aB hrq
      clear hrs AR hrq n4
      clear k2
      go_upto_region 12 with (at_builtin;refine wpList_append_own_none rfl _ _ 22 rfl W.heap.size 53 s0 2 aU hjr (.slice aq A.length ac) A.length (aH A) rfl O4.out.ar rfl ?_)
      clear n0 n1 n2 n3 n4' n5
      have K6:Below W4.heap.size W4 (W4.alloc (.cells #[.int .i64 u.f.k,.int .i64 u.f.n,.int .i64 u.f.mn,.int .i64 u.f.mx,.slice u.f.rq u.f.rs.length u.f.rc,.slice u.f.kq u.f.kl u.f.kc] 25)):=bz9
      have M6:=aB (eU (aD W4 (.cells #[.int .i64 u.f.k,.int .i64 u.f.n,.int .i64 u.f.mn,.int .i64 u.f.mx,.slice u.f.rq u.f.rs.length u.f.rc,.slice u.f.kq u.f.kl u.f.kc] 25)))
      have O6:=aB (O4.out.kept K6)
      obtain⟨n0,n1,n2,n3,n4,n5⟩:=N4.out.six
      simp only [a7] at n1 n2 n3 n4 n5
      clear K6
      go_wp2_with (at_builtin;refine wpList_append_own_at _ rfl _ _ 23 rfl W.heap.size 25 t0 (.agg #[.int .i64 0,.int .i64 0,.int .i64 0,.int .i64 0,.slice none 0 0,.slice none 0 0]) 6 80 bY hi hz0 hz1 hz2 rfl (by decide) (.slice kq K.length kc) K.length (aQ K) rfl O6.out.kr ⟨W4.heap.size,0,none⟩ 1 1 u.f.cells rfl rfl M6.out (fun v hv=>by simp [Fl.cells] at hv;rcases hv with rfl | rfl | rfl | rfl | rfl | rfl <;> rfl) (by unfold maxLen;omega) (by omega) O6.out.bel.size ?_;intro v' w6 hown' hgrow _ _;obtain⟨q6,cap6,rfl⟩:=aR hown';have O7:=aB (O6.out.apK hown' hgrow);clear hown' hgrow)
      go_roundw
      case rel=>exact⟨j+1,q6,aq,cap6,ac,by omega,by go_num,by rw [HNX.out,EN.out];simp,by rw [HNX.out,EN.out,HRS.out.1,l9],by rw [HNX.out,EN.out],by rw [HNX.out,EN.out];rfl,by rw [HNX.out,EN.out,HRS.out.1,l9];exact O7.out⟩
      case measure=>simp only [intOf];omega
     | some ad=>
      have n4':=n4
      rw [hrq] at n4' AR
      have NW:=aB (AR.news)
      clear AR n4 k2 hrq
      go_upto_region 12 with (at_builtin;refine wpList_append_own_at _ rfl _ _ 22 rfl W.heap.size 53 s0 (.agg #[.int .i64 0,.int .i64 0]) 2 16 aU hjr sz0 sz1 sz2 rfl (by decide) (.slice aq A.length ac) A.length (aH A) rfl O4.out.ar ad u.f.rs.length u.f.rc (aH u.f.rs) rfl (bV u.f.rs) NW.out (eR u.f.rs) (by unfold maxLen;omega) (by omega) O4.out.bel.size ?_;intro v' w5 hown' hgrow _ _;obtain⟨q5,cap5,rfl⟩:=aR hown';obtain⟨h71,h72⟩:=O4.out.apA hown' hgrow;have O5:=aB h71;have EL:=aB h72;have N5:Hid (BoxN w5 wr.heap.size u.f):=aB ((hgrow.block _ (aC N4.out) (fun e=>dF O4.out.ar N4.out (by decide) e.symm)).trans N4.out);clear hown' hgrow h71 h72)
      clear n0 n1 n2 n3 n4' n5
      have K6:Below w5.heap.size w5 (w5.alloc (.cells #[.int .i64 u.f.k,.int .i64 u.f.n,.int .i64 u.f.mn,.int .i64 u.f.mx,.slice u.f.rq u.f.rs.length u.f.rc,.slice u.f.kq u.f.kl u.f.kc] 25)):=bz9
      have M6:=aB (eU (aD w5 (.cells #[.int .i64 u.f.k,.int .i64 u.f.n,.int .i64 u.f.mn,.int .i64 u.f.mx,.slice u.f.rq u.f.rs.length u.f.rc,.slice u.f.kq u.f.kl u.f.kc] 25)))
      have O6:=aB (O5.out.kept K6)
      obtain⟨n0,n1,n2,n3,n4,n5⟩:=N5.out.six
      simp only [a7] at n1 n2 n3 n4 n5
      clear K6
      go_wp2_with (at_builtin;refine wpList_append_own_at _ rfl _ _ 23 rfl W.heap.size 25 t0 (.agg #[.int .i64 0,.int .i64 0,.int .i64 0,.int .i64 0,.slice none 0 0,.slice none 0 0]) 6 80 bY hi hz0 hz1 hz2 rfl (by decide) (.slice kq K.length kc) K.length (aQ K) rfl O6.out.kr ⟨w5.heap.size,0,none⟩ 1 1 u.f.cells rfl rfl M6.out (fun v hv=>by simp [Fl.cells] at hv;rcases hv with rfl | rfl | rfl | rfl | rfl | rfl <;> rfl) (by unfold maxLen;omega) (by omega) O6.out.bel.size ?_;intro v' w6 hown' hgrow _ _;obtain⟨q6,cap6,rfl⟩:=aR hown';have O7:=aB (O6.out.apK hown' hgrow);clear hown' hgrow)
      go_roundw
      case rel=>exact⟨j+1,q6,q5,cap6,cap5,by omega,by go_num,by rw [HNX.out,EN.out];simp,by rw [HNX.out,EN.out,EL.out],by rw [HNX.out,EN.out],by rw [HNX.out,EN.out];rfl,by rw [HNX.out,EN.out];exact O7.out⟩
      case measure=>simp only [intOf];omega
   ·have e2:(u.f.k==2)=false:=by simpa using k2
    have EN:=aB (show (OS.mk K A F S).add u=⟨K++[u],A,F,S⟩ by unfold OS.add;rw [if_neg k2])
    go_upto_region 12 with fail
    clear n0 n1 n2 n3 n4 n5
    have K6:Below W4.heap.size W4 (W4.alloc (.cells #[.int .i64 u.f.k,.int .i64 u.f.n,.int .i64 u.f.mn,.int .i64 u.f.mx,.slice u.f.rq u.f.rs.length u.f.rc,.slice u.f.kq u.f.kl u.f.kc] 25)):=bz9
    have M6:=aB (eU (aD W4 (.cells #[.int .i64 u.f.k,.int .i64 u.f.n,.int .i64 u.f.mn,.int .i64 u.f.mx,.slice u.f.rq u.f.rs.length u.f.rc,.slice u.f.kq u.f.kl u.f.kc] 25)))
    have O6:=aB (O4.out.kept K6)
    obtain⟨n0,n1,n2,n3,n4,n5⟩:=N4.out.six
    simp only [a7] at n1 n2 n3 n4 n5
    clear K6
    go_wp2_with (at_builtin;refine wpList_append_own_at _ rfl _ _ 23 rfl W.heap.size 25 t0 (.agg #[.int .i64 0,.int .i64 0,.int .i64 0,.int .i64 0,.slice none 0 0,.slice none 0 0]) 6 80 bY hi hz0 hz1 hz2 rfl (by decide) (.slice kq K.length kc) K.length (aQ K) rfl O6.out.kr ⟨W4.heap.size,0,none⟩ 1 1 u.f.cells rfl rfl M6.out (fun v hv=>by simp [Fl.cells] at hv;rcases hv with rfl | rfl | rfl | rfl | rfl | rfl <;> rfl) (by unfold maxLen;omega) (by omega) O6.out.bel.size ?_;intro v' w6 hown' hgrow _ _;obtain⟨q6,cap6,rfl⟩:=aR hown';have O7:=aB (O6.out.apK hown' hgrow);clear hown' hgrow)
    go_roundw
    case rel=>exact⟨j+1,q6,aq,cap6,ac,by omega,by go_num,by rw [HNX.out,EN.out];simp,by rw [HNX.out,EN.out],by rw [HNX.out,EN.out],by rw [HNX.out,EN.out],by rw [HNX.out,EN.out];exact O7.out⟩
    case measure=>simp only [intOf];omega
  ·have i0:¬ (j:Int)<(L.length:Int):=by omega
   have he:L.take j=L:=j5 (by omega)
   rw [he] at HO HOI hKl hAl hsl hfl ⊢
   have hbel:=HO.out.bel
   have R5:=aB ((hbel.block _ LZ).trans RR1.out)
   have hwr:=aB (aF BB.out hbel lz9)
   have hs:=HOI.out.sets
   by_cases h2:2<=(L.filter fK).length
   ·have hoo:=HOO.out
    rw [if_pos h2] at hoo
    have hs2:¬ ((osf L).s:Int)<2:=by omega
    obtain⟨x0,hx0,hk0,hmap⟩:=HOI.out.some (by omega)
    have hflt:(osf L).f<(osf L).K.length:=(i7.1 hx0).1
    have hrg:=HOI.out.ranges
    have hsub:=HOI.out.sub
    have hszk:=HOI.out.szs
    rw [<- hrg] at hoo
    clear HOI he hs
    generalize osf L=oo at *
    obtain⟨K,A,F,S⟩:=oo
    dsimp only at HO hKl hAl hsl hfl hs2 hx0 hmap hflt hrg hsub hszk hoo ⊢
    obtain⟨g,ek,hKR,hkc,hgW⟩:∃ g:Nat,kq=some ⟨g,0,none⟩/\KR wr g K/\(K.length<=kc/\kc<=maxLen)/\W.heap.size<=g:=by
     have hkr:=HO.out.kr
     rcases hkr.2 with⟨e,hn⟩ | ⟨g,cap,cur,e,h1,h2',h3,h4,_⟩
     ·exfalso;omega
     ·injection e with e1 _ e3
      subst e1 e3
      exact⟨g,rfl,KR.of_row hkr,⟨h3,h4⟩,h1⟩
    subst ek
    have hFit:Fit A:=by
     rw [hrg]
     intro r hr
     obtain⟨u,hu,hr⟩:=aAF.1 hr
     exact(HTK.out W u (Below.refl _ _) (o6.1 hu).1).node.fit r hr
    have OC:=aB (aV6 (w:=wr) HO.out.ar.arg (RR.nil 0 wr).arg hFit eE (by simp;omega))
    have HKR:=aB hKR
    have HUN:=aB (aN9 hFit)
    have f0:(0:Int)<=(F:Int):=by omega
    have f1:(F:Int)<(K.length:Int):=by omega
    have h0:x0∈K:=i5 hx0
    have HX0:=aB hx0
    have HMAP:=aB hmap
    have HSUB:=aB hsub
    have HSZK:=aB hszk
    have HBEL:=aB hbel
    have hx0s:x0.sz<=2000:=by
     have h1:=HS.out
     have h2':x0.sz<=szs L:=by
      have:∀ l:List Tr,x0∈l->x0.sz<=szs l:=by
       intro l
       induction l with
       | nil=>intro h;cases h
       | cons y l ih=>
        intro h
        rw [bK]
        rcases n7.1 h with rfl | h
        ·omega
        ·have:=ih h;omega
      exact this L (hsub x0 h0)
     omega
    have HX0S:=aB (show szs K+x0.sz<1000000 by have:=HS.out;omega)
    clear hKR hFit hx0 hmap hsub hszk hbel hrg hx0s HOO HRL HH c0 c1 c2 c3 c4 c5
    go_upto_region 17 with (go_at_call 72;(with_reducible refine OC.out.mono ?_);rintro e w5 ⟨v5,C,rfl,h51,h52,h53,h54⟩;obtain⟨q5,c5,rfl⟩:=h51.shape;have X5:=aB h51;have Y5:=aB h52;have Z5:=aB h53;have B5:=aB h54;have K5:=aB (HKR.out.kept h54);have k4:=(HKR.out.kept h54).six F x0 HX0.out |>.2.2.2.2.1;have fz:=fun z=>(HKR.out.kept h54).frz z;clear h51 h52 h53 h54)
    have hC:C=unC A:=Y5.out.one HUN.out (fun c=>⟨fun q=>q.elim id (fun q=>absurd q (eX c)),.inl⟩)
    have F6:=aB ((Fr.refl (fun z=>z=g) w5).setCell (p:=⟨g,F*6+4,none⟩) rfl (.slice q5 C.length c5))
    have K6:=aB (K5.out.set4 HX0.out C q5 c5)
    have B6:Hid (Below W.heap.size W (w5.setCell ⟨g,F*6+4,none⟩ (.slice q5 C.length c5))):=aB (aX (aF HBEL.out B5.out lz9) F6.out lz9 (fun k e=>by omega))
    have X6:Hid (RR wr.heap.size (w5.setCell ⟨g,F*6+4,none⟩ (.slice q5 C.length c5)) (.slice q5 C.length c5) C):=aB (X5.out.fr F6.out (fun k hk e=>by
     subst e
     obtain⟨cur,hc⟩:=K5.out.blk
     exact dF X5.out hc (by decide) hk))
    generalize (w5.setCell ⟨g,F*6+4,none⟩ (.slice q5 C.length c5))=w6 at F6 K6 B6 X6 ⊢
    clear k4 fz OC
    have hlen6:(K.set F (reR x0 C q5 c5)).length=K.length:=List.length_set
    have AC:=aN0 (w:=w6) (q:=some ⟨g,0,none⟩) (c:=kc) (l:=K.set F (reR x0 C q5 c5)) (K6.out.arg (by rw [hlen6];exact hkc.1) hkc.2) (fun v hv=>by
     rcases List.mem_or_eq_of_mem_set hv with q | q
     ·exact HTK.out w6 v B6.out (HSUB.out v q)
     ·subst q
      exact aQ1 (HTK.out w6 x0 B6.out (HSUB.out x0 h0)) X6.out Y5.out.fit (by have:=Z5.out;simp at this;omega)) (by
     have h1:=aF5 K F (reR x0 C q5 c5)
     rw [aQ2] at h1
     have:=HX0S.out
     omega)
    rw [sC,HMAP.out C (reR x0 C q5 c5) (aQ3 x0 C q5 c5),hlen6,hC] at AC
    have hoo':some _=OO:=hoo
    obtain⟨X,hX⟩:∃ X,fR 6 ((kJ (unC A) false (L.map er)).flatMap fun e=>if e.kd=6 then e.ks else [e]) (.mk 2 0 0 0 [] [])=X:=⟨_,rfl⟩
    rw [hX] at AC hoo'
    subst hoo'
    have HAC:=aB AC
    have R6:=aB ((B6.out.block _ LZ).trans RR1.out)
    have BW:=aB (aF BB.out B6.out lz9)
    clear AC hX hoo hC
    go_wp2_with (go_at_call 73;(with_reducible refine HAC.out.mono ?_);rintro e w7 ⟨t7,rfl,h61,h62,h63,h64⟩;have R7:=(h64.block _ (aC R6.out)).trans R6.out;have E0:=aB (mE t7 (aF BW.out h64 lz9) R7 (Nat.le_succ _) h61 (h62.mono fun k hk=>j2 (aC R6.out) hk));have F0:=aB (h62.mono fun k (hk:w6.heap.size<=k)=>j4 BW.out.size hk);have r0:=aA R7 (i:=0) rfl;have r1:=aA R7 (i:=1) rfl;have r2:=aA R7 (i:=2) rfl;have r3:=aA R7 (i:=3) rfl;have r4:=aA R7 (i:=4) rfl;have r5:=aA R7 (i:=5) rfl;have fz:=fun z=>aJ R7 z;have HX:=aB h63;clear h61 h62 h63 h64 R7)
    exact iL E0.out.1 rfl rfl rfl ⟨t7.f,rfl,E0.out.2.1,fun x hx=>⟨t7,rfl,E0.out.2.2,F0.out,by cases hx;exact HX.out⟩⟩
   ·have hoo:=HOO.out
    rw [if_neg h2] at hoo
    subst hoo
    have hs2:((osf L).s:Int)<2:=by omega
    have E0:=aB (kO hwr.out R5.out (Nat.le_succ _))
    have r0:=aA R5.out (i:=0) rfl
    have r1:=aA R5.out (i:=1) rfl
    have r2:=aA R5.out (i:=2) rfl
    have r3:=aA R5.out (i:=3) rfl
    have r4:=aA R5.out (i:=4) rfl
    have r5:=aA R5.out (i:=5) rfl
    have fz:=fun z=>aJ R5.out z
    go_wp2
    exact iL E0.out.1 rfl rfl rfl ⟨dO 0,rfl,E0.out.2,fun x hx=>by cases hx⟩
end
section
variable (un:List (Int×Int)->List (Int×Int))
noncomputable def nf:Ps->Ps
 | .lf k n rs=>.lf k n rs
 | .grp n x=>.grp n x
 | .rep a b x=>gC a b x
 | .row l=>gV l
 | .alt l=>iK un l
noncomputable def fV:Ps->Ps
 | .lf k n rs=>.lf k n rs
 | .grp n x=>.grp n (sim un x)
 | .rep a b x=>.rep a b (sim un x)
 | .row l=>.row (l.map (sim un))
 | .alt l=>.alt (l.map (sim un))
theorem aP2(x:Ps):sim un x=nf un (fV un x):=by
 cases x with
 | lf k n rs=>rw [sim];rfl
 | grp n y=>rw [sim];rfl
 | rep a b y=>rw [sim];rfl
 | row l=>rw [sim,cI];rfl
 | alt l=>rw [sim,cI];rfl
def shp:Ps->Prop
 | .lf k _ _=>k=2\/k=3\/k=4\/k=8
 | .grp _ _=>True
 | .rep _ _ x=>fJ x=true\/x=.row []
 | .row l=>l.length≠1/\∀ x∈l,gN x=true\/x=.row []
 | .alt l=>2<=l.length/\∀ x∈l,jL x=true
structure Nd(z:Ps):Prop where
 kw:∀ y∈z.kids,wf y
 kn:∀ y∈z.kids,nrm y
 sh:shp z
theorem aN6{z:Ps}(h:wf z):shp z:=by
 cases z with
 | lf k n rs=>rw [wf] at h;exact h
 | grp n y=>trivial
 | rep a b y=>rw [wf] at h;exact .inl h.1
 | row l=>
  rw [wf] at h
  refine⟨h.1,fun x hx=>?_⟩
  obtain⟨i,hi⟩:=List.mem_iff_getElem?.1 hx
  exact .inl (h.2.1 i x hi).1
 | alt l=>rw [wf] at h;exact⟨h.1,h.2.1⟩
theorem uS{x y:Ps}(h:nrm x)(hy:y∈x.kids):nrm y:=by
 cases x with
 | lf k n rs=>cases hy
 | grp n k=>simp [Ps.kids] at hy;subst hy;rw [nrm] at h;exact h
 | rep a b k=>simp [Ps.kids] at hy;subst hy;rw [nrm] at h;exact h.2.2.2.2
 | row l=>rw [nrm] at h;exact(dG l).1 h.2 y hy
 | alt l=>rw [nrm] at h;exact(dG l).1 h.2.2 y hy
theorem Nd.of{z:Ps}(h:wf z)(hn:nrm z):Nd z:=⟨fun _ hy=>dC h hy,fun _ hy=>uS hn hy,aN6 h⟩
theorem Nd.ofk{x:Ps}(h:wf x):Nd (fV un x):=by
 cases x with
 | lf k n rs=>exact⟨fun y hy=>(by cases hy),fun y hy=>(by cases hy),(by rw [wf] at h;exact h)⟩
 | grp n k=>
  rw [wf] at h
  exact⟨fun y hy=>(by simp [fV,Ps.kids] at hy;subst hy;exact lH un k h),fun y hy=>(by simp [fV,Ps.kids] at hy;subst hy;exact jD un k),trivial⟩
 | rep a b k=>
  rw [wf] at h
  exact⟨fun y hy=>(by simp [fV,Ps.kids] at hy;subst hy;exact lH un k h.2),fun y hy=>(by simp [fV,Ps.kids] at hy;subst hy;exact jD un k),mD un k h.2 h.1⟩
 | row l=>
  rw [wf] at h
  refine⟨fun y hy=>?_,fun y hy=>?_,by simpa using h.1,fun y hy=>?_⟩
  ·obtain⟨x,hx,rfl⟩:=m9.1 hy;exact lH un x ((cT l).1 h.2.2 x hx)
  ·obtain⟨x,hx,rfl⟩:=m9.1 hy;exact jD un x
  ·obtain⟨x,hx,rfl⟩:=m9.1 hy
   obtain⟨i,hi⟩:=List.mem_iff_getElem?.1 hx
   rcases pX un ((cT l).1 h.2.2 x hx) (h.2.1 i x hi).1 with e | e
   ·exact .inl e.1
   ·exact .inr e
 | alt l=>
  rw [wf] at h
  refine⟨fun y hy=>?_,fun y hy=>?_,by simpa using h.1,fun y hy=>?_⟩
  ·obtain⟨x,hx,rfl⟩:=m9.1 hy;exact lH un x ((cT l).1 h.2.2 x hx)
  ·obtain⟨x,hx,rfl⟩:=m9.1 hy;exact jD un x
  ·obtain⟨x,hx,rfl⟩:=m9.1 hy
   have hw:=(cT l).1 h.2.2 x hx
   exact aD7 un x hw (h.2.1 x hx) (fun y hy=>dC hw hy)
noncomputable def stp:Ps->Option Ps
 | .rep a b x=>if a=1/\b=1 then some x else if a=0/\b=-1/\kB x=true then some x else if b=0/\grs x=0 then some (.row []) else if isE x then some (.row []) else none
 | .row l=>if l.any isE then some (mkB (l.filter fun x=>!isE x)) else none
 | .alt l=>if 2<=(l.filter isS).length then some (mkP (bT (un ((l.filter isS).flatMap rsP)) false l)) else if (aT [] l).length=l.length then none else some (mkP (aT [] l))
 | _=>none
theorem fQ{x:Ps}(h:wf x)(hn:nrm x):nf un x=x:=by
 cases x with
 | lf k n rs=>rfl
 | grp n y=>rfl
 | rep a b y=>
  rw [nrm] at hn
  obtain⟨h1,h2,h3,h4,h5⟩:=hn
  show gC a b y=_
  unfold gC
  rw [if_neg h1,if_neg h2,if_neg h3,if_neg (by rw [h4];simp)]
 | row l=>
  rw [nrm] at hn
  show gV l=_
  unfold gV
  rw [if_neg]
  intro h
  obtain⟨z,hz,e⟩:=s8.1 h
  rw [hn.1 z hz] at e
  cases e
 | alt l=>
  rw [nrm] at hn
  show iK un l=_
  unfold iK bB
  rw [if_neg (by have:=hn.1;omega),jP l [] (by rw [n9];exact hn.2.1),n9]
  rw [wf] at h
  match l,h.1 with
  | x :: y :: r,_=>rfl
theorem pP:nrm (.row []):=by rw [nrm];exact⟨fun _ h=>(by cases h),(dG _).2 (fun _ h=>by cases h)⟩
theorem uB:wf (.row []):=by rw [wf];exact⟨by simp,fun i x h=>by simp at h,trivial⟩
theorem Nd.no:Nd (.row []):=Nd.of uB pP
theorem oE(l:List Ps):∀ acc:List Ps,(aT acc l).length<=acc.length+l.length/\((aT acc l).length=acc.length+l.length->aT acc l=acc++l):=by
 induction l with
 | nil=>intro acc;rw [aT];simp
 | cons x l ih=>
  intro acc
  rw [aT]
  split
  ·obtain⟨h1,h2⟩:=ih acc
   rw [i9]
   exact⟨by omega,fun e=>by omega⟩
  ·obtain⟨h1,h2⟩:=ih (acc++[x])
   rw [j3,v9] at h1 h2
   rw [i9]
   exact⟨by omega,fun e=>by rw [h2 (by omega),j7];rfl⟩
theorem sV(u:List (Int×Int))(l:List Ps):bT u true l=l.filter fun x=>!isS x:=by
 induction l with
 | nil=>rfl
 | cons x l ih=>
  rw [bT,r8]
  by_cases h:isS x=true
  ·rw [if_pos h,if_pos rfl,ih];simp [h]
  ·rw [if_neg h,ih];simp [h]
theorem vZ(u:List (Int×Int))(l:List Ps):((bT u false l).filter isS).length<=1:=by
 induction l with
 | nil=>simp [bT]
 | cons x l ih=>
  rw [bT]
  by_cases h:isS x=true
  ·rw [if_pos h,if_neg (by decide),sV,r8,List.filter_filter]
   have:(l.filter fun a=>isS a && !isS a)=[]:=by
    rw [List.filter_eq_nil_iff]
    intro a _
    simp
   rw [this]
   split <;> simp
  ·rw [if_neg h,r8,if_neg h];exact ih
theorem xA(l:List Ps):bB un (bB un l)=bB un l:=by
 unfold bB
 by_cases h:2<=(l.filter isS).length
 ·rw [if_pos h,if_neg (by have:=vZ (un ((l.filter isS).flatMap rsP)) l;omega)]
 ·rw [if_neg h,if_neg h]
theorem wP(u:List (Int×Int))(l:List Ps):bR (bT u true l)+(l.filter isS).length<=bR l:=by
 induction l with
 | nil=>simp [bT]
 | cons x l ih=>
  have hx:=fP x
  rw [bT,r8]
  by_cases h:isS x=true
  ·rw [if_pos h,if_pos h,if_pos rfl,i9,bR];omega
  ·rw [if_neg h,if_neg h,bR,bR];omega
theorem tF(u:List (Int×Int))(l:List Ps)(h0:1<=(l.filter isS).length):bR (bT u false l)+(l.filter isS).length<=bR l+1:=by
 induction l with
 | nil=>simp at h0
 | cons x l ih=>
  have hx:=fP x
  rw [r8] at h0
  rw [bT,r8]
  by_cases h:isS x=true
  ·rw [if_pos h,if_pos h,if_neg (by decide),i9,bR,bR,Ps.sz]
   have:=wP u l
   omega
  ·rw [if_neg h] at h0
   rw [if_neg h,if_neg h,bR,bR]
   have:=ih h0
   omega
theorem wQ(l:List Ps):∀ acc:List Ps,bR (aT acc l)+(acc.length+l.length)<=bR acc+bR l+(aT acc l).length:=by
 induction l with
 | nil=>intro acc;rw [aT,bR];simp
 | cons x l ih=>
  intro acc
  have hx:=fP x
  rw [aT,bR,i9]
  split
  ·have:=ih acc;omega
  ·have:=ih (acc++[x])
   rw [qX,j3,v9,bR,bR] at this
   omega
theorem zR(l:List Ps)(h:l.any isE=true):bR (l.filter fun x=>!isE x)<bR l:=by
 induction l with
 | nil=>simp at h
 | cons x l ih=>
  have hx:=fP x
  have hle:=lX (fun x=>!isE x) l
  rw [r8]
  by_cases he:isE x=true
  ·rw [if_neg (by simp [he]),bR];omega
  ·rw [if_pos (by simpa using he),bR,bR]
   have:=ih (by rw [aAI] at h;simpa [he] using h)
   omega
theorem uU(un:List (Int×Int)->List (Int×Int)){m:List Ps}(hm:m≠[])(h1:∀ x∈m,nf un x=x):nf un (mkP m)=mkP (aT [] (bB un m)):=by
 match m,hm,h1 with
 | [x],_,h1=>
  show nf un x=_
  rw [h1 x (by simp)]
  have:bB un [x]=[x]:=by
   unfold bB
   rw [if_neg]
   rw [r8]
   split <;> simp
  rw [this,aT,if_neg (by simp),aT]
  rfl
 | x :: y :: r,_,_=>rfl
theorem Nd.ofP{m:List Ps}(hm:m≠[])(hw:∀ y∈m,wf y)(hn:∀ y∈m,nrm y)(hb:∀ y∈m,jL y=true):Nd (mkP m):=by
 match m,hm,hw,hn,hb with
 | [x],_,hw,hn,_=>exact Nd.of (hw x (by simp)) (hn x (by simp))
 | x :: y :: r,_,hw,hn,hb=>exact⟨hw,hn,by simp,hb⟩
theorem yN{z z':Ps}(h:Nd z)(e:stp un z=some z'):Nd z'/\nf un z'=nf un z/\z'.sz<z.sz:=by
 cases z with
 | lf k n rs=>cases e
 | grp n x=>cases e
 | rep a b x=>
  have hw:=h.kw x (by simp [Ps.kids])
  have hn:=h.kn x (by simp [Ps.kids])
  have hp:=fP x
  simp only [stp] at e
  show _/\_=gC a b x/\_
  unfold gC
  by_cases h1:a=1/\b=1
  ·rw [if_pos h1] at e ⊢;cases e
   exact⟨Nd.of hw hn,fQ un hw hn,by rw [Ps.sz];omega⟩
  rw [if_neg h1] at e ⊢
  by_cases h2:a=0/\b=-1/\kB x=true
  ·rw [if_pos h2] at e ⊢;cases e
   exact⟨Nd.of hw hn,fQ un hw hn,by rw [Ps.sz];omega⟩
  rw [if_neg h2] at e ⊢
  by_cases h3:b=0/\grs x=0
  ·rw [if_pos h3] at e ⊢;cases e
   exact⟨Nd.no,fQ un uB pP,by rw [Ps.sz,Ps.sz,bR];omega⟩
  rw [if_neg h3] at e ⊢
  by_cases h4:isE x=true
  ·rw [if_pos h4] at e ⊢;cases e
   exact⟨Nd.no,fQ un uB pP,by rw [Ps.sz,Ps.sz,bR];omega⟩
  rw [if_neg h4] at e
  cases e
 | row l=>
  simp only [stp] at e
  show _/\_=gV l/\_
  unfold gV
  by_cases ha:l.any isE=true
  ·rw [if_pos ha] at e ⊢;cases e
   have hk:∀ y∈l.filter (fun x=>!isE x),y∈l/\isE y=false:=fun y hy=>⟨(o6.1 hy).1,by simpa using (o6.1 hy).2⟩
   have hsz:=zR l ha
   have hle:=rD (l.filter fun x=>!isE x)
   refine⟨?_,?_,by rw [Ps.sz];omega⟩
   ·generalize hm:l.filter (fun x=>!isE x)=m at hk
    match m,hk with
    | [],_=>exact Nd.no
    | [x],hk=>exact Nd.of (h.kw x (hk x (by simp)).1) (h.kn x (hk x (by simp)).1)
    | x :: y :: r,hk=>exact⟨fun u hu=>h.kw u (hk u hu).1,fun u hu=>h.kn u (hk u hu).1,by simp,fun u hu=>(h.sh.2 u (hk u hu).1)⟩
   ·generalize hm:l.filter (fun x=>!isE x)=m at hk
    match m,hk with
    | [],_=>exact fQ un uB pP
    | [x],hk=>exact fQ un (h.kw x (hk x (by simp)).1) (h.kn x (hk x (by simp)).1)
    | x :: y :: r,hk=>
     show gV (x :: y :: r)=.row (x :: y :: r)
     unfold gV
     rw [if_neg]
     intro q
     obtain⟨z,hz,e⟩:=s8.1 q
     rw [(hk z hz).2] at e
     cases e
  ·rw [if_neg ha] at e;cases e
 | alt l=>
  have hl2:=h.sh.1
  simp only [stp] at e
  by_cases hs:2<=(l.filter isS).length
  ·rw [if_pos hs] at e;cases e
   have hj:bB un l=bT (un ((l.filter isS).flatMap rsP)) false l:=by unfold bB;rw [if_pos hs]
   rw [<- hj]
   have hmem:∀ y∈bB un l,wf y/\nrm y/\jL y=true:=fun y hy=>by
    rcases gM un hy with⟨u,rfl⟩ | hy
    ·exact⟨by rw [wf];exact .inl rfl,by rw [nrm];trivial,rfl⟩
    ·exact⟨h.kw y hy,h.kn y hy,h.sh.2 y hy⟩
   have hne:bB un l≠[]:=rJ un (fun e=>by rw [e] at hl2;simp at hl2)
   refine⟨Nd.ofP hne (fun y hy=>(hmem y hy).1) (fun y hy=>(hmem y hy).2.1) (fun y hy=>(hmem y hy).2.2),?_,?_⟩
   ·rw [uU un hne fun x hx=>fQ un (hmem x hx).1 (hmem x hx).2.1,xA];rfl
   ·have h1:=tF (un ((l.filter isS).flatMap rsP)) l (by omega)
    rw [<- hj] at h1
    have h2:=nI (bB un l)
    rw [Ps.sz]
    omega
  ·rw [if_neg hs] at e
   have hj:bB un l=l:=by unfold bB;rw [if_neg hs]
   by_cases ht:(aT [] l).length=l.length
   ·rw [if_pos ht] at e;cases e
   ·rw [if_neg ht] at e;cases e
    have hmem:∀ y∈aT [] l,y∈l:=fun y hy=>((cZ l [] y).1 hy).resolve_left (fun q=>by cases q)
    have hne:aT [] l≠[]:=mO (fun e=>by rw [e] at hl2;simp at hl2)
    have hfew:((aT [] l).filter isS).length<2:=by have:=qS un l;rw [hj] at this;exact this
    have hj2:bB un (aT [] l)=aT [] l:=by unfold bB;rw [if_neg (by omega)]
    refine⟨Nd.ofP hne (fun y hy=>h.kw y (hmem y hy)) (fun y hy=>h.kn y (hmem y hy)) (fun y hy=>h.sh.2 y (hmem y hy)),?_,?_⟩
    ·rw [uU un hne fun x hx=>fQ un (h.kw x (hmem x hx)) (h.kn x (hmem x hx)),hj2,jP _ [] (by rw [n9];exact iI l [] List.nodup_nil),n9]
     show _=iK un l
     unfold iK
     rw [hj]
    ·have h1:=wQ l []
     have h2:=(oE l []).1
     have h3:=nI (aT [] l)
     rw [bR] at h1
     rw [List.length_nil] at h1 h2
     rw [Ps.sz]
     omega
theorem yO{z:Ps}(h:Nd z)(e:stp un z=none):nf un z=z:=by
 cases z with
 | lf k n rs=>rfl
 | grp n x=>rfl
 | rep a b x=>
  simp only [stp] at e
  show gC a b x=_
  unfold gC
  by_cases h1:a=1/\b=1
  ·rw [if_pos h1] at e;cases e
  rw [if_neg h1] at e ⊢
  by_cases h2:a=0/\b=-1/\kB x=true
  ·rw [if_pos h2] at e;cases e
  rw [if_neg h2] at e ⊢
  by_cases h3:b=0/\grs x=0
  ·rw [if_pos h3] at e;cases e
  rw [if_neg h3] at e ⊢
  by_cases h4:isE x=true
  ·rw [if_pos h4] at e;cases e
  rw [if_neg h4]
 | row l=>
  simp only [stp] at e
  show gV l=_
  unfold gV
  by_cases ha:l.any isE=true
  ·rw [if_pos ha] at e;cases e
  ·rw [if_neg ha]
 | alt l=>
  simp only [stp] at e
  by_cases hs:2<=(l.filter isS).length
  ·rw [if_pos hs] at e;cases e
  ·rw [if_neg hs] at e
   by_cases ht:(aT [] l).length=l.length
   ·have:=(oE l []).2 (by simpa using ht)
    show iK un l=_
    unfold iK bB
    rw [if_neg hs,this,n9]
    have:=h.sh.1
    match l,this with
    | x :: y :: r,_=>rfl
   ·rw [if_neg ht] at e;cases e
end
theorem cR(x:Ps):(te x).kd=x.kd:=by
 cases x with
 | lf k n rs=>rw [te];rfl
 | grp n y=>rw [te];rfl
 | rep a b y=>rw [te];rfl
 | row l=>
  rw [te]
  simp only [Ps.kd]
  by_cases h:l.isEmpty=true
  ·rw [if_pos h,if_pos h];rfl
  ·rw [if_neg h,if_neg h];rfl
 | alt l=>rw [te];rfl
theorem jM{k n:Int}{rs:List (Int×Int)}(h:wf (.lf k n rs)):k=2\/k=3\/k=4\/k=8:=by rw [wf] at h;exact h
theorem uE{l m:List Ps}(h:∀ x∈l,∀ y∈m,te x=te y->x=y)(e:l.map te=m.map te):l=m:=by
 induction l generalizing m with
 | nil=>cases m with
  | nil=>rfl
  | cons y m=>simp at e
 | cons x l ih=>
  cases m with
  | nil=>simp at e
  | cons y m=>
   rw [l8,l8] at e
   injection e with e1 e2
   rw [h x (g7 ..) y (g7 ..) e1,ih (fun a ha b hb=>h a (b6 _ ha) b (b6 _ hb)) e2]
theorem yI(x:Ps):∀ y,wf x->wf y->te x=te y->x=y:=by
 refine Ps.ind (P:=fun x=>∀ y,wf x->wf y->te x=te y->x=y) (fun x ih=>?_) x
 intro y hx hy e
 have hk:x.kd=y.kd:=by rw [<- cR,<- cR,e]
 cases x with
 | lf k n rs=>
  have h1:=jM hx
  cases y with
  | lf k' n' rs'=>rw [te,te] at e;cases e;rfl
  | grp n' y=>simp only [Ps.kd] at hk;omega
  | rep a b y=>simp only [Ps.kd] at hk;omega
  | row l=>simp only [Ps.kd] at hk;split at hk <;> omega
  | alt l=>simp only [Ps.kd] at hk;omega
 | grp n x=>
  cases y with
  | lf k' n' rs'=>have h1:=jM hy;simp only [Ps.kd] at hk;omega
  | grp n' y=>
   rw [te,te] at e
   injection e with e1 e2 e3 e4 e5 e6
   injection e6 with e7 e8
   rw [ih x (by simp [Ps.kids]) y (dC hx (by simp [Ps.kids])) (dC hy (by simp [Ps.kids])) e7]
   congr 1
   omega
  | rep a b y=>simp only [Ps.kd] at hk;omega
  | row l=>simp only [Ps.kd] at hk;split at hk <;> omega
  | alt l=>simp only [Ps.kd] at hk;omega
 | rep a b x=>
  cases y with
  | lf k' n' rs'=>have h1:=jM hy;simp only [Ps.kd] at hk;omega
  | grp n' y=>simp only [Ps.kd] at hk;omega
  | rep a' b' y=>
   rw [te,te] at e
   injection e with e1 e2 e3 e4 e5 e6
   injection e6 with e7 e8
   rw [ih x (by simp [Ps.kids]) y (dC hx (by simp [Ps.kids])) (dC hy (by simp [Ps.kids])) e7,e3,e4]
  | row l=>simp only [Ps.kd] at hk;split at hk <;> omega
  | alt l=>simp only [Ps.kd] at hk;omega
 | row l=>
  cases y with
  | lf k' n' rs'=>have h1:=jM hy;simp only [Ps.kd] at hk;split at hk <;> omega
  | grp n' y=>simp only [Ps.kd] at hk;split at hk <;> omega
  | rep a b y=>simp only [Ps.kd] at hk;split at hk <;> omega
  | row m=>
   rw [te,te] at e
   congr 1
   by_cases h1:l.isEmpty=true
   ·by_cases h2:m.isEmpty=true
    ·rw [List.isEmpty_iff] at h1 h2;rw [h1,h2]
    ·rw [if_pos h1,if_neg h2] at e;cases e
   ·by_cases h2:m.isEmpty=true
    ·rw [if_neg h1,if_pos h2] at e;cases e
    ·rw [if_neg h1,if_neg h2,bJ,bJ] at e
     injection e with e1 e2 e3 e4 e5 e6
     exact uE (fun a ha b hb=>ih a ha b (dC hx ha) (dC hy hb)) e6
  | alt m=>simp only [Ps.kd] at hk;split at hk <;> omega
 | alt l=>
  cases y with
  | lf k' n' rs'=>have h1:=jM hy;simp only [Ps.kd] at hk;omega
  | grp n' y=>simp only [Ps.kd] at hk;omega
  | rep a b y=>simp only [Ps.kd] at hk;omega
  | row m=>simp only [Ps.kd] at hk;split at hk <;> omega
  | alt m=>
   rw [te,te,bJ,bJ] at e
   injection e with e1 e2 e3 e4 e5 e6
   congr 1
   exact uE (fun a ha b hb=>ih a ha b (dC hx ha) (dC hy hb)) e6
theorem aB9(t:Tr)(p:Way):∀ (ks:List Tr) (i:Nat),(∀ u∈ks,∀ p,aI (pp p u)=aI (pp [] u))->aI (pps t p i ks)=(ks.map fun u=>aI (pp [] u)).sum:=by
 intro ks
 induction ks with
 | nil=>intro i _;rw [pps];rfl
 | cons u ks ih=>
  intro i h
  rw [pps,cS,h u (g7 ..),ih (i+1) fun v hv=>h v (b6 _ hv),l8,List.sum_cons]
theorem oO(t:Tr):∀ p,aI (pp p t)=(if t.f.k=7 then 1 else 0)+(t.ks.map fun u=>aI (pp [] u)).sum:=by
 refine Tr.ind (P:=fun t=>∀ p,aI (pp p t)=(if t.f.k=7 then 1 else 0)+(t.ks.map fun u=>aI (pp [] u)).sum) (fun t ih=>?_) t
 intro p
 have hp:∀ u∈t.ks,∀ p,aI (pp p u)=aI (pp [] u):=fun u hu p=>by rw [ih u hu p,ih u hu []]
 rw [cD,show ((p,t) :: pps t p 0 t.ks)=[(p,t)]++pps t p 0 t.ks from rfl,cS,aB9 t p t.ks 0 hp]
 simp [aI]
theorem mH(x:Ps):∀ t:Tr,er t=te x->wf x->aI (pp [] t)=grs x:=by
 refine Ps.ind (P:=fun x=>∀ t:Tr,er t=te x->wf x->aI (pp [] t)=grs x) (fun x ih=>?_) x
 intro t e hw
 have hk:t.f.k=x.kd:=by rw [<- cQ,e,cR]
 have hl:∀ (l:List Ps) (ks:List Tr),(∀ y∈l,y∈x.kids)->ks.map er=l.map te->(ks.map fun u=>aI (pp [] u)).sum=bP l:=by
  intro l
  induction l with
  | nil=>intro ks _ e;rw [List.map_eq_nil_iff.1 e];rfl
  | cons y l ih2=>
   intro ks hs e
   cases ks with
   | nil=>simp at e
   | cons u ks=>
    rw [l8,l8] at e
    injection e with e1 e2
    rw [l8,List.sum_cons,bP,ih y (hs y (g7 ..)) u e1 (dC hw (hs y (g7 ..))),ih2 ks (fun z hz=>hs z (b6 _ hz)) e2]
 rw [oO]
 rw [bQ] at e
 cases x with
 | lf k n rs=>
  have h1:=jM hw
  rw [te] at e
  injection e with e1 e2 e3 e4 e5 e6
  rw [List.map_eq_nil_iff.1 e6,hk,if_neg (by simp only [Ps.kd];omega)]
  rfl
 | grp n y=>
  rw [te] at e
  injection e with e1 e2 e3 e4 e5 e6
  rw [hl [y] t.ks (by simp [Ps.kids]) e6,if_pos e1,grs,bP,bP]
  omega
 | rep a b y=>
  rw [te] at e
  injection e with e1 e2 e3 e4 e5 e6
  rw [hl [y] t.ks (by simp [Ps.kids]) e6,hk,if_neg (by simp [Ps.kd]),grs,bP,bP]
  omega
 | row l=>
  rw [te] at e
  rw [hk,if_neg (by simp only [Ps.kd];split <;> omega),grs]
  by_cases h:l.isEmpty=true
  ·rw [if_pos h] at e
   injection e with e1 e2 e3 e4 e5 e6
   rw [List.isEmpty_iff.1 h,List.map_eq_nil_iff.1 e6]
   rfl
  ·rw [if_neg h,bJ] at e
   injection e with e1 e2 e3 e4 e5 e6
   rw [hl l t.ks (fun _ h=>h) e6]
   omega
 | alt l=>
  rw [te,bJ] at e
  injection e with e1 e2 e3 e4 e5 e6
  rw [hl l t.ks (fun _ h=>h) e6,hk,if_neg (by simp [Ps.kd]),grs]
  omega
section
attribute [local go_sem] Oper.semAt_some
structure RBx(w:World)(tf uf:Fl)(g off:Nat)(W:World):Prop where
 bel:Below w.heap.size w W
 box:BoxN W w.heap.size tf
 res:W.heap[w.heap.size+1]?=some (.cells #[.int .i64 0,.int .i64 0,.int .i64 0,.int .i64 0,.slice none 0 0,.slice none 0 0] 25 (0,0))
 gl:g<W.heap.size
 kid:Six W g off uf
theorem RBx.kept{w W W':World}{tf uf:Fl}{g off:Nat}(h:RBx w tf uf g off W)(hb:Below W.heap.size W W'):RBx w tf uf g off W':=
 ⟨aF h.bel hb lz9,(hb.block _ (aC h.box)).trans h.box,(hb.block _ (aC h.res)).trans h.res,j2 h.gl hb.size,h.kid.ck (CK.of_below hb) h.gl⟩
theorem RBx.put{w W:World}{tf uf:Fl}{g off:Nat}(h:RBx w tf uf g off W):Six (bH W (w.heap.size+1) 0 uf) (w.heap.size+1) 0 uf/\Below w.heap.size w (bH W (w.heap.size+1) 0 uf):=by
 have P9:=cE W (w.heap.size+1) 0 uf
 have X9:=cJ (b:=w.heap.size+1) (o:=0) (f:=⟨0,0,0,0,[],none,0,none,0,0⟩) (g:=uf) ⟨aA h.res (i:=0) rfl,aA h.res (i:=1) rfl,aA h.res (i:=2) rfl,aA h.res (i:=3) rfl,aA h.res (i:=4) rfl,aA h.res (i:=5) rfl⟩
 exact⟨X9,aX h.bel P9 lz9 (fun k e=>by omega)⟩
theorem gG{R:Ending->World->Prop}{a:Act}{W:World}{b:Nat}{f:Fl}{e:Bool}(h:Six W b 0 f)(ha:a.tmps[2]?.getD undef=.pointer (some ⟨b,0,none⟩))(he:a.tmps[3]?.getD undef=.bool e)(hd:a.defers=[])(hR:R (.returned (.tuple #[.agg #[.int .i64 f.k,.int .i64 f.n,.int .i64 f.mn,.int .i64 f.mx,.slice f.rq f.rs.length f.rc,.slice f.kq f.kl f.kc],.bool e])) W):bodyPost Tryz.prog Tryz.f43 R .ret a W:=by
 obtain⟨z0,z1,z2,z3,z4,z5⟩:=h
 simp only [a7] at z1 z2 z3 z4 z5
 refine bodyPost_ret (v:=.tuple #[.agg #[.int .i64 f.k,.int .i64 f.n,.int .i64 f.mn,.int .i64 f.mx,.slice f.rq f.rs.length f.rc,.slice f.kq f.kl f.kc],.bool e]) ?_ hd hR
 simp [results,Tryz.results43,go_sem,ha,he,z0,z1,z2,z3,z4,z5]
theorem mP{t u:Tr}{w:World}(hta:TB w t)(hk:t.ks=[u]):Calls Tryz.prog 43 #[.agg #[.int .i64 t.f.k,.int .i64 t.f.n,.int .i64 t.f.mn,.int .i64 t.f.mx,.slice t.f.rq t.f.rs.length t.f.rc,.slice t.f.kq t.f.kl t.f.kc]] w fun e w'=>e=.returned (.tuple #[.agg #[.int .i64 u.f.k,.int .i64 u.f.n,.int .i64 u.f.mn,.int .i64 u.f.mx,.slice u.f.rq u.f.rs.length u.f.rc,.slice u.f.kq u.f.kl u.f.kc],.bool (kC t.f&&kC u.f)])/\Below w.heap.size w w':=by
 obtain⟨g,off,cap,q1,q2,q3,hl,hs⟩:=mG hta hk
 obtain⟨uf,hu⟩:∃ x,u.f=x:=⟨_,rfl⟩
 rw [hu] at hs ⊢
 clear hu hta hk
 obtain⟨tf,tks⟩:=t
 have CA:=aB (fun W=>mB tf W)
 have CU:=aB (fun W=>mB uf W)
 obtain⟨bt,hbt⟩:∃ b,kC tf=b:=⟨_,rfl⟩
 obtain⟨bu,hbu⟩:∃ b,kC uf=b:=⟨_,rfl⟩
 rw [hbt] at CA
 rw [hbu] at CU
 rw [show kC (Tr.mk tf tks).f=bt from hbt,hbu]
 clear hbt hbu
 obtain⟨fk,fn,fmn,fmx,frs,frq,frc,fkq,fkl,fkc⟩:=tf
 dsimp only [Tr.f] at *
 subst q1 q2 q3
 obtain⟨W,hW,B1,N1,R1⟩:=gU w ⟨fk,fn,fmn,fmx,frs,frq,frc,some ⟨g,off,none⟩,1,fkc⟩
 have X0:Hid (RBx w ⟨fk,fn,fmn,fmx,frs,frq,frc,some ⟨g,off,none⟩,1,fkc⟩ uf g off W):=⟨B1,N1,R1,j2 hl B1.size,hs.ck (CK.of_below B1) hl⟩
 clear hs N1 R1 B1 hl
 have n0:=X0.out.box.six.1
 have n1:=X0.out.box.six.2.1
 have n2:=X0.out.box.six.2.2.1
 have n3:=X0.out.box.six.2.2.2.1
 have n4:=X0.out.box.six.2.2.2.2.1
 have n5:=X0.out.box.six.2.2.2.2.2
 simp only [a7] at n1 n2 n3 n4 n5
 obtain⟨k0,k1,k2,k3,k4,k5⟩:=X0.out.kid
 have r0:=aA X0.out.res (i:=0) rfl
 have r1:=aA X0.out.res (i:=1) rfl
 have r2:=aA X0.out.res (i:=2) rfl
 have r3:=aA X0.out.res (i:=3) rfl
 have r4:=aA X0.out.res (i:=4) rfl
 have r5:=aA X0.out.res (i:=5) rfl
 have fz:=fun z=>aJ X0.out.res z
 cases bt with
 | false=>
  go_enter Tryz.func43,Tryz.ntmps43
  go_upto_region 1 with fail
  first | go_region_with (go_at_call 67;(with_reducible refine(CA.out _).mono ?_);rintro e w5 ⟨rfl,h5⟩;have X5:=aB (X0.out.kept ((Below.refl _ _).drew.trans h5));clear h5;have n0:=X5.out.box.six.1;have n1:=X5.out.box.six.2.1;have n2:=X5.out.box.six.2.2.1;have n3:=X5.out.box.six.2.2.2.1;have n4:=X5.out.box.six.2.2.2.2.1;have n5:=X5.out.box.six.2.2.2.2.2;simp only [a7] at n1 n2 n3 n4 n5;obtain⟨k0,k1,k2,k3,k4,k5⟩:=X5.out.kid;have r0:=aA X5.out.res (i:=0) rfl;have r1:=aA X5.out.res (i:=1) rfl;have r2:=aA X5.out.res (i:=2) rfl;have r3:=aA X5.out.res (i:=3) rfl;have r4:=aA X5.out.res (i:=4) rfl;have r5:=aA X5.out.res (i:=5) rfl;have fz:=fun z=>aJ X5.out.res z) | fail
  all_goals go_wp2
  all_goals exact gG X5.out.put.1 rfl rfl rfl ⟨rfl,X5.out.put.2⟩
 | true=>
  go_enter Tryz.func43,Tryz.ntmps43
  go_upto_region 1 with fail
  first | go_region_with (go_at_call 67;first |((with_reducible refine(CU.out _).mono ?_);rintro e w6 ⟨rfl,h6⟩;have X6:=aB (X5.out.kept h6);clear h6;have n0:=X6.out.box.six.1;have n1:=X6.out.box.six.2.1;have n2:=X6.out.box.six.2.2.1;have n3:=X6.out.box.six.2.2.2.1;have n4:=X6.out.box.six.2.2.2.2.1;have n5:=X6.out.box.six.2.2.2.2.2;simp only [a7] at n1 n2 n3 n4 n5;obtain⟨k0,k1,k2,k3,k4,k5⟩:=X6.out.kid;have r0:=aA X6.out.res (i:=0) rfl;have r1:=aA X6.out.res (i:=1) rfl;have r2:=aA X6.out.res (i:=2) rfl;have r3:=aA X6.out.res (i:=3) rfl;have r4:=aA X6.out.res (i:=4) rfl;have r5:=aA X6.out.res (i:=5) rfl;have fz:=fun z=>aJ X6.out.res z) |((with_reducible refine(CA.out _).mono ?_);rintro e w5 ⟨rfl,h5⟩;have X5:=aB (X0.out.kept ((Below.refl _ _).drew.trans h5));clear h5;have n0:=X5.out.box.six.1;have n1:=X5.out.box.six.2.1;have n2:=X5.out.box.six.2.2.1;have n3:=X5.out.box.six.2.2.2.1;have n4:=X5.out.box.six.2.2.2.2.1;have n5:=X5.out.box.six.2.2.2.2.2;simp only [a7] at n1 n2 n3 n4 n5;obtain⟨k0,k1,k2,k3,k4,k5⟩:=X5.out.kid;have r0:=aA X5.out.res (i:=0) rfl;have r1:=aA X5.out.res (i:=1) rfl;have r2:=aA X5.out.res (i:=2) rfl;have r3:=aA X5.out.res (i:=3) rfl;have r4:=aA X5.out.res (i:=4) rfl;have r5:=aA X5.out.res (i:=5) rfl;have fz:=fun z=>aJ X5.out.res z)) | fail
  all_goals go_wp2
  all_goals exact gG X6.out.put.1 rfl rfl rfl ⟨rfl,X6.out.put.2⟩
end
noncomputable def rlR (a b:Int) (x:Ps):Nat->Option Ps
 | 0=>if a=1/\b=1 then some x else none
 | 1=>if a=0/\b=-1/\kB x=true then some x else none
 | 2=>if b=0/\grs x=0 then some (.row []) else none
 | 3=>if isE x then some (.row []) else none
 | _+4=>none
noncomputable def rlB (l:List Ps):Nat->Option Ps
 | 0=>none
 | 1=>none
 | 2=>none
 | 3=>none
 | 4=>if l.any isE then some (mkB (l.filter fun x=>!isE x)) else none
 | _+5=>none
noncomputable def rlA (l:List Ps):Nat->Option Ps
 | 0=>none
 | 1=>none
 | 2=>none
 | 3=>none
 | 4=>none
 | 5=>if 2<=(l.filter isS).length then some (mkP (bT (unC ((l.filter isS).flatMap rsP)) false l)) else none
 | 6=>if (aT [] l).length=l.length then none else some (mkP (aT [] l))
 | _+7=>none
noncomputable def rl (j:Nat):Ps->Option Ps
 | .rep a b x=>rlR a b x j
 | .row l=>rlB l j
 | .alt l=>rlA l j
 | .lf _ _ _=>none
 | .grp _ _=>none
def rk(j:Nat):Int:=if j<4 then 9 else if j=4 then 5 else 6
theorem nJ{z:Ps}(h:Nd z)(e:z.kd=9):∃ a b x,z=.rep a b x:=by
 cases z with
 | lf k n rs=>have:=h.sh;simp only [shp] at this;simp only [Ps.kd] at e;omega
 | grp n y=>simp [Ps.kd] at e
 | rep a b x=>exact⟨a,b,x,rfl⟩
 | row l=>simp only [Ps.kd] at e;split at e <;> omega
 | alt l=>simp [Ps.kd] at e
theorem aR8{z:Ps}(h:Nd z)(e:z.kd=5):∃ l,z=.row l/\l≠[]:=by
 cases z with
 | lf k n rs=>have:=h.sh;simp only [shp] at this;simp only [Ps.kd] at e;omega
 | grp n y=>simp [Ps.kd] at e
 | rep a b x=>simp [Ps.kd] at e
 | row l=>exact⟨l,rfl,fun q=>by subst q;simp [Ps.kd] at e⟩
 | alt l=>simp [Ps.kd] at e
theorem tQ{z:Ps}(h:Nd z)(e:z.kd=6):∃ l,z=.alt l:=by
 cases z with
 | lf k n rs=>have:=h.sh;simp only [shp] at this;simp only [Ps.kd] at e;omega
 | grp n y=>simp [Ps.kd] at e
 | rep a b x=>simp [Ps.kd] at e
 | row l=>simp only [Ps.kd] at e;split at e <;> omega
 | alt l=>exact⟨l,rfl⟩
theorem gY{z:Ps}{j:Nat}(h:z.kd≠rk j):rl j z=none:=by
 unfold rk at h
 cases z with
 | lf k n rs=>rfl
 | grp n y=>rfl
 | rep a b x=>
  simp only [Ps.kd] at h
  match j,h with
  | 0,h=>simp at h
  | 1,h=>simp at h
  | 2,h=>simp at h
  | 3,h=>simp at h
  | j+4,_=>rfl
 | row l=>
  match j,h with
  | 0,_=>rfl
  | 1,_=>rfl
  | 2,_=>rfl
  | 3,_=>rfl
  | 4,h=>
   have:l=[]:=by
    cases l with
    | nil=>rfl
    | cons=>simp [Ps.kd] at h
   subst this
   rfl
  | j+5,_=>rfl
 | alt l=>
  simp only [Ps.kd] at h
  match j,h with
  | 0,_=>rfl
  | 1,_=>rfl
  | 2,_=>rfl
  | 3,_=>rfl
  | 4,_=>rfl
  | j+5,h=>simp at h
theorem zJ{z z':Ps}{j:Nat}(h:∀ i,i<j->rl i z=none)(e:rl j z=some z'):stp unC z=some z':=by
 cases z with
 | lf k n rs=>cases e
 | grp n y=>cases e
 | rep a b x=>
  have no:∀ {p:Prop} [Decidable p] {v:Ps},(if p then some v else none)=none->¬ p:=fun {p} _ {v} q hp=>by rw [if_pos hp] at q;cases q
  have yes:∀ {p:Prop} [Decidable p] {v:Ps},(if p then some v else none)=some z'->p/\v=z':=fun {p} _ {v} q=>by
   by_cases hp:p
   ·rw [if_pos hp] at q;cases q;exact⟨hp,rfl⟩
   ·rw [if_neg hp] at q;cases q
  simp only [stp]
  match j,h,e with
  | 0,h,e=>
   obtain⟨h1,rfl⟩:=yes e
   rw [if_pos h1]
  | 1,h,e=>
   obtain⟨h1,rfl⟩:=yes e
   rw [if_neg (no (h 0 (by omega))),if_pos h1]
  | 2,h,e=>
   obtain⟨h1,rfl⟩:=yes e
   rw [if_neg (no (h 0 (by omega))),if_neg (no (h 1 (by omega))),if_pos h1]
  | 3,h,e=>
   obtain⟨h1,rfl⟩:=yes e
   rw [if_neg (no (h 0 (by omega))),if_neg (no (h 1 (by omega))),if_neg (no (h 2 (by omega))),if_pos h1]
  | j+4,h,e=>cases e
 | row l=>
  match j,e with
  | 0,e=>cases e
  | 1,e=>cases e
  | 2,e=>cases e
  | 3,e=>cases e
  | 4,e=>exact e
  | j+5,e=>cases e
 | alt l=>
  match j,h,e with
  | 0,_,e=>cases e
  | 1,_,e=>cases e
  | 2,_,e=>cases e
  | 3,_,e=>cases e
  | 4,_,e=>cases e
  | 5,_,e=>
   simp only [rl,rlA] at e
   simp only [stp]
   by_cases h2:2<=(l.filter isS).length
   ·rw [if_pos h2] at e ⊢;exact e
   ·rw [if_neg h2] at e;cases e
  | 6,h,e=>
   have h5:=h 5 (by omega)
   simp only [rl,rlA] at e h5
   simp only [stp]
   by_cases h2:2<=(l.filter isS).length
   ·rw [if_pos h2] at h5;cases h5
   ·rw [if_neg h2];exact e
  | j+7,_,e=>cases e
theorem aH2{z:Ps}(h:∀ i,i<7->rl i z=none):stp unC z=none:=by
 cases z with
 | lf k n rs=>rfl
 | grp n y=>rfl
 | rep a b x=>
  have no:∀ {p:Prop} [Decidable p] {v:Ps},(if p then some v else none)=none->¬ p:=fun {p} _ {v} q hp=>by rw [if_pos hp] at q;cases q
  simp only [stp]
  rw [if_neg (no (h 0 (by omega))),if_neg (no (h 1 (by omega))),if_neg (no (h 2 (by omega))),if_neg (no (h 3 (by omega)))]
 | row l=>exact h 4 (by omega)
 | alt l=>
  have h5:=h 5 (by omega)
  have h6:=h 6 (by omega)
  simp only [rl,rlA] at h5 h6
  simp only [stp]
  by_cases h2:2<=(l.filter isS).length
  ·rw [if_pos h2] at h5;cases h5
  ·rw [if_neg h2]
   exact h6
structure NS(c f:Bool)(z:Ps)(t:Tr):Prop where
 er:er t=te z
 nd:Nd z
 sg:∀ s∈pfl z,dD c f s
 sz:z.sz<=2000
theorem NS.tsz{c f:Bool}{z:Ps}{t:Tr}(h:NS c f z t):t.sz<=2000:=by rw [<- eF,h.er,eT];exact h.sz
theorem lL{t:Tr}{a b:Int}{x:Ps}(e:er t=te (.rep a b x)):t.f.k=9/\t.f.mn=a/\t.f.mx=b/\∃ u,t.ks=[u]/\er u=te x:=by
 rw [bQ,te] at e
 injection e with e1 e2 e3 e4 e5 e6
 refine⟨e1,e3,e4,?_⟩
 generalize t.ks=ks at e6
 match ks,e6 with
 | [],e6=>simp at e6
 | [u],e6=>exact⟨u,rfl,by simpa using e6⟩
 | u :: v :: r,e6=>simp at e6
theorem aO1{t:Tr}{l:List Ps}(hl:l≠[])(e:er t=te (.row l)):t.f.k=5/\t.ks.map er=l.map te:=by
 rw [bQ,te,if_neg (by cases l with | nil=>exact absurd rfl hl | cons=>simp),bJ] at e
 injection e with e1 e2 e3 e4 e5 e6
 exact⟨e1,e6⟩
theorem sQ{t:Tr}{l:List Ps}(e:er t=te (.alt l)):t.f.k=6/\t.ks.map er=l.map te:=by
 rw [bQ,te,bJ] at e
 injection e with e1 e2 e3 e4 e5 e6
 exact⟨e1,e6⟩
theorem uF:te (.row [])=.mk 1 0 0 0 [] []:=by rw [te];rfl
theorem aB2{x:Ps}(hw:wf x):(x.kd==1)=isE x:=by
 cases x with
 | lf k n rs=>have:=jM hw;simp only [Ps.kd,isE,a8];omega
 | grp n y=>rfl
 | rep a b y=>rfl
 | row l=>cases l <;> rfl
 | alt l=>rfl
theorem vM{u:Tr}{x:Ps}(hw:wf x)(e:er u=te x):kC u.f=kB x:=by
 have hk:u.f.k=x.kd:=by rw [<- cQ,e,cR]
 cases x with
 | rep a b y=>
  obtain⟨h1,h2,h3,-⟩:=lL e
  unfold kC kB
  rw [h1,h2,h3]
  rfl
 | lf k n rs=>
  have h1:=jM hw
  have h2:(k==9)=false:=by rw [a8];omega
  unfold kC kB
  rw [hk]
  simp only [Ps.kd,h2,Bool.false_and]
 | grp n y=>unfold kC kB;rw [hk];rfl
 | row l=>unfold kC kB;rw [hk];cases l <;> rfl
 | alt l=>unfold kC kB;rw [hk];rfl
theorem RSays.of{base:Nat}{w:World}{o:Option Er}{t':Tr}{b:Bool}{e:Ending}{w':World}(h1:e=.returned (.tuple #[.agg #[.int .i64 t'.f.k,.int .i64 t'.f.n,.int .i64 t'.f.mn,.int .i64 t'.f.mx,.slice t'.f.rq t'.f.rs.length t'.f.rc,.slice t'.f.kq t'.f.kl t'.f.kc],.bool b]))(h2:Below w.heap.size w w')(hb:o.isSome=b)(ht:TA w' t')(hf:Foot (fun k=>base<=k) t')(he:∀ x,o=some x->er t'=x):RSays base w o e w':=
 ⟨t'.f,by rw [hb];exact h1,h2,fun x hx=>⟨t',rfl,ht,hf,he x hx⟩⟩
theorem rP{N:Nat->Prop}{t u:Tr}(h:Foot N t)(hu:u∈t.ks):Foot N u:=cH h hu
theorem zD{c f:Bool}{z:Ps}{t:Tr}{V:World}{base:Nat}(h:NS c f z t)(ht:TA V t)(hf:Foot (fun k=>base<=k) t)(hk:z.kd=9):Calls Tryz.prog 42 #[.agg #[.int .i64 t.f.k,.int .i64 t.f.n,.int .i64 t.f.mn,.int .i64 t.f.mx,.slice t.f.rq t.f.rs.length t.f.rc,.slice t.f.kq t.f.kl t.f.kc]] V (RSays base V ((rl 0 z).map te)):=by
 obtain⟨a,b,x,rfl⟩:=nJ h.nd hk
 obtain⟨-,e2,e3,u,e4,e5⟩:=lL h.er
 have hu:u∈t.ks:=by rw [e4];simp
 refine(wR ht.tb e4).mono fun e w' ⟨h1,h2⟩=>RSays.of h1 h2 ?_ ((ht.kept h2).kid hu) (rP hf hu) fun y hy=>?_
 ·unfold aQ6
  rw [e2,e3]
  simp only [rl,rlR]
  by_cases q:a=1/\b=1
  ·rw [if_pos q,q.1,q.2];rfl
  ·rw [if_neg q]
   simp only [Option.map_none,Option.isSome_none]
   symm
   simpa using q
 ·simp only [rl,rlR] at hy
  by_cases q:a=1/\b=1
  ·rw [if_pos q] at hy;cases hy;exact e5
  ·rw [if_neg q] at hy;cases hy
theorem wD{c f:Bool}{z:Ps}{t:Tr}{V:World}{base:Nat}(h:NS c f z t)(ht:TA V t)(hf:Foot (fun k=>base<=k) t)(hk:z.kd=9):Calls Tryz.prog 43 #[.agg #[.int .i64 t.f.k,.int .i64 t.f.n,.int .i64 t.f.mn,.int .i64 t.f.mx,.slice t.f.rq t.f.rs.length t.f.rc,.slice t.f.kq t.f.kl t.f.kc]] V (RSays base V ((rl 1 z).map te)):=by
 obtain⟨a,b,x,rfl⟩:=nJ h.nd hk
 obtain⟨e1,e2,e3,u,e4,e5⟩:=lL h.er
 have hu:u∈t.ks:=by rw [e4];simp
 have hx:=vM (h.nd.kw x (by simp [Ps.kids])) e5
 refine(mP ht.tb e4).mono fun e w' ⟨h1,h2⟩=>RSays.of h1 h2 ?_ ((ht.kept h2).kid hu) (rP hf hu) fun y hy=>?_
 ·rw [hx]
  unfold kC
  rw [e1,e2,e3]
  simp only [rl,rlR]
  by_cases q:a=0/\b=-1/\kB x=true
  ·rw [if_pos q,q.1,q.2.1,q.2.2];rfl
  ·rw [if_neg q]
   simp only [Option.map_none,Option.isSome_none]
   symm
   simpa using q
 ·simp only [rl,rlR] at hy
  by_cases q:a=0/\b=-1/\kB x=true
  ·rw [if_pos q] at hy;cases hy;exact e5
  ·rw [if_neg q] at hy;cases hy
theorem aG6{c f:Bool}{z:Ps}{t:Tr}{V:World}{base:Nat}(h:NS c f z t)(ht:TA V t)(hk:z.kd=9):Calls Tryz.prog 44 #[.agg #[.int .i64 t.f.k,.int .i64 t.f.n,.int .i64 t.f.mn,.int .i64 t.f.mx,.slice t.f.rq t.f.rs.length t.f.rc,.slice t.f.kq t.f.kl t.f.kc]] V (RSays base V ((rl 2 z).map te)):=by
 obtain⟨a,b,x,rfl⟩:=nJ h.nd hk
 obtain⟨e1,e2,e3,u,e4,e5⟩:=lL h.er
 have hg:aI (pp [] t)=grs x:=by
  rw [oO,if_neg (by rw [e1];decide),e4]
  simp [mH x u e5 (h.nd.kw x (by simp [Ps.kids]))]
 have hl:¬ 2000<(pp [] t).length:=by rw [cL];have:=h.tsz;omega
 refine(aA5 ht.tb).mono fun e w' ⟨h1,h2⟩=>RSays.of (t':=.mk (dO 1) []) h1 h2 ?_ (qH _ _) (jJ _ _) fun y hy=>?_
 ·rw [if_neg hl,hg,e3]
  simp only [rl,rlR]
  by_cases q:b=0/\grs x=0
  ·rw [if_pos q,q.1,q.2];rfl
  ·rw [if_neg q]
   simp only [Option.map_none,Option.isSome_none]
   symm
   simp only [Bool.and_eq_false_iff,a8]
   omega
 ·simp only [rl,rlR] at hy
  by_cases q:b=0/\grs x=0
  ·rw [if_pos q] at hy;cases hy;rw [uF,bQ];rfl
  ·rw [if_neg q] at hy;cases hy
theorem pI{c f:Bool}{z:Ps}{t:Tr}{V:World}{base:Nat}(h:NS c f z t)(ht:TA V t)(hk:z.kd=9):Calls Tryz.prog 45 #[.agg #[.int .i64 t.f.k,.int .i64 t.f.n,.int .i64 t.f.mn,.int .i64 t.f.mx,.slice t.f.rq t.f.rs.length t.f.rc,.slice t.f.kq t.f.kl t.f.kc]] V (RSays base V ((rl 3 z).map te)):=by
 obtain⟨a,b,x,rfl⟩:=nJ h.nd hk
 obtain⟨-,-,-,u,e4,e5⟩:=lL h.er
 have hu:u.f.k=x.kd:=by rw [<- cQ,e5,cR]
 refine(lI ht.tb e4).mono fun e w' ⟨h1,h2⟩=>RSays.of (t':=.mk (dO 1) []) h1 h2 ?_ (qH _ _) (jJ _ _) fun y hy=>?_
 ·rw [hu,aB2 (h.nd.kw x (by simp [Ps.kids]))]
  simp only [rl,rlR]
  cases isE x <;> rfl
 ·simp only [rl,rlR] at hy
  cases hx:isE x with
  | true=>rw [hx,if_pos rfl] at hy;cases hy;rw [uF,bQ];rfl
  | false=>rw [hx,if_neg (by decide)] at hy;cases hy
theorem RSays.mono{base base':Nat}{w:World}{o o':Option Er}{e:Ending}{w':World}(h:RSays base' w o e w')(hb:base<=base')(ho:o=o'):RSays base w o' e w':=by
 subst ho
 obtain⟨f',h1,h2,h3⟩:=h
 exact⟨f',h1,h2,fun x hx=>by obtain⟨t',q1,q2,q3,q4⟩:=h3 x hx;exact⟨t',q1,q2,q3.mono fun k hk=>j4 hb hk,q4⟩⟩
theorem xC(m:List Ps):fR 5 (m.map te) (.mk 1 0 0 0 [] [])=te (mkB m):=by
 match m with
 | []=>exact uF.symm
 | [x]=>rfl
 | x :: y :: r=>show Er.mk 5 0 0 0 [] _=te (.row _);rw [te,if_neg (by simp),bJ];rfl
theorem oM{m:List Ps}(h:m≠[]):fR 6 (m.map te) (.mk 2 0 0 0 [] [])=te (mkP m):=by
 match m,h with
 | [x],_=>rfl
 | x :: y :: r,_=>show Er.mk 6 0 0 0 [] _=te (.alt _);rw [te,bJ];rfl
theorem aK6:∀ (ks:List Tr) (l:List Ps),ks.map er=l.map te->(∀ x∈l,gN x=true\/x=.row [])->(∀ x∈l,wf x)->(ks.flatMap dK).map er=(l.filter fun x=>!isE x).map te/\ks.any rL=l.any isE:=by
 intro ks
 induction ks with
 | nil=>intro l e _ _;cases l with
  | nil=>exact⟨rfl,rfl⟩
  | cons=>simp at e
 | cons u ks ih=>
  intro l e hi hw
  cases l with
  | nil=>simp at e
  | cons x l=>
   rw [l8,l8] at e
   injection e with e1 e2
   obtain⟨h1,h2⟩:=ih l e2 (fun y hy=>hi y (b6 _ hy)) (fun y hy=>hw y (b6 _ hy))
   have hk:u.f.k=x.kd:=by rw [<- cQ,e1,cR]
   have hE:=aB2 (hw x (g7 ..))
   have hu:rL u=isE x:=by unfold rL;rw [hk];exact hE
   rw [aAI,aAI,h2,hu,s4,o4,h1,r8]
   refine⟨?_,rfl⟩
   cases hx:isE x with
   | true=>
    rw [hx] at hE
    have:dK u=[]:=by unfold dK;rw [if_pos (by rw [hk];simpa using hE)]
    rw [this]
    simp
   | false=>
    rw [hx] at hE
    have h5:x.kd≠5:=by
     rcases hi x (g7 ..) with q | q
     ·cases x with
      | lf k n rs=>have:=jM (hw _ (g7 ..));simp only [Ps.kd];omega
      | grp n y=>simp [Ps.kd]
      | rep a b y=>simp [Ps.kd]
      | row l=>cases q
      | alt l=>cases q
     ·subst q;simp [Ps.kd]
    have:dK u=[u]:=by unfold dK;rw [if_neg (by rw [hk];simpa using hE),if_neg (by rw [hk];exact h5)]
    rw [this]
    simp [e1]
theorem qU{c f:Bool}{z:Ps}{t:Tr}{V:World}{base:Nat}(h:NS c f z t)(ht:TA V t)(hb:base<=V.heap.size)(hk:z.kd=5):Calls Tryz.prog 46 #[.agg #[.int .i64 t.f.k,.int .i64 t.f.n,.int .i64 t.f.mn,.int .i64 t.f.mx,.slice t.f.rq t.f.rs.length t.f.rc,.slice t.f.kq t.f.kl t.f.kc]] V (RSays base V ((rl 4 z).map te)):=by
 obtain⟨l,rfl,hl⟩:=aR8 h.nd hk
 obtain⟨-,e2⟩:=aO1 hl h.er
 obtain⟨h1,h2⟩:=aK6 t.ks l e2 h.nd.sh.2 h.nd.kw
 refine(mC ht h.tsz).mono fun e w' q=>q.mono hb ?_
 rw [h1,h2,xC]
 simp only [rl,rlB]
 split <;> rfl
theorem vN{m:List Ps}(h:∀ x∈m,jL x=true)(hw:∀ x∈m,wf x):((m.map te).flatMap fun e=>if e.kd=6 then e.ks else [e])=m.map te:=by
 induction m with
 | nil=>rfl
 | cons x m ih=>
  rw [l8,s4,ih (fun y hy=>h y (b6 _ hy)) (fun y hy=>hw y (b6 _ hy)),cR]
  have:x.kd≠6:=by
   have h1:=h x (g7 ..)
   cases x with
   | lf k n rs=>have:=jM (hw _ (g7 ..));simp only [Ps.kd];omega
   | grp n y=>simp [Ps.kd]
   | rep a b y=>simp [Ps.kd]
   | row l=>simp only [Ps.kd];split <;> omega
   | alt l=>cases h1
  rw [if_neg this]
  rfl
theorem pY{x:Ps}(hw:wf x):isS x=decide (x.kd=2):=by
 cases x with
 | lf k n rs=>simp only [isS,Ps.kd];rfl
 | grp n y=>rfl
 | rep a b y=>rfl
 | row l=>cases l <;> rfl
 | alt l=>rfl
theorem aG1:∀ (ks:List Tr) (l:List Ps),ks.map er=l.map te->(∀ x∈l,wf x)->(ks.filter fK).length=(l.filter isS).length/\((ks.filter fK).flatMap fun u=>u.f.rs)=(l.filter isS).flatMap rsP:=by
 intro ks
 induction ks with
 | nil=>intro l e _;cases l with
  | nil=>exact⟨rfl,rfl⟩
  | cons=>simp at e
 | cons u ks ih=>
  intro l e hw
  cases l with
  | nil=>simp at e
  | cons x l=>
   rw [l8,l8] at e
   injection e with e1 e2
   obtain⟨h1,h2⟩:=ih l e2 (fun y hy=>hw y (b6 _ hy))
   have hs:fK u=isS x:=by unfold fK;rw [pY (hw x (g7 ..)),<- cQ,e1,cR]
   rw [r8,r8,hs]
   cases hx:isS x with
   | true=>
    rw [if_pos rfl,if_pos rfl,i9,i9,h1,s4,s4,h2]
    refine⟨rfl,?_⟩
    congr 1
    obtain⟨n,rs,rfl⟩:=pZ hx
    rw [<- tV,e1,te]
    rfl
   | false=>rw [if_neg (by decide),if_neg (by decide)];exact⟨h1,h2⟩
theorem aG4(u:List (Int×Int)):∀ (l:List Ps) (s:Bool),(∀ x∈l,wf x)->(∀ n rs,.lf 2 n rs∈l->n=0)->kJ u s (l.map te)=(bT u s l).map te:=by
 intro l
 induction l with
 | nil=>intro s _ _;rfl
 | cons x l ih=>
  intro s hw h0
  have ih':=fun s=>ih s (fun y hy=>hw y (b6 _ hy)) (fun n rs hm=>h0 n rs (b6 _ hm))
  rw [l8,kJ,bT,cR]
  have hs:=pY (hw x (g7 ..))
  by_cases hk:x.kd=2
  ·have hx:isS x=true:=by rw [hs];simpa using hk
   rw [if_pos hk,if_pos hx]
   cases s with
   | true=>rw [if_pos rfl,if_pos rfl];exact ih' true
   | false=>
    rw [if_neg (by decide),if_neg (by decide),l8,ih' true]
    congr 1
    obtain⟨n,rs,rfl⟩:=pZ hx
    rw [h0 n rs (g7 ..),te,te]
    rfl
  ·have hx:¬ isS x=true:=by rw [hs];simpa using hk
   rw [if_neg hk,if_neg hx,l8,ih' s]
theorem zZ{l:List Ps}{k n:Int}{rs:List (Int×Int)}(h:.lf k n rs∈l):Sgn.lf k n rs∈pfl (.alt l):=by rw [pfl];exact jC h (by rw [pfl];simp)
theorem wE{c f:Bool}{z:Ps}{t:Tr}{V:World}{base:Nat}(h:NS c f z t)(ht:TA V t)(hb:base<=V.heap.size)(hk:z.kd=6):Calls Tryz.prog 47 #[.agg #[.int .i64 t.f.k,.int .i64 t.f.n,.int .i64 t.f.mn,.int .i64 t.f.mx,.slice t.f.rq t.f.rs.length t.f.rc,.slice t.f.kq t.f.kl t.f.kc]] V (RSays base V ((rl 5 z).map te)):=by
 obtain⟨l,rfl⟩:=tQ h.nd hk
 obtain⟨-,e2⟩:=sQ h.er
 obtain⟨h1,h2⟩:=aG1 t.ks l e2 h.nd.kw
 have hset:∀ n rs,.lf 2 n rs∈l->jR c f rs/\n=0:=fun n rs hm=>(h.sg _ (zZ hm)).1 rfl
 have hrl:∀ u∈t.ks,u.f.rs.length<=600000:=fun u hu=>by
  have hm:er u∈l.map te:=by rw [<- e2];exact m9.2 ⟨u,hu,rfl⟩
  obtain⟨x,hx,ex⟩:=m9.1 hm
  rw [<- tV,<- ex]
  cases x with
  | lf k n rs=>
   rw [te]
   show rs.length<=_
   by_cases hk2:k=2
   ·subst hk2
    exact kI (hset n rs hx).1.1
   ·rw [(h.sg _ (zZ hx)).2.1 hk2];simp
  | grp n y=>rw [te];simp [Er.rgs]
  | rep a b y=>rw [te];simp [Er.rgs]
  | row m=>rw [te];split <;> simp [Er.rgs]
  | alt m=>rw [te];simp [Er.rgs]
 refine(oY ht h.tsz hrl).mono fun e w' q=>q.mono hb ?_
 unfold aA1
 rw [h1,h2,e2]
 simp only [rl,rlA]
 by_cases hn:2<=(l.filter isS).length
 ·rw [if_pos hn,if_pos hn,aG4 _ l false h.nd.kw (fun n rs hm=>(hset n rs hm).2)]
  have hmem:∀ y∈bT (unC ((l.filter isS).flatMap rsP)) false l,wf y/\jL y=true:=fun y hy=>by
   rcases gD _ l false y hy with rfl | hy
   ·exact⟨by rw [wf];exact .inl rfl,rfl⟩
   ·exact⟨h.nd.kw y hy.1,h.nd.sh.2 y hy.1⟩
  rw [vN (fun y hy=>(hmem y hy).2) (fun y hy=>(hmem y hy).1),oM (qT _ l fun e=>by rw [e] at hn;simp at hn)]
  rfl
 ·rw [if_neg hn,if_neg hn];rfl
theorem aO0:∀ (ks:List Tr) (l:List Ps) (A:List Tr) (B:List Ps),ks.map er=l.map te->A.map er=B.map te->(∀ x∈l,wf x)->(∀ x∈B,wf x)->(twT A ks).map er=(aT B l).map te:=by
 intro ks
 induction ks with
 | nil=>intro l A B e hA _ _;cases l with
  | nil=>rw [twT,aT];exact hA
  | cons=>simp at e
 | cons u ks ih=>
  intro l A B e hA hw hB
  cases l with
  | nil=>simp at e
  | cons x l=>
   rw [l8,l8] at e
   injection e with e1 e2
   have hx:=hw x (g7 ..)
   have hw':∀ y∈l,wf y:=fun y hy=>hw y (b6 _ hy)
   have hiff:A.any (twB u)=true↔x∈B:=by
    rw [s8]
    constructor
    ·rintro ⟨v,hv,hs⟩
     have he:=(dU _ _).1 hs
     have hm:er v∈B.map te:=by rw [<- hA];exact m9.2 ⟨v,hv,rfl⟩
     obtain⟨y,hy,ey⟩:=m9.1 hm
     have:x=y:=yI x y hx (hB y hy) (by rw [<- e1,he,<- ey])
     subst this
     exact hy
    ·intro hm
     have hm2:te x∈A.map er:=by rw [hA];exact m9.2 ⟨x,hm,rfl⟩
     obtain⟨v,hv,ev⟩:=m9.1 hm2
     exact⟨v,hv,(dU _ _).2 (e1.trans ev.symm)⟩
   rw [twT,aT]
   by_cases hm:x∈B
   ·rw [if_pos (hiff.2 hm),if_pos hm];exact ih l A B e2 hA hw' hB
   ·rw [if_neg (fun q=>hm (hiff.1 q)),if_neg hm]
    exact ih l (A++[u]) (B++[x]) e2 (by rw [o4,o4,hA];simp [e1]) hw' (fun y hy=>by
     rcases j6.1 hy with q | q
     ·exact hB y q
     ·simp at q;subst q;exact hx)
theorem sX{c f:Bool}{z:Ps}{t:Tr}{V:World}{base:Nat}(h:NS c f z t)(ht:TA V t)(hb:base<=V.heap.size)(hk:z.kd=6):Calls Tryz.prog 48 #[.agg #[.int .i64 t.f.k,.int .i64 t.f.n,.int .i64 t.f.mn,.int .i64 t.f.mx,.slice t.f.rq t.f.rs.length t.f.rc,.slice t.f.kq t.f.kl t.f.kc]] V (RSays base V ((rl 6 z).map te)):=by
 obtain⟨l,rfl⟩:=tQ h.nd hk
 obtain⟨-,e2⟩:=sQ h.er
 have ht2:=aO0 t.ks l [] [] e2 rfl h.nd.kw (fun _ q=>by cases q)
 have hl1:(twT [] t.ks).length=(aT [] l).length:=by have:=congrArg List.length ht2;simpa using this
 have hl2:t.ks.length=l.length:=by have:=congrArg List.length e2;simpa using this
 have hmem:∀ y∈aT [] l,y∈l:=fun y hy=>((cZ l [] y).1 hy).resolve_left (fun q=>by cases q)
 refine(mL ht h.tsz).mono fun e w' q=>q.mono hb ?_
 unfold twO
 rw [hl1,hl2,sC,ht2,vN (fun y hy=>h.nd.sh.2 y (hmem y hy)) (fun y hy=>h.nd.kw y (hmem y hy))]
 simp only [rl,rlA]
 by_cases hn:(aT [] l).length=l.length
 ·rw [if_pos hn,if_pos hn];rfl
 ·rw [if_neg hn,if_neg hn,oM (mO fun e=>by have:=h.nd.sh.1;rw [e] at this;simp at this)];rfl
theorem aI0(l:List Ps):pfl (mkB l)=eC l:=rE l
theorem aO6{c f:Bool}{z z':Ps}(h:Nd z)(hs:∀ s∈pfl z,dD c f s)(e:stp unC z=some z'):∀ s∈pfl z',dD c f s:=by
 have hno:∀ s∈pfl (.row []),dD c f s:=fun s hs=>by rw [pfl,eC] at hs;cases hs
 cases z with
 | lf k n rs=>cases e
 | grp n x=>cases e
 | rep a b x=>
  have hx:∀ s∈pfl x,dD c f s:=fun s hq=>hs s (by rw [pfl];simp [hq])
  simp only [stp] at e
  by_cases h1:a=1/\b=1
  ·rw [if_pos h1] at e;cases e;exact hx
  rw [if_neg h1] at e
  by_cases h2:a=0/\b=-1/\kB x=true
  ·rw [if_pos h2] at e;cases e;exact hx
  rw [if_neg h2] at e
  by_cases h3:b=0/\grs x=0
  ·rw [if_pos h3] at e;cases e;exact hno
  rw [if_neg h3] at e
  by_cases h4:isE x=true
  ·rw [if_pos h4] at e;cases e;exact hno
  rw [if_neg h4] at e
  cases e
 | row l=>
  simp only [stp] at e
  by_cases ha:l.any isE=true
  ·rw [if_pos ha] at e;cases e
   intro s q
   rw [aI0] at q
   obtain⟨y,hy,q⟩:=(eB _ _).1 q
   exact hs s (by rw [pfl];exact(eB _ _).2 ⟨y,(o6.1 hy).1,q⟩)
  ·rw [if_neg ha] at e;cases e
 | alt l=>
  have hP:∀ m:List Ps,(∀ y∈m,∀ s∈pfl y,dD c f s)->∀ s∈pfl (mkP m),dD c f s:=by
   intro m hm s q
   match m,hm,q with
   | [],_,q=>rw [show mkP []=.alt [] from rfl,pfl,jW] at q;cases q
   | [x],hm,q=>exact hm x (by simp) s q
   | x :: y :: r,hm,q=>
    rw [show mkP (x :: y :: r)=.alt (x :: y :: r) from rfl,pfl] at q
    rcases kQ _ _ q with rfl | ⟨v,hv,q⟩
    ·trivial
    ·exact hm v hv s q
  have hl:∀ y∈l,∀ s∈pfl y,dD c f s:=fun y hy s q=>hs s (by rw [pfl];exact jC hy q)
  simp only [stp] at e
  by_cases h2:2<=(l.filter isS).length
  ·rw [if_pos h2] at e;cases e
   refine hP _ fun y hy=>?_
   rcases gD _ l false y hy with rfl | hy
   ·intro s q
    rw [pfl] at q
    simp at q
    subst q
    exact sW fun x hx=>⟨(o6.1 hx).2,hl x (o6.1 hx).1⟩
   ·exact hl y hy.1
  ·rw [if_neg h2] at e
   by_cases ht:(aT [] l).length=l.length
   ·rw [if_pos ht] at e;cases e
   ·rw [if_neg ht] at e;cases e
    exact hP _ fun y hy=>hl y (((cZ l [] y).1 hy).resolve_left (fun q=>by cases q))
theorem pW{t:Tr}{x:Ps}(e:er t=te x):t.ks.map er=x.kids.map te:=by
 rw [bQ] at e
 cases x with
 | lf k n rs=>rw [te] at e;injection e
 | grp n y=>rw [te] at e;injection e
 | rep a b y=>rw [te] at e;injection e
 | row l=>
  rw [te] at e
  by_cases h:l.isEmpty=true
  ·rw [if_pos h] at e;rw [List.isEmpty_iff.1 h];injection e
  ·rw [if_neg h,bJ] at e;injection e
 | alt l=>rw [te,bJ] at e;injection e
theorem aI9{t:Tr}{x:Ps}(e:er t=te x):Er.mk t.f.k t.f.n t.f.mn t.f.mx t.f.rs (x.kids.map fun y=>te (sim unC y))=te (fV unC x):=by
 rw [bQ] at e
 cases x with
 | lf k n rs=>rw [te] at e;injection e with e1 e2 e3 e4 e5 e6;rw [e1,e2,e3,e4,e5];show _=te (.lf k n rs);rw [te];rfl
 | grp n y=>rw [te] at e;injection e with e1 e2 e3 e4 e5 e6;rw [e1,e2,e3,e4,e5];show _=te (.grp n _);rw [te];rfl
 | rep a b y=>rw [te] at e;injection e with e1 e2 e3 e4 e5 e6;rw [e1,e2,e3,e4,e5];show _=te (.rep a b _);rw [te];rfl
 | row l=>
  rw [te] at e
  by_cases h:l.isEmpty=true
  ·rw [if_pos h] at e;injection e with e1 e2 e3 e4 e5 e6;rw [e1,e2,e3,e4,e5,List.isEmpty_iff.1 h];show _=te (.row []);rw [uF];rfl
  ·rw [if_neg h,bJ] at e
   injection e with e1 e2 e3 e4 e5 e6
   rw [e1,e2,e3,e4,e5]
   show _=te (.row (l.map (sim unC)))
   rw [te,if_neg (by simpa using h),bJ,List.map_map]
   rfl
 | alt l=>
  rw [te,bJ] at e
  injection e with e1 e2 e3 e4 e5 e6
  rw [e1,e2,e3,e4,e5]
  show _=te (.alt (l.map (sim unC)))
  rw [te,bJ,List.map_map]
  rfl
theorem pM{x y:Ps}(h:y∈x.kids){s:Sgn}(hs:s∈pfl y):s∈pfl x:=by
 cases x with
 | lf k n rs=>cases h
 | grp n k=>simp [Ps.kids] at h;subst h;rw [pfl];simp [hs]
 | rep a b k=>simp [Ps.kids] at h;subst h;rw [pfl];simp [hs]
 | row l=>rw [pfl];exact(eB l s).2 ⟨y,h,hs⟩
 | alt l=>rw [pfl];exact jC h hs
theorem yW{c f:Bool}{x:Ps}(h:∀ s∈pfl x,dD c f s):∀ s∈pfl (sim unC x),dD c f s:=
 sU unC (P:=dD c f) True.intro (fun _ hl _=>sW hl) x h
theorem aJ1{c f:Bool}{x:Ps}(h:∀ s∈pfl x,dD c f s):∀ s∈pfl (fV unC x),dD c f s:=by
 have hk:∀ y∈x.kids,∀ s∈pfl (sim unC y),dD c f s:=fun y hy=>yW fun s hs=>h s (pM hy hs)
 cases x with
 | lf k n rs=>exact h
 | grp n y=>
  intro s hs
  simp only [fV] at hs
  rw [pfl] at hs
  rcases n7.1 hs with rfl | hs
  ·trivial
  ·rcases j6.1 hs with hs | hs
   ·exact hk y (by simp [Ps.kids]) s hs
   ·simp at hs;subst hs;trivial
 | rep a b y=>
  intro s hs
  simp only [fV] at hs
  rw [pfl] at hs
  rcases j6.1 hs with hs | hs
  ·exact hk y (by simp [Ps.kids]) s hs
  ·simp at hs;subst hs;exact h _ (by rw [pfl];simp)
 | row l=>
  intro s hs
  simp only [fV] at hs
  rw [pfl] at hs
  obtain⟨v,hv,hs⟩:=(eB _ _).1 hs
  obtain⟨y,hy,rfl⟩:=m9.1 hv
  exact hk y hy s hs
 | alt l=>
  intro s hs
  simp only [fV] at hs
  rw [pfl] at hs
  rcases kQ _ _ hs with rfl | ⟨v,hv,hs⟩
  ·trivial
  ·obtain⟨y,hy,rfl⟩:=m9.1 hv
   exact hk y hy s hs
theorem aJ0(x:Ps):(fV unC x).sz<=x.sz:=by
 have hl:∀ l:List Ps,bR (l.map (sim unC))<=bR l:=by
  intro l
  induction l with
  | nil=>exact o5 _
  | cons y l ih=>rw [l8,bR,bR];have:=mU unC y;omega
 cases x with
 | lf k n rs=>exact o5 _
 | grp n y=>simp only [fV];rw [Ps.sz,Ps.sz];have:=mU unC y;omega
 | rep a b y=>simp only [fV];rw [Ps.sz,Ps.sz];have:=mU unC y;omega
 | row l=>simp only [fV];rw [Ps.sz,Ps.sz];have:=hl l;omega
 | alt l=>simp only [fV];rw [Ps.sz,Ps.sz];have:=hl l;omega
def RL(W:World)(rb:Nat):Prop:=W.heap[rb]?=some (.cells #[.int .i64 9,.func (.func 42) #[] #[],.int .i64 9,.func (.func 43) #[] #[],.int .i64 9,.func (.func 44) #[] #[],.int .i64 9,.func (.func 45) #[] #[],.int .i64 5,.func (.func 46) #[] #[],.int .i64 6,.func (.func 47) #[] #[],.int .i64 6,.func (.func 48) #[] #[]] 91 (0,0))
structure SpS(w:World)(s0 b bz rb:Nat)(f:Fl)(nk old:List Tr)(W:World):Prop where
 box:BoxN W b f
 res:W.heap[bz]?=some (.cells #[.int .i64 0,.int .i64 0,.int .i64 0,.int .i64 0,.slice none 0 0,.slice none 0 0] 25 (0,0))
 rr:RR s0 W (.slice f.rq f.rs.length f.rc) f.rs
 bel:Below w.heap.size w W
 rul:RL W rb
 row:(nk++old=[]/\f.kq=none/\f.kc=0)\/∃ g,f.kq=some ⟨g,0,none⟩/\b<g/\bz<g/\KR W g (nk++old)/\∀ u∈nk,Foot (fun k=>g<k) u
 new:∀ u∈nk,TA W u
theorem SpS.kept{w W W':World}{s0 b bz rb:Nat}{f:Fl}{nk old:List Tr}(h:SpS w s0 b bz rb f nk old W)(hb:Below W.heap.size W W'):SpS w s0 b bz rb f nk old W':=
 ⟨(hb.block _ (aC h.box)).trans h.box,(hb.block _ (aC h.res)).trans h.res,h.rr.kept hb,aF h.bel hb lz9,(hb.block _ (aC h.rul)).trans h.rul,
  h.row.imp id fun⟨g,h1,h2,h3,h4,h5⟩=>⟨g,h1,h2,h3,h4.kept hb,h5⟩,fun u hu=>(h.new u hu).kept hb⟩
theorem SpS.at{w W:World}{s0 b bz rb:Nat}{f:Fl}{nk old:List Tr}(h:SpS w s0 b bz rb f nk old W)(ho:old≠[]):∃ g,f.kq=some ⟨g,0,none⟩/\b<g/\bz<g/\KR W g (nk++old)/\∀ u∈nk,Foot (fun k=>g<k) u:=by
 rcases h.row with⟨h1,-⟩ | h1
 ·exact absurd (List.append_eq_nil_iff.1 h1).2 ho
 ·exact h1
theorem SpS.next{w W:World}{s0 b bz rb g j:Nat}{f:Fl}{nk old:List Tr}{t:Tr}(h:SpS w s0 b bz rb f nk old W)(hg:f.kq=some ⟨g,0,none⟩)(hj:nk.length=j)(ho:old≠[])(hrb:rb<w.heap.size)(hwg:w.heap.size<=b)(ht:TA W t)(hf:Foot (fun k=>g<k) t) :
  SpS w s0 b bz rb f (nk++[t]) old.tail (bH W g (j*6) t.f):=by
 obtain⟨g',e,hb,hz,hr,hn⟩:=h.at ho
 rw [hg] at e
 cases e
 have F:=cE W g (j*6) t.f
 have hl:j<(nk++old).length:=by
  rw [j3]
  cases old with
  | nil=>exact absurd rfl ho
  | cons x r=>simp;omega
 obtain⟨cur,hcur⟩:=hr.blk
 have K:CKeep (fun k=>g<k) W (bH W g (j*6) t.f):=F.ckeep (fun k e z=>by omega)
 refine⟨(F.block _ (aC h.box) (by omega)).trans h.box,(F.block _ (aC h.res) (by omega)).trans h.res,h.rr.fr F (fun k hk e=>?_),aX h.bel F lz9 (fun k e=>by omega),(F.block _ (aC h.rul) (by omega)).trans h.rul,.inr ⟨g,hg,hb,hz,?_,fun u hu=>?_⟩,fun u hu=>?_⟩
 ·subst e
  exact dF h.rr hcur (by decide) hk
 ·have:=hr.set hl t
  cases old with
  | nil=>exact absurd rfl ho
  | cons x r=>
   rw [List.set_append_right _ _ (by omega),hj,u1,i4] at this
   rw [j7]
   exact this
 ·rcases j6.1 hu with q | q
  ·exact hn u q
  ·simp at q;subst q;exact hf
 ·rcases j6.1 hu with q | q
  ·exact(h.new u q).ckN (hn u q) K
  ·simp at q
   subst q
   exact ht.ckN hf K
theorem SpS.tree{w W:World}{s0 b bz rb:Nat}{f:Fl}{nk:List Tr}(h:SpS w s0 b bz rb f nk [] W)(hs:bz<s0)(hl:f.kl=nk.length)(hc:nk.length<=f.kc)(hm:f.kc<=maxLen)(hF:Fit f.rs)(hn:f.rs.length+3<=8796093022208) :
  TA W (.mk f nk)/\Foot (fun k=>bz<k) (.mk f nk):=by
 have hrow:=h.row
 rw [l9] at hrow
 constructor
 ·refine(aL _).2 ⟨⟨h.rr.arg,?_,hF,hn,NO.rows h.rr (fun a e _=>?_)⟩,(aO _).2 fun u hu=>h.new u hu⟩
  ·show ArgK W (.slice f.kq f.kl f.kc) nk
   rcases hrow with⟨h1,h2,h3⟩ | ⟨g,h1,-,-,h2,-⟩
   ·subst h1
    rw [h2,hl]
    exact .inl ⟨none,f.kc,rfl,rfl,fun _=>h3⟩
   ·rw [h1,hl]
    exact h2.arg hc hm
  ·rcases hrow with⟨-,h2,-⟩ | ⟨g,h1,-,-,h2,-⟩
   ·rw [h2] at e;cases e
   ·rw [h1] at e;cases e;exact h2.blk
 ·refine(aL _).2 ⟨⟨fun a e hz=>?_,fun a e hz=>?_⟩,(aO _).2 fun u hu=>?_⟩
  ·have e':f.rq=some a:=e
   have:=(aG h.rr (g:=a.block) (by rw [e'];rfl)).1
   omega
  ·have e':f.kq=some a:=e
   rcases hrow with⟨-,h2,-⟩ | ⟨g,h1,-,h3,-,-⟩
   ·rw [h2] at e';cases e'
   ·rw [h1] at e';cases e';exact h3
  ·rcases hrow with⟨h1,-,-⟩ | ⟨g,-,-,h3,-,h4⟩
   ·have hu':u∈nk:=hu
    rw [h1] at hu';cases hu'
   ·exact(h4 u hu).mono fun k hk=>by omega
structure SI(w:World)(b bz rb:Nat)(c f:Bool)(fin:Ps)(z:Ps)(t:Tr)(W:World):Prop where
 box:BoxN W b t.f
 res:W.heap[bz]?=some (.cells #[.int .i64 0,.int .i64 0,.int .i64 0,.int .i64 0,.slice none 0 0,.slice none 0 0] 25 (0,0))
 bel:Below w.heap.size w W
 rul:RL W rb
 ta:TA W t
 ft:Foot (fun k=>bz<k) t
 ns:NS c f z t
 fin:nf unC z=fin
theorem SI.kept{w W W':World}{b bz rb:Nat}{c f:Bool}{fin z:Ps}{t:Tr}(h:SI w b bz rb c f fin z t W)(hb:Below W.heap.size W W'):SI w b bz rb c f fin z t W':=
 ⟨(hb.block _ (aC h.box)).trans h.box,(hb.block _ (aC h.res)).trans h.res,aF h.bel hb lz9,(hb.block _ (aC h.rul)).trans h.rul,h.ta.kept hb,h.ft,h.ns,h.fin⟩
theorem SI.step{w W:World}{b bz rb j:Nat}{c f:Bool}{fin z z':Ps}{t t':Tr}(h:SI w b bz rb c f fin z t W)(h0:∀ i,i<j->rl i z=none)(h1:rl j z=some z')(ht:TA W t')(hf:Foot (fun k=>bz<k) t')(he:er t'=te z')(hbz:b<bz)(hrb:rb<w.heap.size)(hwb:w.heap.size<=b):SI w b bz rb c f fin z' t' (bH W b 0 t'.f)/\z'.sz<z.sz:=by
 have hs:=zJ h0 h1
 obtain⟨s1,s2,s3⟩:=yN unC h.ns.nd hs
 have F:=cE W b 0 t'.f
 refine⟨⟨?_,(F.block _ (aC h.res) (by omega)).trans h.res,aX h.bel F lz9 (fun k e=>by omega),(F.block _ (aC h.rul) (by omega)).trans h.rul,ht.ckN hf (F.ckeep (fun k e z=>by omega)),hf,⟨he,s1,aO6 h.ns.nd h.ns.sg hs,by have:=h.ns.sz;omega⟩,by rw [s2];exact h.fin⟩,s3⟩
 have hb:=h.box
 unfold bH
 exact aM (aM (aM (aM (aM (aM hb 0 _) 1 _) 2 _) 3 _) 4 _) 5 _
end Go.Proofs.YtlamifbjklpdbaaGreat
