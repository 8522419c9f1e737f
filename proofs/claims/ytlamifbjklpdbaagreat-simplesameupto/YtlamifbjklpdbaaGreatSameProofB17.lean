/-
  Parts of the proof.
-/
import Derived.Test.YtlamifbjklpdbaaGreatSameProofA0
import Derived.Test.YtlamifbjklpdbaaGreatSameProofB16
set_option linter.unusedSimpArgs false
set_option maxRecDepth 100000
set_option maxHeartbeats 8000000
namespace Go.Proofs.YtlamifbjklpdbaaGreat
open Go Go.RowKit
def gI(k:Int)(l:List Er)(no:Er):Er:=match l with | []=>no | [x]=>x | x :: y :: r=>.mk k 0 0 0 [] (x :: y :: r)
def gB(k:Int):Fl:=⟨k,0,0,0,[],none,0,none,0,0⟩
theorem tI(W:World)(k:Int):TA W (.mk (gB k) []):=(aI _).2 ⟨⟨.inl ⟨none,0,rfl,rfl,fun _=>rfl⟩,.inl ⟨none,0,rfl,rfl,fun _=>rfl⟩,eM,by simp [Tr.f,gB],⟨fun a e=>(by cases e),fun a e=>(by cases e)⟩⟩,(aT _).2 fun u hu=>by cases hu⟩
theorem kN(N:Nat->Prop)(k:Int):Foot N (.mk (gB k) []):=(aI _).2 ⟨⟨fun a e=>(by cases e),fun a e=>(by cases e)⟩,(aT _).2 fun u hu=>by cases hu⟩
theorem lG{R:Ending->World->Prop}{a:Act}{W:World}{b:Nat}{f:Fl}(h:Six W b 0 f)(ha:a.tmps[6]?.getD undef=.pointer (some ⟨b,0,none⟩))(hd:a.defers=[])(hR:R (.returned (.agg #[.int .i64 f.k,.int .i64 f.n,.int .i64 f.mn,.int .i64 f.mx,.slice f.rq f.rs.length f.rc,.slice f.kq f.kl f.kc])) W):bodyPost Tryz.prog Tryz.f88 R .ret a W:=by
 obtain⟨z0,z1,z2,z3,z4,z5⟩:=h
 simp only [m7] at z1 z2 z3 z4 z5
 refine bodyPost_ret (v:=.agg #[.int .i64 f.k,.int .i64 f.n,.int .i64 f.mn,.int .i64 f.mx,.slice f.rq f.rs.length f.rc,.slice f.kq f.kl f.kc]) ?_ hd hR
 simp [results,Tryz.results88,go_sem,ha,z0,z1,z2,z3,z4,z5]
theorem hU{W:World}{bz:Nat}{t:Tr}(ht:TA W t)(hf:Foot (fun k=>bz<k) t)(hr:W.heap[bz]?=some (.cells #[.int .i64 0,.int .i64 0,.int .i64 0,.int .i64 0,.slice none 0 0,.slice none 0 0] 25 (0,0))) :
  Six (cD W bz 0 t.f) bz 0 t.f/\TA (cD W bz 0 t.f) t/\Fr (fun z=>z=bz) W (cD W bz 0 t.f):=by
 have F:=dP W bz 0 t.f
 refine⟨dT (f:=⟨0,0,0,0,[],none,0,none,0,0⟩) ⟨aB hr (i:=0) rfl,aB hr (i:=1) rfl,aB hr (i:=2) rfl,aB hr (i:=3) rfl,aB hr (i:=4) rfl,aB hr (i:=5) rfl⟩,ht.ckN hf (F.ckeep (fun k e z=>by omega)),F⟩
theorem uX{w:World}(kind k0:Int){q:Option Addr}{c:Nat}{ks:List Tr}(h:ArgK w (.slice q ks.length c) ks)(hta:∀ u∈ks,TA w u)(hsz:szs ks<1000000)(hown:∀ a,q=some a->ks≠[]->∃ cur,w.heap[a.block]?=some (.cells cur 25 (0,0))) :
  Calls Tryz.prog 88 #[.int .i64 kind,.slice q ks.length c,.agg #[.int .i64 k0,.int .i64 0,.int .i64 0,.int .i64 0,.slice none 0 0,.slice none 0 0]] w (jZ w (gI kind (ks.map er) (.mk k0 0 0 0 [] []))):=by
 have B0:Hid (Below w.heap.size w ((w.alloc (.cells #[.int .i64 k0,.int .i64 0,.int .i64 0,.int .i64 0,.slice none 0 0,.slice none 0 0] 25)).alloc (.cells #[.int .i64 0,.int .i64 0,.int .i64 0,.int .i64 0,.slice none 0 0,.slice none 0 0] 25))):=(bz9).alloc (by simp) _
 have N0:Hid (BoxN ((w.alloc (.cells #[.int .i64 k0,.int .i64 0,.int .i64 0,.int .i64 0,.slice none 0 0,.slice none 0 0] 25)).alloc (.cells #[.int .i64 0,.int .i64 0,.int .i64 0,.int .i64 0,.slice none 0 0,.slice none 0 0] 25)) w.heap.size (gB k0)):=(Below.heap_alloc _ _ _ (by simp)).trans (aD w _)
 have R0:Hid (((w.alloc (.cells #[.int .i64 k0,.int .i64 0,.int .i64 0,.int .i64 0,.slice none 0 0,.slice none 0 0] 25)).alloc (.cells #[.int .i64 0,.int .i64 0,.int .i64 0,.int .i64 0,.slice none 0 0,.slice none 0 0] 25)).heap[w.heap.size+1]?=some (.cells #[.int .i64 0,.int .i64 0,.int .i64 0,.int .i64 0,.slice none 0 0,.slice none 0 0] 25 (0,0))):=(by
  have:=aD (w.alloc (.cells #[.int .i64 k0,.int .i64 0,.int .i64 0,.int .i64 0,.slice none 0 0,.slice none 0 0] 25)) (.cells #[.int .i64 0,.int .i64 0,.int .i64 0,.int .i64 0,.slice none 0 0,.slice none 0 0] 25)
  rwa [v9] at this)
 obtain⟨X,hX⟩:∃ X,gI kind (ks.map er) (.mk k0 0 0 0 [] [])=X:=⟨_,rfl⟩
 rw [hX]
 have HX:=aA hX
 have HH:=aA h
 have HT:=aA hta
 have HW:=aA hown
 clear hX h hta hown
 go_enter Tryz.func88,Tryz.ntmps88
 go_upto_region 1 with fail
 generalize ((w.alloc (.cells #[.int .i64 k0,.int .i64 0,.int .i64 0,.int .i64 0,.slice none 0 0,.slice none 0 0] 25)).alloc (.cells #[.int .i64 0,.int .i64 0,.int .i64 0,.int .i64 0,.slice none 0 0,.slice none 0 0] 25))=W0 at B0 N0 R0 ⊢
 obtain⟨bz,hbz⟩:∃ bz,w.heap.size+1=bz:=⟨_,rfl⟩
 rw [hbz] at R0 ⊢
 have LZ:=aC R0.out
 match ks,HH,HT,hsz,HX,HW with
 | [],HH,HT,hsz,HX,HW=>
  obtain⟨n0,n1,n2,n3,n4,n5⟩:=N0.out.six
  simp only [m7,gB,List.length_nil] at n0 n1 n2 n3 n4 n5
  have r0:=aB R0.out (i:=0) rfl
  have r1:=aB R0.out (i:=1) rfl
  have r2:=aB R0.out (i:=2) rfl
  have r3:=aB R0.out (i:=3) rfl
  have r4:=aB R0.out (i:=4) rfl
  have r5:=aB R0.out (i:=5) rfl
  have fz:=fun z=>aK R0.out z
  have L9:=aA (hU (tI W0 k0) (kN (fun k=>bz<k) k0) R0.out)
  have X9:=aA L9.out.1
  have P9:=aA L9.out.2.2
  unfold cD at X9 P9
  simp only [Tr.f,gB] at X9 P9
  go_wp2
  refine lG X9.out rfl rfl ?_
  exact⟨.mk (gB k0) [],rfl,L9.out.2.1,kN _ _,by rw [<- HX.out,bY];rfl,bB B0.out P9.out lz9 (fun k e=>by omega)⟩
 | [u],HH,HT,hsz,HX,HW=>
  obtain⟨q',c',e,-,-,hx⟩:=HH.out.slice
  injection e with e1 _ e3
  subst e1 e3
  obtain⟨g,off,rfl,hg,six⟩:=hx 0 u rfl
  obtain⟨c0,c1,c2,c3,c4,c5⟩:=six.ck (CK.of_below B0.out) hg
  simp only [Nat.zero_mul,aAJ] at c0 c1 c2 c3 c4 c5
  have CP:=aA (rO ((HT.out u (by simp)).kept B0.out) (by rw [bE,cM] at hsz;omega))
  simp only [o7,List.length_nil,m7]
  clear six hx
  go_wp2_with (go_at_call 99;(with_reducible refine(CP.out).mono ?_);rintro e w5 ⟨t5,rfl,h51,h52,h53,h54⟩;have R5:w5.heap[bz]?=some (.cells #[.int .i64 0,.int .i64 0,.int .i64 0,.int .i64 0,.slice none 0 0,.slice none 0 0] 25 (0,0)):=(h54.block _ LZ).trans R0.out;have r0:=aB R5 (i:=0) rfl;have r1:=aB R5 (i:=1) rfl;have r2:=aB R5 (i:=2) rfl;have r3:=aB R5 (i:=3) rfl;have r4:=aB R5 (i:=4) rfl;have r5:=aB R5 (i:=5) rfl;have fz:=fun z=>aK R5 z;have L9:=aA (hU h51 (h52.mono (fun k hk=>o8 LZ hk)) R5);have X9:=aA L9.out.1;have P9:=aA L9.out.2.2;unfold cD at X9 P9;have Q5:=aA (⟨h52,h53,aG B0.out h54 lz9⟩:Foot (fun k=>W0.heap.size<=k) t5/\er t5=_/\Below w.heap.size w w5);clear h51 h52 h53 h54)
  refine lG X9.out rfl rfl ?_
  exact⟨t5,rfl,L9.out.2.1,Q5.out.1.mono (fun k hk=>o0 B0.out.size hk),by rw [Q5.out.2.1,<- HX.out];rfl,bB Q5.out.2.2 P9.out lz9 (fun k e=>by omega)⟩
 | u :: v :: r,HH,HT,hsz,HX,HW=>
  have TT:TA W0 (.mk ⟨kind,0,0,0,[],none,0,q,(u :: v :: r).length,c⟩ (u :: v :: r)):=(aI _).2 ⟨⟨.inl ⟨none,0,rfl,rfl,fun _=>rfl⟩,HH.out.ck (CK.of_below B0.out),eM,by simp [Tr.f],⟨fun a e=>(by cases e),fun a e z=>(by obtain⟨cur,y⟩:=HW.out a e z;exact⟨cur,(B0.out.block _ (aC y)).trans y⟩)⟩⟩,(aT _).2 fun y hy=>(HT.out y hy).kept B0.out⟩
  have CP:=aA (rO TT (by rw [dA];exact hsz))
  simp only [Tr.f,List.length_nil] at CP
  obtain⟨n,hn⟩:∃ n,(u :: v :: r).length=n:=⟨_,rfl⟩
  rw [hn] at CP ⊢
  have h0:((n:Int)==0)=false:=by simp at hn ⊢;omega
  have h1:((n:Int)==1)=false:=by simp at hn ⊢;omega
  clear hn TT
  go_wp2_with (go_at_call 99;(with_reducible refine(CP.out).mono ?_);rintro e w5 ⟨t5,rfl,h51,h52,h53,h54⟩;have R5:w5.heap[bz]?=some (.cells #[.int .i64 0,.int .i64 0,.int .i64 0,.int .i64 0,.slice none 0 0,.slice none 0 0] 25 (0,0)):=(h54.block _ LZ).trans R0.out;have r0:=aB R5 (i:=0) rfl;have r1:=aB R5 (i:=1) rfl;have r2:=aB R5 (i:=2) rfl;have r3:=aB R5 (i:=3) rfl;have r4:=aB R5 (i:=4) rfl;have r5:=aB R5 (i:=5) rfl;have fz:=fun z=>aK R5 z;have L9:=aA (hU h51 (h52.mono (fun k hk=>o8 LZ hk)) R5);have X9:=aA L9.out.1;have P9:=aA L9.out.2.2;unfold cD at X9 P9;have Q5:=aA (⟨h52,h53,aG B0.out h54 lz9⟩:Foot (fun k=>W0.heap.size<=k) t5/\er t5=_/\Below w.heap.size w w5);clear h51 h52 h53 h54)
  refine lG X9.out rfl rfl ?_
  exact⟨t5,rfl,L9.out.2.1,Q5.out.1.mono (fun k hk=>o0 B0.out.size hk),by rw [Q5.out.2.1,<- HX.out,bY];rfl,bB Q5.out.2.2 P9.out lz9 (fun k e=>by omega)⟩
def dX(t:Tr):List Tr:=if t.f.k=1 then [] else if t.f.k=5 then t.ks else [t]
def eP(t:Tr):List Tr:=if t.f.k=6 then t.ks else [t]
theorem eS(a b:List Tr):szs (a++b)=szs a+szs b:=by
 induction a with
 | nil=>rw [cM];simp
 | cons x a ih=>rw [t4,bE,bE,ih];omega
theorem gS{f:Tr->List Tr}(h:∀ t,szs (f t)<=t.sz)(l:List Tr):szs (l.flatMap f)<=szs l:=by
 induction l with
 | nil=>exact t8 _
 | cons x l ih=>rw [aAN,eS,bE];have:=h x;omega
theorem tG(t:Tr):szs (dX t)<=t.sz:=by
 unfold dX
 split
 ·rw [cM];omega
 ·split
  ·rw [dA];omega
  ·rw [bE,cM];omega
theorem tK(t:Tr):szs (eP t)<=t.sz:=by
 unfold eP
 split
 ·rw [dA];omega
 ·rw [bE,cM];omega
theorem gC(l:List Tr)(j:Nat):szs (l.take j)<=szs l:=by
 have:=eS (l.take j) (l.drop j)
 rw [aBG] at this
 omega
theorem eZ(l:List Tr):l.length<=szs l:=by
 induction l with
 | nil=>simp
 | cons x l ih=>rw [bE,o7];have:=dO x;omega
theorem aT6{W:World}{t u:Tr}(h:TA W t)(hu:u∈dX t):TA W u:=by
 unfold dX at hu
 split at hu
 ·cases hu
 ·split at hu
  ·exact h.kid hu
  ·simp at hu;subst hu;exact h
theorem aU3{W:World}{t u:Tr}(h:TA W t)(hu:u∈eP t):TA W u:=by
 unfold eP at hu
 split at hu
 ·exact h.kid hu
 ·simp at hu;subst hu;exact h
theorem kM{base:Nat}{w W W':World}{e:TypeId}{size n:Nat}{v:Value}{xs:List Value}(h:Below base w W)(hw:base<=w.heap.size)(ho:W.ownsRow base e size v n xs)(hg:W.grownBy W' v.ownBlock):Below base w W':=
 h.trans ⟨hg.os,hg.tape,hg.output,hg.size,fun k hk=>hg.block k (by have:=h.size;omega) (fun q=>by have:=(aF ho q.symm).1;omega)⟩
theorem oO{W:World}{base c:Nat}{q:Option Addr}{ks:List Tr}(h:W.ownsRow base 25 6 (.slice q ks.length c) ks.length (aV ks)):ArgK W (.slice q ks.length c) ks:=by
 rcases h.2 with⟨e,hn⟩ | ⟨g,cap,cur,e,h1,h2,h3,h4,-⟩
 ·obtain rfl:=aAD hn
  injection e with e1 _ e3
  subst e1 e3
  exact .inl ⟨none,0,rfl,rfl,fun _=>rfl⟩
 ·injection e with e1 _ e3
  subst e1 e3
  exact(KR.of_row h).arg h3 h4
theorem gV{W:World}{b:Nat}{f:Fl}(h:BoxN W b f):∀ j u,f.cells[j]?=some u->W.cell? ((⟨b,0,none⟩:Addr).add j)=some u:=fun j u hj=>by rw [tM];exact h.six.at hj
theorem aY6{R:Ending->World->Prop}{a:Act}{W:World}{b:Nat}{f:Fl}(h:Six W b 0 f)(ha:a.tmps[2]?.getD undef=.pointer (some ⟨b,0,none⟩))(hd:a.defers=[])(hR:R (.returned (.agg #[.int .i64 f.k,.int .i64 f.n,.int .i64 f.mn,.int .i64 f.mx,.slice f.rq f.rs.length f.rc,.slice f.kq f.kl f.kc])) W):bodyPost Tryz.prog Tryz.f71 R .ret a W:=by
 obtain⟨z0,z1,z2,z3,z4,z5⟩:=h
 simp only [m7] at z1 z2 z3 z4 z5
 refine bodyPost_ret (v:=.agg #[.int .i64 f.k,.int .i64 f.n,.int .i64 f.mn,.int .i64 f.mx,.slice f.rq f.rs.length f.rc,.slice f.kq f.kl f.kc]) ?_ hd hR
 simp [results,Tryz.results71,go_sem,ha,z0,z1,z2,z3,z4,z5]
theorem bP6{w:World}{q:Option Addr}{c:Nat}{l:List Tr}(h:ArgK w (.slice q l.length c) l)(hta:∀ u∈l,TA w u)(hsz:szs l<1000000) :
  Calls Tryz.prog 71 #[.slice q l.length c] w (jZ w (gI 5 ((l.flatMap dX).map er) (.mk 1 0 0 0 [] []))):=by
 obtain⟨t0,hi,hz0,hz1,hz2⟩:=aR gT
 have B0:Hid (Below w.heap.size w (w.alloc (.cells #[.int .i64 0,.int .i64 0,.int .i64 0,.int .i64 0,.slice none 0 0,.slice none 0 0] 25))):=bz9
 have R0:Hid ((w.alloc (.cells #[.int .i64 0,.int .i64 0,.int .i64 0,.int .i64 0,.slice none 0 0,.slice none 0 0] 25)).heap[w.heap.size]?=some (.cells #[.int .i64 0,.int .i64 0,.int .i64 0,.int .i64 0,.slice none 0 0,.slice none 0 0] 25 (0,0))):=aD w _
 obtain⟨X,hX⟩:∃ X,gI 5 ((l.flatMap dX).map er) (.mk 1 0 0 0 [] [])=X:=⟨_,rfl⟩
 rw [hX]
 have HX:=aA hX
 obtain⟨q',c',e,hml,-,hx⟩:=h.slice
 injection e with e1 _ e3
 subst e1 e3
 have hml':l.length<=9223372036854775807:=hml
 have HH:=aA hx
 have HT:=aA hta
 have hlz:=eZ l
 clear hX h hta hx hml
 go_enter Tryz.func71,Tryz.ntmps71
 go_upto_region 1 with fail
 generalize (w.alloc (.cells #[.int .i64 0,.int .i64 0,.int .i64 0,.int .i64 0,.slice none 0 0,.slice none 0 0] 25))=W0 at B0 R0 ⊢
 have LZ:=aC R0.out
 go_upto_region 2 with fail
 go_wp2
 go_loopw [8,3] (fun i s wr=>∃ (j:Nat) (qq:Option Addr) (cc:Nat),j<=l.length/\i=.int .i64 (j:Int)/\s=.slice qq ((l.take j).flatMap dX).length cc/\wr.ownsRow W0.heap.size 25 6 (.slice qq ((l.take j).flatMap dX).length cc) ((l.take j).flatMap dX).length (aV ((l.take j).flatMap dX))/\Below W0.heap.size W0 wr) (fun i _ _=>l.length-(intOf i).toNat)
 case atStart=>exact⟨0,none,0,o9 _,rfl,rfl,aAY _ _ _ _,Below.refl _ _⟩
 case round=>
  obtain⟨j,qq,cc,hj,rfl,rfl,hown,hbel⟩:=hrel
  have HO:=aA hown
  have HB:=aA hbel
  have HLE:((l.take j).flatMap dX).length<=1000000:=o0 (eZ _) (o0 (gS tG _) (by have:=gC l j;omega))
  clear hown hbel
  by_cases hjl:j<l.length
  ·have i0:(j:Int)<(l.length:Int):=by omega
   obtain⟨u,hu⟩:∃ u,l[j]?=some u:=⟨_,g9 hjl⟩
   obtain⟨g,off,hq,hg,six⟩:=HH.out j u hu
   have hin:u∈l:=n8 hu
   have BW:Below w.heap.size w wr:=aG B0.out HB.out lz9
   obtain⟨c0,c1,c2,c3,c4,c5⟩:=six.ck (CK.of_below BW) hg
   have HN:(l.take (j+1)).flatMap dX=(l.take j).flatMap dX++dX u:=by rw [s7,hu,aBM];simp
   have HNX:=aA HN
   have K4:Below wr.heap.size wr (wr.alloc (.cells #[.int .i64 u.f.k,.int .i64 u.f.n,.int .i64 u.f.mn,.int .i64 u.f.mx,.slice u.f.rq u.f.rs.length u.f.rc,.slice u.f.kq u.f.kl u.f.kc] 25)):=bz9
   have N4:Hid (BoxN (wr.alloc (.cells #[.int .i64 u.f.k,.int .i64 u.f.n,.int .i64 u.f.mn,.int .i64 u.f.mx,.slice u.f.rq u.f.rs.length u.f.rc,.slice u.f.kq u.f.kl u.f.kc] 25)) wr.heap.size u.f):=aD wr _
   have B4:Hid (Below W0.heap.size W0 (wr.alloc (.cells #[.int .i64 u.f.k,.int .i64 u.f.n,.int .i64 u.f.mn,.int .i64 u.f.mx,.slice u.f.rq u.f.rs.length u.f.rc,.slice u.f.kq u.f.kl u.f.kc] 25))):=HB.out.alloc HB.out.size _
   have O4:=aA (aH HO.out (Fr.of_below (S:=fun _=>False) K4) (fun _ _ z=>z))
   have T4:=aA (((HT.out u hin).kept BW).kept K4)
   have hlu:((l.take (j+1)).flatMap dX).length<=1000000:=o0 (eZ _) (o0 (gS tG _) (by have:=gC l (j+1);omega))
   rw [HN,o5] at hlu
   rw [hq]
   clear six hu K4 BW HN
   go_upto_region 5 with fail
   generalize (wr.alloc (.cells #[.int .i64 u.f.k,.int .i64 u.f.n,.int .i64 u.f.mn,.int .i64 u.f.mx,.slice u.f.rq u.f.rs.length u.f.rc,.slice u.f.kq u.f.kl u.f.kc] 25))=W4 at N4 B4 O4 T4 ⊢
   obtain⟨n0,n1,n2,n3,n4,n5⟩:=N4.out.six
   simp only [m7] at n1 n2 n3 n4 n5
   have hkl:=T4.out.node.kl
   rw [hkl] at n5
   have TK:=T4.out.node.k
   rw [hkl] at TK
   have HTK:=aA TK
   clear c0 c1 c2 c3 c4 c5 TK
   generalize hout:(l.take j).flatMap dX=out at *
   by_cases k1:u.f.k=1
   ·have e1:(u.f.k==1)=true:=by simpa using k1
    have hpk:=aA (show dX u=[] by unfold dX;simp [k1])
    clear k1
    go_wp2
    go_roundw
    case rel=>exact⟨j+1,qq,cc,by omega,by go_num,by rw [HNX.out,hpk.out,t9],by rw [HNX.out,hpk.out,t9];exact O4.out,B4.out⟩
    case measure=>simp only [intOf];omega
   ·have e1:(u.f.k==1)=false:=by simpa using k1
    by_cases k5:u.f.k=5
    ·have e5:(u.f.k==5)=true:=by simpa using k5
     have hpk:=aA (show dX u=u.ks by unfold dX;simp [k5])
     have hlu2:out.length+u.ks.length<=1000000:=by rw [<- hpk.out];exact hlu
     cases hkq:u.f.kq with
     | none=>
      rw [hkq] at n5 HTK
      have hks:u.ks=[]/\u.f.kc=0:=by
       rcases HTK.out with⟨p,cap,e,h1,h2⟩ | ⟨g',off',cap,e,-⟩
       ·injection e with e1 _ e3
        subst e1 e3
        exact⟨h1,h2 rfl⟩
       ·cases e
      rw [hks.1,hks.2,List.length_nil] at n5
      have HKS:=aA hks
      have HKQ:=aA hkq
      clear hks hkq hkl HTK k1 k5
      go_wp2_with (at_builtin;refine wpList_append_own_none rfl _ _ 23 rfl W0.heap.size 25 t0 6 cQ hi (.slice qq out.length cc) out.length (aV out) rfl O4.out rfl ?_)
      go_roundw
      case rel=>exact⟨j+1,qq,cc,by omega,by go_num,by rw [HNX.out,hpk.out,HKS.out.1,t9],by rw [HNX.out,hpk.out,HKS.out.1,t9];exact O4.out,B4.out⟩
      case measure=>simp only [intOf];omega
     | some ad=>
      rw [hkq] at n5 HTK
      have HKQ:=aA hkq
      clear hkq hkl k1 k5
      go_wp2_with (at_builtin;refine wpList_append_own_at _ rfl _ _ 23 rfl W0.heap.size 25 t0 (.agg #[.int .i64 0,.int .i64 0,.int .i64 0,.int .i64 0,.slice none 0 0,.slice none 0 0]) 6 80 cQ hi hz0 hz1 hz2 rfl (by decide) (.slice qq out.length cc) out.length (aV out) rfl O4.out ad u.ks.length u.f.kc (aV u.ks) rfl (by rw [fA]) HTK.out.news (lR u.ks) (by unfold maxLen;omega) (by omega) B4.out.size ?_;intro v' w6 hown' hgrow _ _;obtain⟨q6,cap6,rfl⟩:=aQ hown';have O6:=aA hown';have B6:Hid (Below W0.heap.size W0 w6):=kM B4.out lz9 O4.out hgrow;clear hown' hgrow)
      go_roundw
      case rel=>exact⟨j+1,q6,cap6,by omega,by go_num,by rw [HNX.out,hpk.out,o5],by rw [HNX.out,hpk.out,dM,o5];exact O6.out,B6.out⟩
      case measure=>simp only [intOf];omega
    ·have e5:(u.f.k==5)=false:=by simpa using k5
     have hpk:=aA (show dX u=[u] by unfold dX;simp [k1,k5])
     have hlu2:out.length+1<=1000000:=by have:=hlu;rw [hpk.out] at this;exact this
     have K5:Below W4.heap.size W4 (W4.alloc (.cells #[.int .i64 u.f.k,.int .i64 u.f.n,.int .i64 u.f.mn,.int .i64 u.f.mx,.slice u.f.rq u.f.rs.length u.f.rc,.slice u.f.kq u.f.kl u.f.kc] 25)):=bz9
     have N5:=aA (gV (aD W4 (.cells #[.int .i64 u.f.k,.int .i64 u.f.n,.int .i64 u.f.mn,.int .i64 u.f.mx,.slice u.f.rq u.f.rs.length u.f.rc,.slice u.f.kq u.f.kl u.f.kc] 25)))
     have O5:=aA (aH O4.out (Fr.of_below (S:=fun _=>False) K5) (fun _ _ z=>z))
     have B5:Hid (Below W0.heap.size W0 (W4.alloc (.cells #[.int .i64 u.f.k,.int .i64 u.f.n,.int .i64 u.f.mn,.int .i64 u.f.mx,.slice u.f.rq u.f.rs.length u.f.rc,.slice u.f.kq u.f.kl u.f.kc] 25))):=aG B4.out K5 lz9
     rw [<- hkl] at n5
     clear hkl K5
     go_wp2_with (at_builtin;refine wpList_append_own_at _ rfl _ _ 23 rfl W0.heap.size 25 t0 (.agg #[.int .i64 0,.int .i64 0,.int .i64 0,.int .i64 0,.slice none 0 0,.slice none 0 0]) 6 80 cQ hi hz0 hz1 hz2 rfl (by decide) (.slice qq out.length cc) out.length (aV out) rfl O5.out ⟨W4.heap.size,0,none⟩ 1 1 u.f.cells rfl rfl N5.out (fun v hv=>by simp [Fl.cells] at hv;rcases hv with rfl | rfl | rfl | rfl | rfl | rfl <;> rfl) (by unfold maxLen;omega) (by omega) B5.out.size ?_;intro v' w6 hown' hgrow _ _;obtain⟨q6,cap6,rfl⟩:=aQ hown';have O6:=aA hown';have B6:Hid (Below W0.heap.size W0 w6):=kM B5.out lz9 O5.out hgrow;clear hown' hgrow)
     go_roundw
     case rel=>exact⟨j+1,q6,cap6,by omega,by go_num,by rw [HNX.out,hpk.out,o5];rfl,by rw [HNX.out,hpk.out,dM,o5,show aV [u]=u.f.cells by simp [aV]];exact O6.out,B6.out⟩
     case measure=>simp only [intOf];omega
  ·have i0:¬ (j:Int)<(l.length:Int):=by omega
   have he:(l.take j).flatMap dX=l.flatMap dX:=by rw [o4 (by omega)]
   have JN:=aA (uX 5 1 (oO HO.out) (fun u hu=>(by
    obtain⟨x,hx,hux⟩:=aBJ.1 hu
    exact((aT6 (HT.out x (aAS hx)) hux).kept B0.out).kept HB.out)) (aBA (o0 (gS tG _) (gC l j)) hsz) (fun a e z=>(aF HO.out (g:=a.block) (by rw [e];rfl)).2.2))
   rw [he] at JN
   have hlen:((l.take j).flatMap dX).length=(l.flatMap dX).length:=by rw [he]
   rw [hlen]
   clear he hlen HO HLE
   generalize l.flatMap dX=out at JN HX ⊢
   go_wp2_with (go_at_call 88;(with_reducible refine(JN.out).mono ?_);rintro e w5 ⟨t5,rfl,h51,h52,h53,h54⟩;have R5:w5.heap[w.heap.size]?=some (.cells #[.int .i64 0,.int .i64 0,.int .i64 0,.int .i64 0,.slice none 0 0,.slice none 0 0] 25 (0,0)):=(h54.block _ (o8 LZ HB.out.size)).trans ((HB.out.block _ LZ).trans R0.out);have r0:=aB R5 (i:=0) rfl;have r1:=aB R5 (i:=1) rfl;have r2:=aB R5 (i:=2) rfl;have r3:=aB R5 (i:=3) rfl;have r4:=aB R5 (i:=4) rfl;have r5:=aB R5 (i:=5) rfl;have fz:=fun z=>aK R5 z;have L9:=aA (hU h51 (h52.mono (fun k hk=>o8 LZ (o0 HB.out.size hk))) R5);have X9:=aA L9.out.1;have P9:=aA L9.out.2.2;unfold cD at X9 P9;have Q5:=aA (⟨h52,h53,aG (aG B0.out HB.out lz9) h54 lz9⟩:Foot (fun k=>wr.heap.size<=k) t5/\er t5=_/\Below w.heap.size w w5);clear h51 h52 h53 h54)
   refine aY6 X9.out rfl rfl ?_
   exact⟨t5,rfl,L9.out.2.1,Q5.out.1.mono (fun k hk=>o0 B0.out.size (o0 HB.out.size hk)),by rw [Q5.out.2.1,<- HX.out],bB Q5.out.2.2 P9.out lz9 (fun k e=>by omega)⟩
theorem aY7{R:Ending->World->Prop}{a:Act}{W:World}{b:Nat}{f:Fl}(h:Six W b 0 f)(ha:a.tmps[2]?.getD undef=.pointer (some ⟨b,0,none⟩))(hd:a.defers=[])(hR:R (.returned (.agg #[.int .i64 f.k,.int .i64 f.n,.int .i64 f.mn,.int .i64 f.mx,.slice f.rq f.rs.length f.rc,.slice f.kq f.kl f.kc])) W):bodyPost Tryz.prog Tryz.f73 R .ret a W:=by
 obtain⟨z0,z1,z2,z3,z4,z5⟩:=h
 simp only [m7] at z1 z2 z3 z4 z5
 refine bodyPost_ret (v:=.agg #[.int .i64 f.k,.int .i64 f.n,.int .i64 f.mn,.int .i64 f.mx,.slice f.rq f.rs.length f.rc,.slice f.kq f.kl f.kc]) ?_ hd hR
 simp [results,Tryz.results73,go_sem,ha,z0,z1,z2,z3,z4,z5]
theorem bF3{w:World}{q:Option Addr}{c:Nat}{l:List Tr}(h:ArgK w (.slice q l.length c) l)(hta:∀ u∈l,TA w u)(hsz:szs l<1000000) :
  Calls Tryz.prog 73 #[.slice q l.length c] w (jZ w (gI 6 ((l.flatMap eP).map er) (.mk 2 0 0 0 [] []))):=by
 obtain⟨t0,hi,hz0,hz1,hz2⟩:=aR gT
 have B0:Hid (Below w.heap.size w (w.alloc (.cells #[.int .i64 0,.int .i64 0,.int .i64 0,.int .i64 0,.slice none 0 0,.slice none 0 0] 25))):=bz9
 have R0:Hid ((w.alloc (.cells #[.int .i64 0,.int .i64 0,.int .i64 0,.int .i64 0,.slice none 0 0,.slice none 0 0] 25)).heap[w.heap.size]?=some (.cells #[.int .i64 0,.int .i64 0,.int .i64 0,.int .i64 0,.slice none 0 0,.slice none 0 0] 25 (0,0))):=aD w _
 obtain⟨X,hX⟩:∃ X,gI 6 ((l.flatMap eP).map er) (.mk 2 0 0 0 [] [])=X:=⟨_,rfl⟩
 rw [hX]
 have HX:=aA hX
 obtain⟨q',c',e,hml,-,hx⟩:=h.slice
 injection e with e1 _ e3
 subst e1 e3
 have hml':l.length<=9223372036854775807:=hml
 have HH:=aA hx
 have HT:=aA hta
 have hlz:=eZ l
 clear hX h hta hx hml
 go_enter Tryz.func73,Tryz.ntmps73
 go_upto_region 1 with fail
 generalize (w.alloc (.cells #[.int .i64 0,.int .i64 0,.int .i64 0,.int .i64 0,.slice none 0 0,.slice none 0 0] 25))=W0 at B0 R0 ⊢
 have LZ:=aC R0.out
 go_upto_region 2 with fail
 go_wp2
 go_loopw [8,3] (fun i s wr=>∃ (j:Nat) (qq:Option Addr) (cc:Nat),j<=l.length/\i=.int .i64 (j:Int)/\s=.slice qq ((l.take j).flatMap eP).length cc/\wr.ownsRow W0.heap.size 25 6 (.slice qq ((l.take j).flatMap eP).length cc) ((l.take j).flatMap eP).length (aV ((l.take j).flatMap eP))/\Below W0.heap.size W0 wr) (fun i _ _=>l.length-(intOf i).toNat)
 case atStart=>exact⟨0,none,0,o9 _,rfl,rfl,aAY _ _ _ _,Below.refl _ _⟩
 case round=>
  obtain⟨j,qq,cc,hj,rfl,rfl,hown,hbel⟩:=hrel
  have HO:=aA hown
  have HB:=aA hbel
  have HLE:((l.take j).flatMap eP).length<=1000000:=o0 (eZ _) (o0 (gS tK _) (by have:=gC l j;omega))
  clear hown hbel
  by_cases hjl:j<l.length
  ·have i0:(j:Int)<(l.length:Int):=by omega
   obtain⟨u,hu⟩:∃ u,l[j]?=some u:=⟨_,g9 hjl⟩
   obtain⟨g,off,hq,hg,six⟩:=HH.out j u hu
   have hin:u∈l:=n8 hu
   have BW:Below w.heap.size w wr:=aG B0.out HB.out lz9
   obtain⟨c0,c1,c2,c3,c4,c5⟩:=six.ck (CK.of_below BW) hg
   have HN:(l.take (j+1)).flatMap eP=(l.take j).flatMap eP++eP u:=by rw [s7,hu,aBM];simp
   have HNX:=aA HN
   have K4:Below wr.heap.size wr (wr.alloc (.cells #[.int .i64 u.f.k,.int .i64 u.f.n,.int .i64 u.f.mn,.int .i64 u.f.mx,.slice u.f.rq u.f.rs.length u.f.rc,.slice u.f.kq u.f.kl u.f.kc] 25)):=bz9
   have N4:Hid (BoxN (wr.alloc (.cells #[.int .i64 u.f.k,.int .i64 u.f.n,.int .i64 u.f.mn,.int .i64 u.f.mx,.slice u.f.rq u.f.rs.length u.f.rc,.slice u.f.kq u.f.kl u.f.kc] 25)) wr.heap.size u.f):=aD wr _
   have B4:Hid (Below W0.heap.size W0 (wr.alloc (.cells #[.int .i64 u.f.k,.int .i64 u.f.n,.int .i64 u.f.mn,.int .i64 u.f.mx,.slice u.f.rq u.f.rs.length u.f.rc,.slice u.f.kq u.f.kl u.f.kc] 25))):=HB.out.alloc HB.out.size _
   have O4:=aA (aH HO.out (Fr.of_below (S:=fun _=>False) K4) (fun _ _ z=>z))
   have T4:=aA (((HT.out u hin).kept BW).kept K4)
   have hlu:((l.take (j+1)).flatMap eP).length<=1000000:=o0 (eZ _) (o0 (gS tK _) (by have:=gC l (j+1);omega))
   rw [HN,o5] at hlu
   rw [hq]
   clear six hu K4 BW HN
   go_upto_region 5 with fail
   generalize (wr.alloc (.cells #[.int .i64 u.f.k,.int .i64 u.f.n,.int .i64 u.f.mn,.int .i64 u.f.mx,.slice u.f.rq u.f.rs.length u.f.rc,.slice u.f.kq u.f.kl u.f.kc] 25))=W4 at N4 B4 O4 T4 ⊢
   obtain⟨n0,n1,n2,n3,n4,n5⟩:=N4.out.six
   simp only [m7] at n1 n2 n3 n4 n5
   have hkl:=T4.out.node.kl
   rw [hkl] at n5
   have TK:=T4.out.node.k
   rw [hkl] at TK
   have HTK:=aA TK
   clear c0 c1 c2 c3 c4 c5 TK
   generalize hout:(l.take j).flatMap eP=out at *
   by_cases k6:u.f.k=6
   ·have e6:(u.f.k==6)=true:=by simpa using k6
    have hpk:=aA (show eP u=u.ks by unfold eP;simp [k6])
    have hlu2:out.length+u.ks.length<=1000000:=by rw [<- hpk.out];exact hlu
    cases hkq:u.f.kq with
    | none=>
     rw [hkq] at n5 HTK
     have hks:u.ks=[]/\u.f.kc=0:=by
      rcases HTK.out with⟨p,cap,e,h1,h2⟩ | ⟨g',off',cap,e,-⟩
      ·injection e with e1 _ e3
       subst e1 e3
       exact⟨h1,h2 rfl⟩
      ·cases e
     rw [hks.1,hks.2,List.length_nil] at n5
     have HKS:=aA hks
     have HKQ:=aA hkq
     clear hks hkq hkl HTK k6
     go_wp2_with (at_builtin;refine wpList_append_own_none rfl _ _ 23 rfl W0.heap.size 25 t0 6 cQ hi (.slice qq out.length cc) out.length (aV out) rfl O4.out rfl ?_)
     go_roundw
     case rel=>exact⟨j+1,qq,cc,by omega,by go_num,by rw [HNX.out,hpk.out,HKS.out.1,t9],by rw [HNX.out,hpk.out,HKS.out.1,t9];exact O4.out,B4.out⟩
     case measure=>simp only [intOf];omega
    | some ad=>
     rw [hkq] at n5 HTK
     have HKQ:=aA hkq
     clear hkq hkl k6
     go_wp2_with (at_builtin;refine wpList_append_own_at _ rfl _ _ 23 rfl W0.heap.size 25 t0 (.agg #[.int .i64 0,.int .i64 0,.int .i64 0,.int .i64 0,.slice none 0 0,.slice none 0 0]) 6 80 cQ hi hz0 hz1 hz2 rfl (by decide) (.slice qq out.length cc) out.length (aV out) rfl O4.out ad u.ks.length u.f.kc (aV u.ks) rfl (by rw [fA]) HTK.out.news (lR u.ks) (by unfold maxLen;omega) (by omega) B4.out.size ?_;intro v' w6 hown' hgrow _ _;obtain⟨q6,cap6,rfl⟩:=aQ hown';have O6:=aA hown';have B6:Hid (Below W0.heap.size W0 w6):=kM B4.out lz9 O4.out hgrow;clear hown' hgrow)
     go_roundw
     case rel=>exact⟨j+1,q6,cap6,by omega,by go_num,by rw [HNX.out,hpk.out,o5],by rw [HNX.out,hpk.out,dM,o5];exact O6.out,B6.out⟩
     case measure=>simp only [intOf];omega
   ·have e6:(u.f.k==6)=false:=by simpa using k6
    have hpk:=aA (show eP u=[u] by unfold eP;simp [k6])
    have hlu2:out.length+1<=1000000:=by have:=hlu;rw [hpk.out] at this;exact this
    have K5:Below W4.heap.size W4 (W4.alloc (.cells #[.int .i64 u.f.k,.int .i64 u.f.n,.int .i64 u.f.mn,.int .i64 u.f.mx,.slice u.f.rq u.f.rs.length u.f.rc,.slice u.f.kq u.f.kl u.f.kc] 25)):=bz9
    have N5:=aA (gV (aD W4 (.cells #[.int .i64 u.f.k,.int .i64 u.f.n,.int .i64 u.f.mn,.int .i64 u.f.mx,.slice u.f.rq u.f.rs.length u.f.rc,.slice u.f.kq u.f.kl u.f.kc] 25)))
    have O5:=aA (aH O4.out (Fr.of_below (S:=fun _=>False) K5) (fun _ _ z=>z))
    have B5:Hid (Below W0.heap.size W0 (W4.alloc (.cells #[.int .i64 u.f.k,.int .i64 u.f.n,.int .i64 u.f.mn,.int .i64 u.f.mx,.slice u.f.rq u.f.rs.length u.f.rc,.slice u.f.kq u.f.kl u.f.kc] 25))):=aG B4.out K5 lz9
    rw [<- hkl] at n5
    clear hkl K5
    go_wp2_with (at_builtin;refine wpList_append_own_at _ rfl _ _ 23 rfl W0.heap.size 25 t0 (.agg #[.int .i64 0,.int .i64 0,.int .i64 0,.int .i64 0,.slice none 0 0,.slice none 0 0]) 6 80 cQ hi hz0 hz1 hz2 rfl (by decide) (.slice qq out.length cc) out.length (aV out) rfl O5.out ⟨W4.heap.size,0,none⟩ 1 1 u.f.cells rfl rfl N5.out (fun v hv=>by simp [Fl.cells] at hv;rcases hv with rfl | rfl | rfl | rfl | rfl | rfl <;> rfl) (by unfold maxLen;omega) (by omega) B5.out.size ?_;intro v' w6 hown' hgrow _ _;obtain⟨q6,cap6,rfl⟩:=aQ hown';have O6:=aA hown';have B6:Hid (Below W0.heap.size W0 w6):=kM B5.out lz9 O5.out hgrow;clear hown' hgrow)
    go_roundw
    case rel=>exact⟨j+1,q6,cap6,by omega,by go_num,by rw [HNX.out,hpk.out,o5];rfl,by rw [HNX.out,hpk.out,dM,o5,show aV [u]=u.f.cells by simp [aV]];exact O6.out,B6.out⟩
    case measure=>simp only [intOf];omega
  ·have i0:¬ (j:Int)<(l.length:Int):=by omega
   have he:(l.take j).flatMap eP=l.flatMap eP:=by rw [o4 (by omega)]
   have JN:=aA (uX 6 2 (oO HO.out) (fun u hu=>(by
    obtain⟨x,hx,hux⟩:=aBJ.1 hu
    exact((aU3 (HT.out x (aAS hx)) hux).kept B0.out).kept HB.out)) (aBA (o0 (gS tK _) (gC l j)) hsz) (fun a e z=>(aF HO.out (g:=a.block) (by rw [e];rfl)).2.2))
   rw [he] at JN
   have hlen:((l.take j).flatMap eP).length=(l.flatMap eP).length:=by rw [he]
   rw [hlen]
   clear he hlen HO HLE
   generalize l.flatMap eP=out at JN HX ⊢
   go_wp2_with (go_at_call 88;(with_reducible refine(JN.out).mono ?_);rintro e w5 ⟨t5,rfl,h51,h52,h53,h54⟩;have R5:w5.heap[w.heap.size]?=some (.cells #[.int .i64 0,.int .i64 0,.int .i64 0,.int .i64 0,.slice none 0 0,.slice none 0 0] 25 (0,0)):=(h54.block _ (o8 LZ HB.out.size)).trans ((HB.out.block _ LZ).trans R0.out);have r0:=aB R5 (i:=0) rfl;have r1:=aB R5 (i:=1) rfl;have r2:=aB R5 (i:=2) rfl;have r3:=aB R5 (i:=3) rfl;have r4:=aB R5 (i:=4) rfl;have r5:=aB R5 (i:=5) rfl;have fz:=fun z=>aK R5 z;have L9:=aA (hU h51 (h52.mono (fun k hk=>o8 LZ (o0 HB.out.size hk))) R5);have X9:=aA L9.out.1;have P9:=aA L9.out.2.2;unfold cD at X9 P9;have Q5:=aA (⟨h52,h53,aG (aG B0.out HB.out lz9) h54 lz9⟩:Foot (fun k=>wr.heap.size<=k) t5/\er t5=_/\Below w.heap.size w w5);clear h51 h52 h53 h54)
   refine aY7 X9.out rfl rfl ?_
   exact⟨t5,rfl,L9.out.2.1,Q5.out.1.mono (fun k hk=>o0 B0.out.size (o0 HB.out.size hk)),by rw [Q5.out.2.1,<- HX.out],bB Q5.out.2.2 P9.out lz9 (fun k e=>by omega)⟩
end Go.Proofs.YtlamifbjklpdbaaGreat
