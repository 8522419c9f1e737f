/-
  Parts of the proof.
-/
import Derived.Test.YtpfdapnfkghgkaaGreatDoorReadsProof9B14
import Derived.Test.YtpfdapnfkghgkaaGreatDoorReadsProof9B0
import Derived.Test.YtpfdapnfkghgkaaGreatDoorReadsProof9B3
import Derived.Test.YtpfdapnfkghgkaaGreatDoorReadsProof9B13
import Derived.Test.YtpfdapnfkghgkaaGreatDoorReadsProof9B1
import Derived.OwnWalk
import Derived.Laws.MakeOwn
import Derived.Test.YtpfdapnfkghgkaaGreatDoorReadsProof9B5
set_option maxRecDepth 100000
set_option maxHeartbeats 8000000
namespace Go.Proofs.YtpfdapnfkghgkaaGreatDoor
open Go Go.RowKit
def gE(k:Int)(l:List Er)(no:Er):Er:=match l with | []=>no | [x]=>x | x :: y :: r=>.mk k 0 0 0 [] (x :: y :: r)
def bare(k:Int):Fl:=⟨k,0,0,0,[],none,0,none,0,0⟩
theorem lF(W:World)(k:Int):TA W (.mk (bare k) []):=(aY _).2 ⟨⟨.inl ⟨none,0,rfl,rfl,fun _=>rfl⟩,.inl ⟨none,0,rfl,rfl,fun _=>rfl⟩,cL,by simp [Tr.f,bare],⟨fun a e=>(by cases e),fun a e=>(by cases e)⟩⟩,(aW _).2 fun u hu=>by cases hu⟩
theorem nW(N:Nat->Prop)(k:Int):Foot N (.mk (bare k) []):=(aY _).2 ⟨⟨fun a e=>(by cases e),fun a e=>(by cases e)⟩,(aW _).2 fun u hu=>by cases hu⟩
theorem lP{R:Ending->World->Prop}{a:Act}{W:World}{b:Nat}{f:Fl}(h:Six W b 0 f)(ha:a.tmps[6]?.getD undef=.pointer (some ⟨b,0,none⟩))(hd:a.defers=[])(hR:R (.returned (.agg #[.int .i64 f.k,.int .i64 f.n,.int .i64 f.mn,.int .i64 f.mx,.slice f.rq f.rs.length f.rc,.slice f.kq f.kl f.kc])) W):bodyPost Tryz.prog Tryz.f32 R .ret a W:=by
 obtain⟨z0,z1,z2,z3,z4,z5⟩:=h
 simp only [Nat.zero_add] at z1 z2 z3 z4 z5
 refine bodyPost_ret (v:=.agg #[.int .i64 f.k,.int .i64 f.n,.int .i64 f.mn,.int .i64 f.mx,.slice f.rq f.rs.length f.rc,.slice f.kq f.kl f.kc]) ?_ hd hR
 simp [results,Tryz.results32,go_sem,ha,z0,z1,z2,z3,z4,z5]
theorem jT{W:World}{bz:Nat}{t:Tr}(ht:TA W t)(hf:Foot (fun k=>bz < k) t)(hr:W.heap[bz]?=some (.cells #[.int .i64 0,.int .i64 0,.int .i64 0,.int .i64 0,.slice none 0 0,.slice none 0 0] 28 (0,0))) :
  Six (bH W bz 0 t.f) bz 0 t.f/\TA (bH W bz 0 t.f) t/\Fr (fun z=>z=bz) W (bH W bz 0 t.f):=by
 have F:=cU W bz 0 t.f
 refine⟨fF (f:=⟨0,0,0,0,[],none,0,none,0,0⟩) ⟨aB hr (i:=0) rfl,aB hr (i:=1) rfl,aB hr (i:=2) rfl,aB hr (i:=3) rfl,aB hr (i:=4) rfl,aB hr (i:=5) rfl⟩,ht.ckN hf (F.ckeep (fun k e z=>by omega)),F⟩
theorem vX{w:World}(kind k0:Int){q:Option Addr}{c:Nat}{ks:List Tr}(h:ArgK w (.slice q ks.length c) ks)(hta:∀ u∈ks,TA w u)(hsz:szs ks < 1000000)(hown:∀ a,q=some a->ks≠[]->∃ cur,w.heap[a.block]?=some (.cells cur 28 (0,0))) :
  Calls Tryz.prog 32 #[.int .i64 kind,.slice q ks.length c,.agg #[.int .i64 k0,.int .i64 0,.int .i64 0,.int .i64 0,.slice none 0 0,.slice none 0 0]] w (wS w (gE kind (ks.map er) (.mk k0 0 0 0 [] []))):=by
 have B0:Hid (Below w.heap.size w ((w.alloc (.cells #[.int .i64 k0,.int .i64 0,.int .i64 0,.int .i64 0,.slice none 0 0,.slice none 0 0] 28)).alloc (.cells #[.int .i64 0,.int .i64 0,.int .i64 0,.int .i64 0,.slice none 0 0,.slice none 0 0] 28))):=(bz9).alloc (by simp) _
 have N0:Hid (BoxN ((w.alloc (.cells #[.int .i64 k0,.int .i64 0,.int .i64 0,.int .i64 0,.slice none 0 0,.slice none 0 0] 28)).alloc (.cells #[.int .i64 0,.int .i64 0,.int .i64 0,.int .i64 0,.slice none 0 0,.slice none 0 0] 28)) w.heap.size (bare k0)):=(Below.heap_alloc _ _ _ (by simp)).trans (aG w _)
 have R0:Hid (((w.alloc (.cells #[.int .i64 k0,.int .i64 0,.int .i64 0,.int .i64 0,.slice none 0 0,.slice none 0 0] 28)).alloc (.cells #[.int .i64 0,.int .i64 0,.int .i64 0,.int .i64 0,.slice none 0 0,.slice none 0 0] 28)).heap[w.heap.size+1]?=some (.cells #[.int .i64 0,.int .i64 0,.int .i64 0,.int .i64 0,.slice none 0 0,.slice none 0 0] 28 (0,0))):=(by
  have:=aG (w.alloc (.cells #[.int .i64 k0,.int .i64 0,.int .i64 0,.int .i64 0,.slice none 0 0,.slice none 0 0] 28)) (.cells #[.int .i64 0,.int .i64 0,.int .i64 0,.int .i64 0,.slice none 0 0,.slice none 0 0] 28)
  rwa [World.size_alloc] at this)
 obtain⟨X,hX⟩:∃ X,gE kind (ks.map er) (.mk k0 0 0 0 [] [])=X:=⟨_,rfl⟩
 rw [hX]
 have HX:=aC hX
 have HH:=aC h
 have HT:=aC hta
 have HW:=aC hown
 clear hX h hta hown
 go_enter Tryz.func32,Tryz.ntmps32
 go_upto_region 1 with fail
 generalize ((w.alloc (.cells #[.int .i64 k0,.int .i64 0,.int .i64 0,.int .i64 0,.slice none 0 0,.slice none 0 0] 28)).alloc (.cells #[.int .i64 0,.int .i64 0,.int .i64 0,.int .i64 0,.slice none 0 0,.slice none 0 0] 28))=W0 at B0 N0 R0 ⊢
 obtain⟨bz,hbz⟩:∃ bz,w.heap.size+1=bz:=⟨_,rfl⟩
 rw [hbz] at R0 ⊢
 have LZ:=aA R0.out
 match ks,HH,HT,hsz,HX,HW with
 | [],HH,HT,hsz,HX,HW=>
  obtain⟨n0,n1,n2,n3,n4,n5⟩:=N0.out.six
  simp only [Nat.zero_add,bare,List.length_nil] at n0 n1 n2 n3 n4 n5
  have r0:=aB R0.out (i:=0) rfl
  have r1:=aB R0.out (i:=1) rfl
  have r2:=aB R0.out (i:=2) rfl
  have r3:=aB R0.out (i:=3) rfl
  have r4:=aB R0.out (i:=4) rfl
  have r5:=aB R0.out (i:=5) rfl
  have fz:=fun z=>aP R0.out z
  have L9:=aC (jT (lF W0 k0) (nW (fun k=>bz < k) k0) R0.out)
  have X9:=aC L9.out.1
  have P9:=aC L9.out.2.2
  unfold bH at X9 P9
  simp only [Tr.f,bare] at X9 P9
  go_wp2
  refine lP X9.out rfl rfl ?_
  exact⟨.mk (bare k0) [],rfl,L9.out.2.1,nW _ _,by rw [<- HX.out,eL];rfl,bM B0.out P9.out lz9 (fun k e=>by omega)⟩
 | [u],HH,HT,hsz,HX,HW=>
  obtain⟨q',c',e,-,-,hx⟩:=HH.out.slice
  injection e with e1 _ e3
  subst e1 e3
  obtain⟨g,off,rfl,hg,six⟩:=hx 0 u rfl
  obtain⟨c0,c1,c2,c3,c4,c5⟩:=six.ck (CK.of_below B0.out) hg
  simp only [Nat.zero_mul,Nat.add_zero] at c0 c1 c2 c3 c4 c5
  have CP:=aC (rY ((HT.out u (by simp)).kept B0.out) (by rw [dU,fR] at hsz;omega))
  simp only [List.length_cons,List.length_nil,Nat.zero_add]
  clear six hx
  go_wp2_with (go_at_call 35;(with_reducible refine(CP.out).mono ?_);rintro e w5 ⟨t5,rfl,h51,h52,h53,h54⟩;have R5:w5.heap[bz]?=some (.cells #[.int .i64 0,.int .i64 0,.int .i64 0,.int .i64 0,.slice none 0 0,.slice none 0 0] 28 (0,0)):=(h54.block _ LZ).trans R0.out;have r0:=aB R5 (i:=0) rfl;have r1:=aB R5 (i:=1) rfl;have r2:=aB R5 (i:=2) rfl;have r3:=aB R5 (i:=3) rfl;have r4:=aB R5 (i:=4) rfl;have r5:=aB R5 (i:=5) rfl;have fz:=fun z=>aP R5 z;have L9:=aC (jT h51 (h52.mono (fun k hk=>Nat.lt_of_lt_of_le LZ hk)) R5);have X9:=aC L9.out.1;have P9:=aC L9.out.2.2;unfold bH at X9 P9;have Q5:=aC (⟨h52,h53,aE B0.out h54 lz9⟩:Foot (fun k=>W0.heap.size<=k) t5/\er t5=_/\Below w.heap.size w w5);clear h51 h52 h53 h54)
  refine lP X9.out rfl rfl ?_
  exact⟨t5,rfl,L9.out.2.1,Q5.out.1.mono (fun k hk=>Nat.le_trans B0.out.size hk),by rw [Q5.out.2.1,<- HX.out];rfl,bM Q5.out.2.2 P9.out lz9 (fun k e=>by omega)⟩
 | u :: v :: r,HH,HT,hsz,HX,HW=>
  have TT:TA W0 (.mk ⟨kind,0,0,0,[],none,0,q,(u :: v :: r).length,c⟩ (u :: v :: r)):=(aY _).2 ⟨⟨.inl ⟨none,0,rfl,rfl,fun _=>rfl⟩,HH.out.ck (CK.of_below B0.out),cL,by simp [Tr.f],⟨fun a e=>(by cases e),fun a e z=>(by obtain⟨cur,y⟩:=HW.out a e z;exact⟨cur,(B0.out.block _ (aA y)).trans y⟩)⟩⟩,(aW _).2 fun y hy=>(HT.out y hy).kept B0.out⟩
  have CP:=aC (rY TT (by rw [lK];exact hsz))
  simp only [Tr.f,List.length_nil] at CP
  obtain⟨n,hn⟩:∃ n,(u :: v :: r).length=n:=⟨_,rfl⟩
  rw [hn] at CP ⊢
  have h0:((n:Int)==0)=false:=by simp at hn ⊢;omega
  have h1:((n:Int)==1)=false:=by simp at hn ⊢;omega
  clear hn TT
  go_wp2_with (go_at_call 35;(with_reducible refine(CP.out).mono ?_);rintro e w5 ⟨t5,rfl,h51,h52,h53,h54⟩;have R5:w5.heap[bz]?=some (.cells #[.int .i64 0,.int .i64 0,.int .i64 0,.int .i64 0,.slice none 0 0,.slice none 0 0] 28 (0,0)):=(h54.block _ LZ).trans R0.out;have r0:=aB R5 (i:=0) rfl;have r1:=aB R5 (i:=1) rfl;have r2:=aB R5 (i:=2) rfl;have r3:=aB R5 (i:=3) rfl;have r4:=aB R5 (i:=4) rfl;have r5:=aB R5 (i:=5) rfl;have fz:=fun z=>aP R5 z;have L9:=aC (jT h51 (h52.mono (fun k hk=>Nat.lt_of_lt_of_le LZ hk)) R5);have X9:=aC L9.out.1;have P9:=aC L9.out.2.2;unfold bH at X9 P9;have Q5:=aC (⟨h52,h53,aE B0.out h54 lz9⟩:Foot (fun k=>W0.heap.size<=k) t5/\er t5=_/\Below w.heap.size w w5);clear h51 h52 h53 h54)
  refine lP X9.out rfl rfl ?_
  exact⟨t5,rfl,L9.out.2.1,Q5.out.1.mono (fun k hk=>Nat.le_trans B0.out.size hk),by rw [Q5.out.2.1,<- HX.out,eL];rfl,bM Q5.out.2.2 P9.out lz9 (fun k e=>by omega)⟩
def eZ(t:Tr):List Tr:=if t.f.k=1 then [] else if t.f.k=5 then t.ks else [t]
def fM(t:Tr):List Tr:=if t.f.k=6 then t.ks else [t]
theorem pF(a b:List Tr):szs (a ++ b)=szs a+szs b:=by
 induction a with
 | nil=>rw [fR];simp
 | cons x a ih=>rw [List.cons_append,dU,dU,ih];omega
theorem iE{f:Tr->List Tr}(h:∀ t,szs (f t)<=t.sz)(l:List Tr):szs (l.flatMap f)<=szs l:=by
 induction l with
 | nil=>exact Nat.le_refl _
 | cons x l ih=>rw [List.flatMap_cons,pF,dU];have:=h x;omega
theorem tN(t:Tr):szs (eZ t)<=t.sz:=by
 unfold eZ
 split
 ·rw [fR];omega
 ·split
  ·rw [lK];omega
  ·rw [dU,fR];omega
theorem tR(t:Tr):szs (fM t)<=t.sz:=by
 unfold fM
 split
 ·rw [lK];omega
 ·rw [dU,fR];omega
theorem iD(l:List Tr)(j:Nat):szs (l.take j)<=szs l:=by
 have:=pF (l.take j) (l.drop j)
 rw [List.take_append_drop] at this
 omega
theorem gV(l:List Tr):l.length<=szs l:=by
 induction l with
 | nil=>simp
 | cons x l ih=>rw [dU,List.length_cons];have:=jM x;omega
theorem aQ7{W:World}{t u:Tr}(h:TA W t)(hu:u∈eZ t):TA W u:=by
 unfold eZ at hu
 split at hu
 ·cases hu
 ·split at hu
  ·exact h.kid hu
  ·simp at hu;subst hu;exact h
theorem aR6{W:World}{t u:Tr}(h:TA W t)(hu:u∈fM t):TA W u:=by
 unfold fM at hu
 split at hu
 ·exact h.kid hu
 ·simp at hu;subst hu;exact h
theorem gW{base:Nat}{w W W':World}{e:TypeId}{size n:Nat}{v:Value}{xs:List Value}(h:Below base w W)(hw:base<=w.heap.size)(ho:W.ownsRow base e size v n xs)(hg:W.grownBy W' v.ownBlock):Below base w W':=
 h.trans ⟨hg.os,hg.tape,hg.output,hg.size,fun k hk=>hg.block k (by have:=h.size;omega) (fun q=>by have:=(aH ho q.symm).1;omega)⟩
theorem mF{W:World}{base c:Nat}{q:Option Addr}{ks:List Tr}(h:W.ownsRow base 28 6 (.slice q ks.length c) ks.length (bD ks)):ArgK W (.slice q ks.length c) ks:=by
 rcases h.2 with⟨e,hn⟩ | ⟨g,cap,cur,e,h1,h2,h3,h4,-⟩
 ·obtain rfl:=List.eq_nil_of_length_eq_zero hn
  injection e with e1 _ e3
  subst e1 e3
  exact .inl ⟨none,0,rfl,rfl,fun _=>rfl⟩
 ·injection e with e1 _ e3
  subst e1 e3
  exact(KR.of_row h).arg h3 h4
theorem jN{W:World}{b:Nat}{f:Fl}(h:BoxN W b f):∀ j u,f.cells[j]?=some u->W.cell? ((⟨b,0,none⟩:Addr).add j)=some u:=fun j u hj=>by rw [tS];exact h.six.at hj
theorem aU3{R:Ending->World->Prop}{a:Act}{W:World}{b:Nat}{f:Fl}(h:Six W b 0 f)(ha:a.tmps[2]?.getD undef=.pointer (some ⟨b,0,none⟩))(hd:a.defers=[])(hR:R (.returned (.agg #[.int .i64 f.k,.int .i64 f.n,.int .i64 f.mn,.int .i64 f.mx,.slice f.rq f.rs.length f.rc,.slice f.kq f.kl f.kc])) W):bodyPost Tryz.prog Tryz.f38 R .ret a W:=by
 obtain⟨z0,z1,z2,z3,z4,z5⟩:=h
 simp only [Nat.zero_add] at z1 z2 z3 z4 z5
 refine bodyPost_ret (v:=.agg #[.int .i64 f.k,.int .i64 f.n,.int .i64 f.mn,.int .i64 f.mx,.slice f.rq f.rs.length f.rc,.slice f.kq f.kl f.kc]) ?_ hd hR
 simp [results,Tryz.results38,go_sem,ha,z0,z1,z2,z3,z4,z5]
theorem bI6{w:World}{q:Option Addr}{c:Nat}{l:List Tr}(h:ArgK w (.slice q l.length c) l)(hta:∀ u∈l,TA w u)(hsz:szs l < 1000000) :
  Calls Tryz.prog 38 #[.slice q l.length c] w (wS w (gE 5 ((l.flatMap eZ).map er) (.mk 1 0 0 0 [] []))):=by
 obtain⟨t0,hi,hz0,hz1,hz2⟩:=aS fA
 have B0:Hid (Below w.heap.size w (w.alloc (.cells #[.int .i64 0,.int .i64 0,.int .i64 0,.int .i64 0,.slice none 0 0,.slice none 0 0] 28))):=bz9
 have R0:Hid ((w.alloc (.cells #[.int .i64 0,.int .i64 0,.int .i64 0,.int .i64 0,.slice none 0 0,.slice none 0 0] 28)).heap[w.heap.size]?=some (.cells #[.int .i64 0,.int .i64 0,.int .i64 0,.int .i64 0,.slice none 0 0,.slice none 0 0] 28 (0,0))):=aG w _
 obtain⟨X,hX⟩:∃ X,gE 5 ((l.flatMap eZ).map er) (.mk 1 0 0 0 [] [])=X:=⟨_,rfl⟩
 rw [hX]
 have HX:=aC hX
 obtain⟨q',c',e,hml,-,hx⟩:=h.slice
 injection e with e1 _ e3
 subst e1 e3
 have hml':l.length<=9223372036854775807:=hml
 have HH:=aC hx
 have HT:=aC hta
 have hlz:=gV l
 clear hX h hta hx hml
 go_enter Tryz.func38,Tryz.ntmps38
 go_upto_region 1 with fail
 generalize (w.alloc (.cells #[.int .i64 0,.int .i64 0,.int .i64 0,.int .i64 0,.slice none 0 0,.slice none 0 0] 28))=W0 at B0 R0 ⊢
 have LZ:=aA R0.out
 go_upto_region 2 with fail
 go_wp2
 go_loopw [8,3] (fun i s wr=>∃ (j:Nat) (qq:Option Addr) (cc:Nat),j<=l.length/\i=.int .i64 (j:Int)/\s=.slice qq ((l.take j).flatMap eZ).length cc/\wr.ownsRow W0.heap.size 28 6 (.slice qq ((l.take j).flatMap eZ).length cc) ((l.take j).flatMap eZ).length (bD ((l.take j).flatMap eZ))/\Below W0.heap.size W0 wr) (fun i _ _=>l.length - (intOf i).toNat)
 case atStart=>exact⟨0,none,0,Nat.zero_le _,rfl,rfl,World.ownsRow_nil _ _ _ _,Below.refl _ _⟩
 case round=>
  obtain⟨j,qq,cc,hj,rfl,rfl,hown,hbel⟩:=hrel
  have HO:=aC hown
  have HB:=aC hbel
  have HLE:((l.take j).flatMap eZ).length<=1000000:=Nat.le_trans (gV _) (Nat.le_trans (iE tN _) (by have:=iD l j;omega))
  clear hown hbel
  by_cases hjl:j < l.length
  ·have i0:(j:Int) < (l.length:Int):=by omega
   obtain⟨u,hu⟩:∃ u,l[j]?=some u:=⟨_,List.getElem?_eq_getElem hjl⟩
   obtain⟨g,off,hq,hg,six⟩:=HH.out j u hu
   have hin:u∈l:=List.mem_of_getElem? hu
   have BW:Below w.heap.size w wr:=aE B0.out HB.out lz9
   obtain⟨c0,c1,c2,c3,c4,c5⟩:=six.ck (CK.of_below BW) hg
   have HN:(l.take (j+1)).flatMap eZ=(l.take j).flatMap eZ ++ eZ u:=by rw [List.take_add_one,hu,List.flatMap_append];simp
   have HNX:=aC HN
   have K4:Below wr.heap.size wr (wr.alloc (.cells #[.int .i64 u.f.k,.int .i64 u.f.n,.int .i64 u.f.mn,.int .i64 u.f.mx,.slice u.f.rq u.f.rs.length u.f.rc,.slice u.f.kq u.f.kl u.f.kc] 28)):=bz9
   have N4:Hid (BoxN (wr.alloc (.cells #[.int .i64 u.f.k,.int .i64 u.f.n,.int .i64 u.f.mn,.int .i64 u.f.mx,.slice u.f.rq u.f.rs.length u.f.rc,.slice u.f.kq u.f.kl u.f.kc] 28)) wr.heap.size u.f):=aG wr _
   have B4:Hid (Below W0.heap.size W0 (wr.alloc (.cells #[.int .i64 u.f.k,.int .i64 u.f.n,.int .i64 u.f.mn,.int .i64 u.f.mx,.slice u.f.rq u.f.rs.length u.f.rc,.slice u.f.kq u.f.kl u.f.kc] 28))):=HB.out.alloc HB.out.size _
   have O4:=aC (aQ HO.out (Fr.of_below (S:=fun _=>False) K4) (fun _ _ z=>z))
   have T4:=aC (((HT.out u hin).kept BW).kept K4)
   have hlu:((l.take (j+1)).flatMap eZ).length<=1000000:=Nat.le_trans (gV _) (Nat.le_trans (iE tN _) (by have:=iD l (j+1);omega))
   rw [HN,List.length_append] at hlu
   rw [hq]
   clear six hu K4 BW HN
   go_upto_region 5 with fail
   generalize (wr.alloc (.cells #[.int .i64 u.f.k,.int .i64 u.f.n,.int .i64 u.f.mn,.int .i64 u.f.mx,.slice u.f.rq u.f.rs.length u.f.rc,.slice u.f.kq u.f.kl u.f.kc] 28))=W4 at N4 B4 O4 T4 ⊢
   obtain⟨n0,n1,n2,n3,n4,n5⟩:=N4.out.six
   simp only [Nat.zero_add] at n1 n2 n3 n4 n5
   have hkl:=T4.out.node.kl
   rw [hkl] at n5
   have TK:=T4.out.node.k
   rw [hkl] at TK
   have HTK:=aC TK
   clear c0 c1 c2 c3 c4 c5 TK
   generalize hout:(l.take j).flatMap eZ=out at *
   by_cases k1:u.f.k=1
   ·have e1:(u.f.k==1)=true:=by simpa using k1
    have hpk:=aC (show eZ u=[] by unfold eZ;simp [k1])
    clear k1
    go_wp2
    go_roundw
    case rel=>exact⟨j+1,qq,cc,by omega,by go_num,by rw [HNX.out,hpk.out,List.append_nil],by rw [HNX.out,hpk.out,List.append_nil];exact O4.out,B4.out⟩
    case measure=>simp only [intOf];omega
   ·have e1:(u.f.k==1)=false:=by simpa using k1
    by_cases k5:u.f.k=5
    ·have e5:(u.f.k==5)=true:=by simpa using k5
     have hpk:=aC (show eZ u=u.ks by unfold eZ;simp [k5])
     have hlu2:out.length+u.ks.length<=1000000:=by rw [<- hpk.out];exact hlu
     cases hkq:u.f.kq with
     | none=>
      rw [hkq] at n5 HTK
      have hks:u.ks=[]/\u.f.kc=0:=by
       rcases HTK.out with⟨p,cap,e,h1,h2⟩ | ⟨g',off',cap,e,-⟩
       ·injection e with e1 _ e3
        subst e1 e3
        exact⟨h1,h2 rfl⟩
       ·cases e
      rw [hks.1,hks.2,List.length_nil] at n5
      have HKS:=aC hks
      have HKQ:=aC hkq
      clear hks hkq hkl HTK k1 k5
      go_wp2_with (at_builtin;refine wpList_append_own_none rfl _ _ 26 rfl W0.heap.size 28 t0 6 cR hi (.slice qq out.length cc) out.length (bD out) rfl O4.out rfl ?_)
      go_roundw
      case rel=>exact⟨j+1,qq,cc,by omega,by go_num,by rw [HNX.out,hpk.out,HKS.out.1,List.append_nil],by rw [HNX.out,hpk.out,HKS.out.1,List.append_nil];exact O4.out,B4.out⟩
      case measure=>simp only [intOf];omega
     | some ad=>
      rw [hkq] at n5 HTK
      have HKQ:=aC hkq
      clear hkq hkl k1 k5
      go_wp2_with (at_builtin;refine wpList_append_own_at _ rfl _ _ 26 rfl W0.heap.size 28 t0 (.agg #[.int .i64 0,.int .i64 0,.int .i64 0,.int .i64 0,.slice none 0 0,.slice none 0 0]) 6 80 cR hi hz0 hz1 hz2 rfl (by decide) (.slice qq out.length cc) out.length (bD out) rfl O4.out ad u.ks.length u.f.kc (bD u.ks) rfl (by rw [eO]) HTK.out.news (lX u.ks) (by unfold maxLen;omega) (by omega) B4.out.size ?_;intro v' w6 hown' hgrow _ _;obtain⟨q6,cap6,rfl⟩:=aL hown';have O6:=aC hown';have B6:Hid (Below W0.heap.size W0 w6):=gW B4.out lz9 O4.out hgrow;clear hown' hgrow)
      go_roundw
      case rel=>exact⟨j+1,q6,cap6,by omega,by go_num,by rw [HNX.out,hpk.out,List.length_append],by rw [HNX.out,hpk.out,dJ,List.length_append];exact O6.out,B6.out⟩
      case measure=>simp only [intOf];omega
    ·have e5:(u.f.k==5)=false:=by simpa using k5
     have hpk:=aC (show eZ u=[u] by unfold eZ;simp [k1,k5])
     have hlu2:out.length+1<=1000000:=by have:=hlu;rw [hpk.out] at this;exact this
     have K5:Below W4.heap.size W4 (W4.alloc (.cells #[.int .i64 u.f.k,.int .i64 u.f.n,.int .i64 u.f.mn,.int .i64 u.f.mx,.slice u.f.rq u.f.rs.length u.f.rc,.slice u.f.kq u.f.kl u.f.kc] 28)):=bz9
     have N5:=aC (jN (aG W4 (.cells #[.int .i64 u.f.k,.int .i64 u.f.n,.int .i64 u.f.mn,.int .i64 u.f.mx,.slice u.f.rq u.f.rs.length u.f.rc,.slice u.f.kq u.f.kl u.f.kc] 28)))
     have O5:=aC (aQ O4.out (Fr.of_below (S:=fun _=>False) K5) (fun _ _ z=>z))
     have B5:Hid (Below W0.heap.size W0 (W4.alloc (.cells #[.int .i64 u.f.k,.int .i64 u.f.n,.int .i64 u.f.mn,.int .i64 u.f.mx,.slice u.f.rq u.f.rs.length u.f.rc,.slice u.f.kq u.f.kl u.f.kc] 28))):=aE B4.out K5 lz9
     rw [<- hkl] at n5
     clear hkl K5
     go_wp2_with (at_builtin;refine wpList_append_own_at _ rfl _ _ 26 rfl W0.heap.size 28 t0 (.agg #[.int .i64 0,.int .i64 0,.int .i64 0,.int .i64 0,.slice none 0 0,.slice none 0 0]) 6 80 cR hi hz0 hz1 hz2 rfl (by decide) (.slice qq out.length cc) out.length (bD out) rfl O5.out ⟨W4.heap.size,0,none⟩ 1 1 u.f.cells rfl rfl N5.out (fun v hv=>by simp [Fl.cells] at hv;rcases hv with rfl | rfl | rfl | rfl | rfl | rfl <;> rfl) (by unfold maxLen;omega) (by omega) B5.out.size ?_;intro v' w6 hown' hgrow _ _;obtain⟨q6,cap6,rfl⟩:=aL hown';have O6:=aC hown';have B6:Hid (Below W0.heap.size W0 w6):=gW B5.out lz9 O5.out hgrow;clear hown' hgrow)
     go_roundw
     case rel=>exact⟨j+1,q6,cap6,by omega,by go_num,by rw [HNX.out,hpk.out,List.length_append];rfl,by rw [HNX.out,hpk.out,dJ,List.length_append,show bD [u]=u.f.cells by simp [bD]];exact O6.out,B6.out⟩
     case measure=>simp only [intOf];omega
  ·have i0:¬ (j:Int) < (l.length:Int):=by omega
   have he:(l.take j).flatMap eZ=l.flatMap eZ:=by rw [List.take_of_length_le (by omega)]
   have JN:=aC (vX 5 1 (mF HO.out) (fun u hu=>(by
    obtain⟨x,hx,hux⟩:=List.mem_flatMap.1 hu
    exact((aQ7 (HT.out x (List.mem_of_mem_take hx)) hux).kept B0.out).kept HB.out)) (Nat.lt_of_le_of_lt (Nat.le_trans (iE tN _) (iD l j)) hsz) (fun a e z=>(aH HO.out (g:=a.block) (by rw [e];rfl)).2.2))
   rw [he] at JN
   have hlen:((l.take j).flatMap eZ).length=(l.flatMap eZ).length:=by rw [he]
   rw [hlen]
   clear he hlen HO HLE
   generalize l.flatMap eZ=out at JN HX ⊢
   go_wp2_with (go_at_call 32;(with_reducible refine(JN.out).mono ?_);rintro e w5 ⟨t5,rfl,h51,h52,h53,h54⟩;have R5:w5.heap[w.heap.size]?=some (.cells #[.int .i64 0,.int .i64 0,.int .i64 0,.int .i64 0,.slice none 0 0,.slice none 0 0] 28 (0,0)):=(h54.block _ (Nat.lt_of_lt_of_le LZ HB.out.size)).trans ((HB.out.block _ LZ).trans R0.out);have r0:=aB R5 (i:=0) rfl;have r1:=aB R5 (i:=1) rfl;have r2:=aB R5 (i:=2) rfl;have r3:=aB R5 (i:=3) rfl;have r4:=aB R5 (i:=4) rfl;have r5:=aB R5 (i:=5) rfl;have fz:=fun z=>aP R5 z;have L9:=aC (jT h51 (h52.mono (fun k hk=>Nat.lt_of_lt_of_le LZ (Nat.le_trans HB.out.size hk))) R5);have X9:=aC L9.out.1;have P9:=aC L9.out.2.2;unfold bH at X9 P9;have Q5:=aC (⟨h52,h53,aE (aE B0.out HB.out lz9) h54 lz9⟩:Foot (fun k=>wr.heap.size<=k) t5/\er t5=_/\Below w.heap.size w w5);clear h51 h52 h53 h54)
   refine aU3 X9.out rfl rfl ?_
   exact⟨t5,rfl,L9.out.2.1,Q5.out.1.mono (fun k hk=>Nat.le_trans B0.out.size (Nat.le_trans HB.out.size hk)),by rw [Q5.out.2.1,<- HX.out],bM Q5.out.2.2 P9.out lz9 (fun k e=>by omega)⟩
theorem aU4{R:Ending->World->Prop}{a:Act}{W:World}{b:Nat}{f:Fl}(h:Six W b 0 f)(ha:a.tmps[2]?.getD undef=.pointer (some ⟨b,0,none⟩))(hd:a.defers=[])(hR:R (.returned (.agg #[.int .i64 f.k,.int .i64 f.n,.int .i64 f.mn,.int .i64 f.mx,.slice f.rq f.rs.length f.rc,.slice f.kq f.kl f.kc])) W):bodyPost Tryz.prog Tryz.f15 R .ret a W:=by
 obtain⟨z0,z1,z2,z3,z4,z5⟩:=h
 simp only [Nat.zero_add] at z1 z2 z3 z4 z5
 refine bodyPost_ret (v:=.agg #[.int .i64 f.k,.int .i64 f.n,.int .i64 f.mn,.int .i64 f.mx,.slice f.rq f.rs.length f.rc,.slice f.kq f.kl f.kc]) ?_ hd hR
 simp [results,Tryz.results15,go_sem,ha,z0,z1,z2,z3,z4,z5]
theorem bJ0{w:World}{q:Option Addr}{c:Nat}{l:List Tr}(h:ArgK w (.slice q l.length c) l)(hta:∀ u∈l,TA w u)(hsz:szs l < 1000000) :
  Calls Tryz.prog 15 #[.slice q l.length c] w (wS w (gE 6 ((l.flatMap fM).map er) (.mk 2 0 0 0 [] []))):=by
 obtain⟨t0,hi,hz0,hz1,hz2⟩:=aS fA
 have B0:Hid (Below w.heap.size w (w.alloc (.cells #[.int .i64 0,.int .i64 0,.int .i64 0,.int .i64 0,.slice none 0 0,.slice none 0 0] 28))):=bz9
 have R0:Hid ((w.alloc (.cells #[.int .i64 0,.int .i64 0,.int .i64 0,.int .i64 0,.slice none 0 0,.slice none 0 0] 28)).heap[w.heap.size]?=some (.cells #[.int .i64 0,.int .i64 0,.int .i64 0,.int .i64 0,.slice none 0 0,.slice none 0 0] 28 (0,0))):=aG w _
 obtain⟨X,hX⟩:∃ X,gE 6 ((l.flatMap fM).map er) (.mk 2 0 0 0 [] [])=X:=⟨_,rfl⟩
 rw [hX]
 have HX:=aC hX
 obtain⟨q',c',e,hml,-,hx⟩:=h.slice
 injection e with e1 _ e3
 subst e1 e3
 have hml':l.length<=9223372036854775807:=hml
 have HH:=aC hx
 have HT:=aC hta
 have hlz:=gV l
 clear hX h hta hx hml
 go_enter Tryz.func15,Tryz.ntmps15
 go_upto_region 1 with fail
 generalize (w.alloc (.cells #[.int .i64 0,.int .i64 0,.int .i64 0,.int .i64 0,.slice none 0 0,.slice none 0 0] 28))=W0 at B0 R0 ⊢
 have LZ:=aA R0.out
 go_upto_region 2 with fail
 go_wp2
 go_loopw [8,3] (fun i s wr=>∃ (j:Nat) (qq:Option Addr) (cc:Nat),j<=l.length/\i=.int .i64 (j:Int)/\s=.slice qq ((l.take j).flatMap fM).length cc/\wr.ownsRow W0.heap.size 28 6 (.slice qq ((l.take j).flatMap fM).length cc) ((l.take j).flatMap fM).length (bD ((l.take j).flatMap fM))/\Below W0.heap.size W0 wr) (fun i _ _=>l.length - (intOf i).toNat)
 case atStart=>exact⟨0,none,0,Nat.zero_le _,rfl,rfl,World.ownsRow_nil _ _ _ _,Below.refl _ _⟩
 case round=>
  obtain⟨j,qq,cc,hj,rfl,rfl,hown,hbel⟩:=hrel
  have HO:=aC hown
  have HB:=aC hbel
  have HLE:((l.take j).flatMap fM).length<=1000000:=Nat.le_trans (gV _) (Nat.le_trans (iE tR _) (by have:=iD l j;omega))
  clear hown hbel
  by_cases hjl:j < l.length
  ·have i0:(j:Int) < (l.length:Int):=by omega
   obtain⟨u,hu⟩:∃ u,l[j]?=some u:=⟨_,List.getElem?_eq_getElem hjl⟩
   obtain⟨g,off,hq,hg,six⟩:=HH.out j u hu
   have hin:u∈l:=List.mem_of_getElem? hu
   have BW:Below w.heap.size w wr:=aE B0.out HB.out lz9
   obtain⟨c0,c1,c2,c3,c4,c5⟩:=six.ck (CK.of_below BW) hg
   have HN:(l.take (j+1)).flatMap fM=(l.take j).flatMap fM ++ fM u:=by rw [List.take_add_one,hu,List.flatMap_append];simp
   have HNX:=aC HN
   have K4:Below wr.heap.size wr (wr.alloc (.cells #[.int .i64 u.f.k,.int .i64 u.f.n,.int .i64 u.f.mn,.int .i64 u.f.mx,.slice u.f.rq u.f.rs.length u.f.rc,.slice u.f.kq u.f.kl u.f.kc] 28)):=bz9
   have N4:Hid (BoxN (wr.alloc (.cells #[.int .i64 u.f.k,.int .i64 u.f.n,.int .i64 u.f.mn,.int .i64 u.f.mx,.slice u.f.rq u.f.rs.length u.f.rc,.slice u.f.kq u.f.kl u.f.kc] 28)) wr.heap.size u.f):=aG wr _
   have B4:Hid (Below W0.heap.size W0 (wr.alloc (.cells #[.int .i64 u.f.k,.int .i64 u.f.n,.int .i64 u.f.mn,.int .i64 u.f.mx,.slice u.f.rq u.f.rs.length u.f.rc,.slice u.f.kq u.f.kl u.f.kc] 28))):=HB.out.alloc HB.out.size _
   have O4:=aC (aQ HO.out (Fr.of_below (S:=fun _=>False) K4) (fun _ _ z=>z))
   have T4:=aC (((HT.out u hin).kept BW).kept K4)
   have hlu:((l.take (j+1)).flatMap fM).length<=1000000:=Nat.le_trans (gV _) (Nat.le_trans (iE tR _) (by have:=iD l (j+1);omega))
   rw [HN,List.length_append] at hlu
   rw [hq]
   clear six hu K4 BW HN
   go_upto_region 5 with fail
   generalize (wr.alloc (.cells #[.int .i64 u.f.k,.int .i64 u.f.n,.int .i64 u.f.mn,.int .i64 u.f.mx,.slice u.f.rq u.f.rs.length u.f.rc,.slice u.f.kq u.f.kl u.f.kc] 28))=W4 at N4 B4 O4 T4 ⊢
   obtain⟨n0,n1,n2,n3,n4,n5⟩:=N4.out.six
   simp only [Nat.zero_add] at n1 n2 n3 n4 n5
   have hkl:=T4.out.node.kl
   rw [hkl] at n5
   have TK:=T4.out.node.k
   rw [hkl] at TK
   have HTK:=aC TK
   clear c0 c1 c2 c3 c4 c5 TK
   generalize hout:(l.take j).flatMap fM=out at *
   by_cases k6:u.f.k=6
   ·have e6:(u.f.k==6)=true:=by simpa using k6
    have hpk:=aC (show fM u=u.ks by unfold fM;simp [k6])
    have hlu2:out.length+u.ks.length<=1000000:=by rw [<- hpk.out];exact hlu
    cases hkq:u.f.kq with
    | none=>
     rw [hkq] at n5 HTK
     have hks:u.ks=[]/\u.f.kc=0:=by
      rcases HTK.out with⟨p,cap,e,h1,h2⟩ | ⟨g',off',cap,e,-⟩
      ·injection e with e1 _ e3
       subst e1 e3
       exact⟨h1,h2 rfl⟩
      ·cases e
     rw [hks.1,hks.2,List.length_nil] at n5
     have HKS:=aC hks
     have HKQ:=aC hkq
     clear hks hkq hkl HTK k6
     go_wp2_with (at_builtin;refine wpList_append_own_none rfl _ _ 26 rfl W0.heap.size 28 t0 6 cR hi (.slice qq out.length cc) out.length (bD out) rfl O4.out rfl ?_)
     go_roundw
     case rel=>exact⟨j+1,qq,cc,by omega,by go_num,by rw [HNX.out,hpk.out,HKS.out.1,List.append_nil],by rw [HNX.out,hpk.out,HKS.out.1,List.append_nil];exact O4.out,B4.out⟩
     case measure=>simp only [intOf];omega
    | some ad=>
     rw [hkq] at n5 HTK
     have HKQ:=aC hkq
     clear hkq hkl k6
     go_wp2_with (at_builtin;refine wpList_append_own_at _ rfl _ _ 26 rfl W0.heap.size 28 t0 (.agg #[.int .i64 0,.int .i64 0,.int .i64 0,.int .i64 0,.slice none 0 0,.slice none 0 0]) 6 80 cR hi hz0 hz1 hz2 rfl (by decide) (.slice qq out.length cc) out.length (bD out) rfl O4.out ad u.ks.length u.f.kc (bD u.ks) rfl (by rw [eO]) HTK.out.news (lX u.ks) (by unfold maxLen;omega) (by omega) B4.out.size ?_;intro v' w6 hown' hgrow _ _;obtain⟨q6,cap6,rfl⟩:=aL hown';have O6:=aC hown';have B6:Hid (Below W0.heap.size W0 w6):=gW B4.out lz9 O4.out hgrow;clear hown' hgrow)
     go_roundw
     case rel=>exact⟨j+1,q6,cap6,by omega,by go_num,by rw [HNX.out,hpk.out,List.length_append],by rw [HNX.out,hpk.out,dJ,List.length_append];exact O6.out,B6.out⟩
     case measure=>simp only [intOf];omega
   ·have e6:(u.f.k==6)=false:=by simpa using k6
    have hpk:=aC (show fM u=[u] by unfold fM;simp [k6])
    have hlu2:out.length+1<=1000000:=by have:=hlu;rw [hpk.out] at this;exact this
    have K5:Below W4.heap.size W4 (W4.alloc (.cells #[.int .i64 u.f.k,.int .i64 u.f.n,.int .i64 u.f.mn,.int .i64 u.f.mx,.slice u.f.rq u.f.rs.length u.f.rc,.slice u.f.kq u.f.kl u.f.kc] 28)):=bz9
    have N5:=aC (jN (aG W4 (.cells #[.int .i64 u.f.k,.int .i64 u.f.n,.int .i64 u.f.mn,.int .i64 u.f.mx,.slice u.f.rq u.f.rs.length u.f.rc,.slice u.f.kq u.f.kl u.f.kc] 28)))
    have O5:=aC (aQ O4.out (Fr.of_below (S:=fun _=>False) K5) (fun _ _ z=>z))
    have B5:Hid (Below W0.heap.size W0 (W4.alloc (.cells #[.int .i64 u.f.k,.int .i64 u.f.n,.int .i64 u.f.mn,.int .i64 u.f.mx,.slice u.f.rq u.f.rs.length u.f.rc,.slice u.f.kq u.f.kl u.f.kc] 28))):=aE B4.out K5 lz9
    rw [<- hkl] at n5
    clear hkl K5
    go_wp2_with (at_builtin;refine wpList_append_own_at _ rfl _ _ 26 rfl W0.heap.size 28 t0 (.agg #[.int .i64 0,.int .i64 0,.int .i64 0,.int .i64 0,.slice none 0 0,.slice none 0 0]) 6 80 cR hi hz0 hz1 hz2 rfl (by decide) (.slice qq out.length cc) out.length (bD out) rfl O5.out ⟨W4.heap.size,0,none⟩ 1 1 u.f.cells rfl rfl N5.out (fun v hv=>by simp [Fl.cells] at hv;rcases hv with rfl | rfl | rfl | rfl | rfl | rfl <;> rfl) (by unfold maxLen;omega) (by omega) B5.out.size ?_;intro v' w6 hown' hgrow _ _;obtain⟨q6,cap6,rfl⟩:=aL hown';have O6:=aC hown';have B6:Hid (Below W0.heap.size W0 w6):=gW B5.out lz9 O5.out hgrow;clear hown' hgrow)
    go_roundw
    case rel=>exact⟨j+1,q6,cap6,by omega,by go_num,by rw [HNX.out,hpk.out,List.length_append];rfl,by rw [HNX.out,hpk.out,dJ,List.length_append,show bD [u]=u.f.cells by simp [bD]];exact O6.out,B6.out⟩
    case measure=>simp only [intOf];omega
  ·have i0:¬ (j:Int) < (l.length:Int):=by omega
   have he:(l.take j).flatMap fM=l.flatMap fM:=by rw [List.take_of_length_le (by omega)]
   have JN:=aC (vX 6 2 (mF HO.out) (fun u hu=>(by
    obtain⟨x,hx,hux⟩:=List.mem_flatMap.1 hu
    exact((aR6 (HT.out x (List.mem_of_mem_take hx)) hux).kept B0.out).kept HB.out)) (Nat.lt_of_le_of_lt (Nat.le_trans (iE tR _) (iD l j)) hsz) (fun a e z=>(aH HO.out (g:=a.block) (by rw [e];rfl)).2.2))
   rw [he] at JN
   have hlen:((l.take j).flatMap fM).length=(l.flatMap fM).length:=by rw [he]
   rw [hlen]
   clear he hlen HO HLE
   generalize l.flatMap fM=out at JN HX ⊢
   go_wp2_with (go_at_call 32;(with_reducible refine(JN.out).mono ?_);rintro e w5 ⟨t5,rfl,h51,h52,h53,h54⟩;have R5:w5.heap[w.heap.size]?=some (.cells #[.int .i64 0,.int .i64 0,.int .i64 0,.int .i64 0,.slice none 0 0,.slice none 0 0] 28 (0,0)):=(h54.block _ (Nat.lt_of_lt_of_le LZ HB.out.size)).trans ((HB.out.block _ LZ).trans R0.out);have r0:=aB R5 (i:=0) rfl;have r1:=aB R5 (i:=1) rfl;have r2:=aB R5 (i:=2) rfl;have r3:=aB R5 (i:=3) rfl;have r4:=aB R5 (i:=4) rfl;have r5:=aB R5 (i:=5) rfl;have fz:=fun z=>aP R5 z;have L9:=aC (jT h51 (h52.mono (fun k hk=>Nat.lt_of_lt_of_le LZ (Nat.le_trans HB.out.size hk))) R5);have X9:=aC L9.out.1;have P9:=aC L9.out.2.2;unfold bH at X9 P9;have Q5:=aC (⟨h52,h53,aE (aE B0.out HB.out lz9) h54 lz9⟩:Foot (fun k=>wr.heap.size<=k) t5/\er t5=_/\Below w.heap.size w w5);clear h51 h52 h53 h54)
   refine aU4 X9.out rfl rfl ?_
   exact⟨t5,rfl,L9.out.2.1,Q5.out.1.mono (fun k hk=>Nat.le_trans B0.out.size (Nat.le_trans HB.out.size hk)),by rw [Q5.out.2.1,<- HX.out],bM Q5.out.2.2 P9.out lz9 (fun k e=>by omega)⟩
section
mutual
def Er.sz:Er->Nat | .mk _ _ _ _ _ ks=>qW ks+1
def qW:List Er->Nat | []=>0 | x :: xs=>x.sz+qW xs
end
def Er.k:Er->Int | .mk k _ _ _ _ _=>k
def Er.ks:Er->List Er | .mk _ _ _ _ _ ks=>ks
theorem lT(x:Er):x.sz=qW x.ks+1:=by cases x;rw [Er.sz];rfl
theorem kY(x:Er)(l:List Er):qW (x :: l)=x.sz+qW l:=by rw [qW]
theorem iT:qW []=0:=by rw [qW]
theorem aZ2(t:Tr):(er t).k=t.f.k:=by rw [eL];rfl
theorem aB3(t:Tr):(er t).ks=t.ks.map er:=by rw [eL];rfl
theorem wJ(t:Tr):(er t).sz=t.sz:=by
 refine Tr.ind (P:=fun t=>(er t).sz=t.sz) (fun t ih=>?_) t
 rw [lT,aB3,lK]
 congr 1
 have:∀ l:List Tr,(∀ u∈l,(er u).sz=u.sz)->qW (l.map er)=szs l:=by
  intro l
  induction l with
  | nil=>intro _;rw [List.map_nil,iT,fR]
  | cons x l ih2=>
   intro h
   rw [List.map_cons,kY,dU,h x (List.mem_cons_self ..),ih2 (fun u hu=>h u (List.mem_cons_of_mem _ hu))]
 exact this t.ks ih
def aZ7(x:Er):List Er:=if x.k=1 then [] else if x.k=5 then x.ks else [x]
def bA4(x:Er):List Er:=if x.k=6 then x.ks else [x]
theorem aZ6(t:Tr):(eZ t).map er=aZ7 (er t):=by
 unfold eZ aZ7
 rw [aZ2,aB3]
 split
 ·rfl
 ·split <;> rfl
theorem bA3(t:Tr):(fM t).map er=bA4 (er t):=by
 unfold fM bA4
 rw [aZ2,aB3]
 split <;> rfl
theorem aQ8{x:Er}(h1:x.k≠1)(h5:x.k≠5):aZ7 x=[x]:=by unfold aZ7;rw [if_neg h1,if_neg h5]
theorem aR7{x:Er}(h6:x.k≠6):bA4 x=[x]:=by unfold bA4;rw [if_neg h6]
section
variable {V:World} {g:Nat} {t1 t2 t3:Tr}
end
end
theorem tI{t:Tr}{k n mn mx:Int}{rs:List (Int × Int)}{l:List Er}(h:er t=.mk k n mn mx rs l):t.f.k=k/\t.f.n=n/\t.f.mn=mn/\t.f.mx=mx/\t.f.rs=rs/\t.ks.map er=l:=by
 rw [eL] at h
 injection h with h1 h2 h3 h4 h5 h6
 exact⟨h1,h2,h3,h4,h5,h6⟩
theorem aX2{ks:List Tr}{x y:Er}(h:ks.map er=[x,y]):∃ a b,ks=[a,b]/\er a=x/\er b=y:=by
 match ks,h with
 | [a,b],h=>simp at h;exact⟨a,b,rfl,h.1,h.2⟩
theorem bC9(x:Ps):(te x).k=x.kd:=by
 cases x with
 | row l=>simp only [te,Ps.kd];split <;> rfl
 | _=>simp [te,Ps.kd,Er.k]
theorem aI9(x:Ps):(te x).sz=x.sz:=by
 refine Ps.ind (P:=fun x=>(te x).sz=x.sz) (fun x ih=>?_) x
 have hl:∀ l:List Ps,(∀ y∈l,(te y).sz=y.sz)->qW (tes l)=eU l:=by
  intro l
  induction l with
  | nil=>intro _;rw [tes,iT,iO]
  | cons y l ih2=>intro h;rw [tes,kY,eI,h y (List.mem_cons_self ..),ih2 (fun z hz=>h z (List.mem_cons_of_mem _ hz))]
 cases x with
 | lf k n rs=>simp only [te,Ps.sz,lT,Er.ks,iT]
 | grp n k=>rw [te,lT,Ps.sz];simp only [Er.ks];rw [kY,iT,ih k (by simp [Ps.kids])]
 | rep a b k=>rw [te,lT,Ps.sz];simp only [Er.ks];rw [kY,iT,ih k (by simp [Ps.kids])]
 | row l=>
  rw [te,Ps.sz]
  split
  ·rename_i h
   rw [List.isEmpty_iff.1 h,lT,iO];simp only [Er.ks,iT]
  ·rw [lT];simp only [Er.ks];rw [hl l ih]
 | alt l=>rw [te,Ps.sz,lT];simp only [Er.ks];rw [hl l ih]
theorem tL(a b:List El):dO (a ++ b)=max (dO a) (dO b):=by
 induction a with
 | nil=>simp [dO]
 | cons x a ih=>simp only [List.cons_append,dO,ih];omega
theorem aB5(x:Ps):∀ (t:Tr) (wy:Way),er t=te x->dO (pp wy t)=wy.length+x.dp:=by
 refine Ps.ind (P:=fun x=>∀ (t:Tr) (wy:Way),er t=te x->dO (pp wy t)=wy.length+x.dp) (fun x ih t wy h=>?_) x
 have hl:∀ (l:List Ps) (ks:List Tr) (i:Nat),(∀ y∈l,∀ (t:Tr) (wy:Way),er t=te y->dO (pp wy t)=wy.length+y.dp)->ks.map er=l.map te->dO (pps t wy i ks)=if l=[] then 0 else wy.length+1+eF l:=by
  intro l
  induction l with
  | nil=>
   intro ks i _ h
   obtain rfl:ks=[]:=by simpa using h
   rw [eP,if_pos rfl];rfl
  | cons y l ih2=>
   intro ks i h hk
   match ks,hk with
   | u :: ks,hk=>
    rw [List.map_cons,List.map_cons] at hk
    injection hk with h1 h2
    rw [eN,tL,h y (List.mem_cons_self ..) u _ h1,ih2 ks (i+1) (fun z hz=>h z (List.mem_cons_of_mem _ hz)) h2,eF,List.length_cons]
    by_cases e:l=[]
    ·subst e
     rw [if_pos rfl,if_neg (by simp),eF];omega
    ·rw [if_neg e,if_neg (by simp)];omega
 rw [mH]
 simp only [dO]
 have hks:t.ks.map er=(te x).ks:=by rw [<- aB3,h]
 cases x with
 | lf k n rs=>
  rw [te] at hks
  rw [show t.ks=[] by simpa [Er.ks] using hks,eP,Ps.dp]
  simp [dO]
 | grp n k=>
  rw [te] at hks
  rw [hl [k] t.ks 0 ih (by simpa [Er.ks] using hks),if_neg (by simp),Ps.dp,eF,eF]
  omega
 | rep a b k=>
  rw [te] at hks
  rw [hl [k] t.ks 0 ih (by simpa [Er.ks] using hks),if_neg (by simp),Ps.dp,eF,eF]
  omega
 | row l=>
  rw [te] at hks
  by_cases e:l=[]
  ·subst e
   rw [if_pos (show ([]:List Ps).isEmpty=true from rfl)] at hks
   rw [show t.ks=[] by simpa [Er.ks] using hks,eP,Ps.dp,eF]
   simp [dO]
  ·rw [if_neg (by simpa using e)] at hks
   rw [hl l t.ks 0 ih (by rw [<- gG];simpa [Er.ks] using hks),if_neg e,Ps.dp]
   omega
 | alt l=>
  rw [te] at hks
  rw [hl l t.ks 0 ih (by rw [<- gG];simpa [Er.ks] using hks),Ps.dp]
  split
  ·rename_i e;rw [e,eF];omega
  ·omega
theorem bH8{x:Ps}(h:hZ x=true)(hw:wf x):oE x.kd=true/\x.kd≠6:=by
 cases x with
 | lf k n rs=>
  rw [wf] at hw
  rcases hw with rfl | rfl | rfl | rfl <;> simp [Ps.kd,oE]
 | grp=>simp [Ps.kd,oE]
 | rep=>simp [Ps.kd,oE]
 | row l=>simp only [Ps.kd];split <;> simp [oE]
 | alt=>simp [hZ] at h
theorem aE8(x:Ps):wf x->x.sz<=2 * (pfl x).length+1/\(cC x=true->x.sz<=2 * (pfl x).length):=by
 refine Ps.ind (P:=fun x=>wf x->x.sz<=2 * (pfl x).length+1/\(cC x=true->x.sz<=2 * (pfl x).length)) (fun x ih hw=>?_) x
 cases x with
 | lf k n rs=>rw [Ps.sz,pfl];simp
 | grp n k=>
  rw [wf] at hw
  have:=(ih k (by simp [Ps.kids]) hw).1
  rw [Ps.sz,pfl]
  simp only [List.length_cons,List.length_append,List.length_nil]
  exact⟨by omega,fun _=>by omega⟩
 | rep a b k=>
  rw [wf] at hw
  have:=(ih k (by simp [Ps.kids]) hw.2).2 (mA hw.1).1
  rw [Ps.sz,pfl]
  simp only [List.length_cons,List.length_append,List.length_nil]
  exact⟨by omega,fun _=>by omega⟩
 | row l=>
  rw [wf] at hw
  obtain⟨-,h2,h3⟩:=hw
  refine⟨?_,fun z=>by cases z⟩
  rw [Ps.sz,pfl]
  have key:∀ m:List Ps,(∀ y∈m,y.sz<=2 * (pfl y).length)->eU m<=2 * (cD m).length:=by
   intro m
   induction m with
   | nil=>intro _;rw [iO,cD];simp
   | cons y m ihm=>
    intro h
    have h1:=h y (List.mem_cons_self ..)
    have h2:=ihm (fun z hz=>h z (List.mem_cons_of_mem _ hz))
    rw [eI,cD,List.length_append]
    omega
  have:=key l (fun y hy=>(ih y hy ((dA l).1 h3 y hy)).2 (by
   obtain⟨i,hi,e⟩:=List.getElem_of_mem hy
   exact(h2 i y (by rw [List.getElem?_eq_getElem hi,e])).1))
  omega
 | alt l=>
  rw [wf] at hw
  obtain⟨h1,-,h3⟩:=hw
  refine⟨?_,fun z=>by cases z⟩
  rw [Ps.sz,pfl]
  have key:∀ m:List Ps,(∀ y∈m,y.sz<=2 * (pfl y).length+1)->eU m+m.length<=2 * (cY m).length:=by
   intro m
   induction m with
   | nil=>intro _;rw [iO,cY];simp
   | cons y m ihm=>
    intro h
    have h1:=h y (List.mem_cons_self ..)
    have h2:=ihm (fun z hz=>h z (List.mem_cons_of_mem _ hz))
    rw [eI,cY,List.length_cons,List.length_cons,List.length_append]
    omega
  have:=key l (fun y hy=>(ih y hy ((dA l).1 h3 y hy)).1)
  cases l with
  | nil=>simp at h1
  | cons y l=>
   rw [cY] at this
   rw [cE]
   simp only [List.length_cons,List.length_append] at this h1 ⊢
   omega
theorem zJ{m:Md}{s:ByteArray}{T:List Tp}{D:List Dt}(h:gB m s=.ok T)(hD:D.map Prod.fst=T)(hc:∀ d∈D,IsC d.2.2 d.1.1.q):(∀ d∈D,eD d.1.1/\d.2.2.length<=1000000)/\D.length<=2000/\(∀ d∈D,TkW m d.1.1)/\D.length<=s.size:=by
 obtain⟨p,hb⟩:=pU h
 have hw:∀ d∈D,TkW m d.1.1:=fun d hd=>hb.tok d.1 (by rw [<- hD];exact List.mem_map_of_mem hd)
 have hl:D.length<=s.size:=by
  have:=nL m s
  rw [h] at this
  have:=(show Stands s T s.size from this).few
  rw [<- hD,List.length_map] at this
  exact this
 have hs:s.size<=2000:=by
  unfold gB at h
  split at h
  ·cases h
  ·omega
 exact⟨fun d hd=>⟨(hw d hd).ok,Nat.le_trans (aQ4 (hc d hd) (hw d hd).chr) (by omega)⟩,by omega,hw,hl⟩
def bJ8(f:Bool)(c:Int)(x:Int):Prop:=if f=true then gF [(c,c)] x else x=c
def EC(f:Bool)(c:Int)(E:Er):Prop:=∃ C,E=.mk 2 0 0 0 C []/\IsC C (bJ8 f c)
def zT:Tr:=.mk (bare 0) []
theorem yI(n:Nat):(madeCells (Value.agg #[.int .i64 0,.int .i64 0,.int .i64 0,.int .i64 0,.slice none 0 0,.slice none 0 0]).cells (n * 6)).toList=bD (List.replicate n zT):=by
 refine List.ext_getElem (by simp [madeCells,eO]) fun i h1 h2=>?_
 have hi:i < n * 6:=by simpa [madeCells] using h1
 have hc:(bD (List.replicate n zT))[i]?=zT.f.cells[i % 6]?:=by
  have:=jH (List.replicate n zT) (i / 6) (i % 6) zT (by rw [List.getElem?_replicate,if_pos (by omega)]) (Nat.mod_lt _ (by omega))
  rwa [show i / 6 * 6+i % 6=i by omega] at this
 have h3:(bD (List.replicate n zT))[i]?=some ((bD (List.replicate n zT))[i]):=List.getElem?_eq_getElem h2
 rw [hc] at h3
 have h4:i % 6 < 6:=Nat.mod_lt _ (by omega)
 have h5:((madeCells (Value.agg #[.int .i64 0,.int .i64 0,.int .i64 0,.int .i64 0,.slice none 0 0,.slice none 0 0]).cells (n * 6)).toList)[i]=#[.int .i64 0,.int .i64 0,.int .i64 0,.int .i64 0,.slice none 0 0,.slice none 0 0][i % 6]!:=by
  simp [madeCells,Value.cells]
 rw [h5]
 generalize i % 6=j at h3 h4
 match j,h4,h3 with
 | 0,_,h3=>injection h3
 | 1,_,h3=>injection h3
 | 2,_,h3=>injection h3
 | 3,_,h3=>injection h3
 | 4,_,h3=>injection h3
 | 5,_,h3=>injection h3
def FK(N:Nat->Prop)(t:Tr):Prop:=dQ (fun t=>∀ a,t.f.kq=some a->t.ks≠[]->N a.block) t
def FR(N:Nat->Prop)(t:Tr):Prop:=dQ (fun t=>∀ a,t.f.rq=some a->t.f.rs≠[]->N a.block) t
theorem FK.mono{N M:Nat->Prop}{t:Tr}(h:FK N t)(hm:∀ k,N k->M k):FK M t:=dD (fun _ q=>fun a e z=>hm _ (q a e z)) t h
theorem FR.mono{N M:Nat->Prop}{t:Tr}(h:FR N t)(hm:∀ k,N k->M k):FR M t:=dD (fun _ q=>fun a e z=>hm _ (q a e z)) t h
theorem aA8{N:Nat->Prop}{t:Tr}(h:Foot N t):FK N t:=dD (fun _ q=>q.2) t h
theorem aA7{N:Nat->Prop}{t:Tr}(h:Foot N t):FR N t:=dD (fun _ q=>q.1) t h
theorem bC0{N:Nat->Prop}{t:Tr}(h:FK N t)(k:FR N t):Foot N t:=iS (fun _ a b=>⟨b,a⟩) t h k
theorem TA.write{W W':World}{t:Tr}{g:Nat}(h:TA W t)(hk:FK (fun k=>k≠g) t)(hg:∃ cur,W.heap[g]?=some (.cells cur 28 (0,0)))(hf:Fr (fun z=>z=g) W W'):TA W' t:=by
 obtain⟨cur,hc⟩:=hg
 have hr:FR (fun k=>k≠g) t:=dD (fun u q=>fun a e z=>by
  obtain⟨cur2,hc2⟩:=(show NA W u from q).own.1 a e z
  exact fun e2=>by rw [e2] at hc2;rw [hc] at hc2;cases hc2) t h
 exact h.ckN (bC0 hk hr) (hf.ckeep (fun k e z=>z e))
def gS(base:Nat)(W:World)(x:Ps)(e:Ending)(w':World):Prop:=∃ t',e=.returned (.agg #[.int .i64 t'.f.k,.int .i64 t'.f.n,.int .i64 t'.f.mn,.int .i64 t'.f.mx,.slice t'.f.rq t'.f.rs.length t'.f.rc,.slice t'.f.kq t'.f.kl t'.f.kc])/\TA w' t'/\er t'=te x/\Below W.heap.size W w'/\FK (fun k=>W.heap.size<=k) t'/\FR (fun k=>base<=k) t'
def gM(base:Nat)(W:World)(x:Ps)(e:Ending)(w':World):Prop:=∃ g ks,e=.returned (.slice (some ⟨g,0,none⟩) ks.length ks.length)/\KR w' g ks/\ks.map er=x.kids.map te/\(∀ u∈ks,TA w' u/\FK (fun k=>g < k) u/\FR (fun k=>base<=k) u)/\W.heap.size<=g/\Below W.heap.size W w'/\ks.length=x.kids.length
structure NdS(w:World)(base g:Nat)(nk old:List Tr)(W:World):Prop where
 bel:Below w.heap.size w W
 row:KR W g (nk ++ old)
 new:∀ u∈nk,TA W u/\FK (fun k=>g < k) u/\FR (fun k=>base<=k) u
theorem NdS.kept{w W W':World}{base g:Nat}{nk old:List Tr}(h:NdS w base g nk old W)(hb:Below W.heap.size W W'):NdS w base g nk old W':=
 ⟨aE h.bel hb lz9,h.row.kept hb,fun u hu=>⟨(h.new u hu).1.kept hb,(h.new u hu).2⟩⟩
theorem NdS.next{w W:World}{base g j:Nat}{nk old:List Tr}{t:Tr}(h:NdS w base g nk old W)(hj:nk.length=j)(ho:old≠[])(hwg:w.heap.size<=g)(ht:TA W t)(hk:FK (fun k=>g < k) t)(hr:FR (fun k=>base<=k) t) :
  NdS w base g (nk ++ [t]) old.tail (bH W g (j * 6) t.f):=by
 have F:=cU W g (j * 6) t.f
 have hl:j < (nk ++ old).length:=by
  rw [List.length_append]
  cases old with
  | nil=>exact absurd rfl ho
  | cons x r=>simp;omega
 refine⟨bM h.bel F lz9 (fun k e=>by omega),?_,fun u hu=>?_⟩
 ·have:=h.row.set hl t
  cases old with
  | nil=>exact absurd rfl ho
  | cons x r=>
   rw [List.set_append_right _ _ (by omega),hj,Nat.sub_self,List.set_cons_zero] at this
   rw [List.append_assoc]
   exact this
 ·rcases List.mem_append.1 hu with q | q
  ·obtain⟨a,b,c⟩:=h.new u q
   exact⟨a.write (b.mono (fun k hk=>by omega)) h.row.blk F,b,c⟩
  ·simp at q
   subst q
   exact⟨ht.write (hk.mono (fun k hk=>by omega)) h.row.blk F,hk,hr⟩
theorem aM9{base:Nat}{N:Nat->Prop}{x:Ps}{W:World}{v:Value}(ih:∀ (y:Ps) (W:World) (v:Value),y∈x.kids->PV base N W y v->base<=W.heap.size->Calls Tryz.prog 27 #[v] W (gS base W y))(hsz:x.sz<=1000000)(hb:base<=W.heap.size)(h:PV base N W x v) :
  Calls Tryz.prog 56 #[v] W (gM base W x):=by
 obtain⟨T,u,F,rfl,hmeth,hcf,hc⟩:=tV h
 have WC:=aC hc
 have IH:=aC ih
 have hnl:x.kids.length<=1000000:=by
  have:∀ l:List Ps,l.length<=eU l:=by
   intro l
   induction l with
   | nil=>simp
   | cons y l ih=>rw [eI,List.length_cons];have:=iY y;omega
  have:=this x.kids
  have:=jS x
  omega
 obtain⟨n,hn⟩:∃ n,x.kids.length=n:=⟨_,rfl⟩
 have HN:=aC hn
 have WC2:Hid (Calls Tryz.prog F #[u] W fun e w'=>∃ (q:Option Addr) (c:Nat) (vs:List Value),e=.returned (.slice q n c)/\Below W.heap.size W w'/\vs.length=n/\(∀ (i:Nat) (u:Value),vs[i]?=some u->∃ g,q=some ⟨g,0,none⟩/\g < w'.heap.size/\w'.cell? ⟨g,i,none⟩=some u)/\∀ (i:Nat) (y:Ps) (u:Value),x.kids[i]?=some y->vs[i]?=some u->PV base N w' y u):=by
  have:=WC.out
  unfold bJ1 at this
  rw [hn] at this
  exact this
 rw [hn] at hnl
 obtain⟨t0,hi,hz0,hzz1,hzz2⟩:=aS fA
 have hmx:n<=maxLen:=by unfold maxLen;omega
 clear ih h hc hn WC hsz
 go_enter Tryz.func56,Tryz.ntmps56
 go_upto_region 3 with first
  |((with_reducible refine(WC2.out).mono ?_);rintro e w5 ⟨q5,c5,vs,rfl,h1,h2,h3,h4⟩;have B5:=aC h1;have L5:=aC h2;have R5:=aC h3;have V5:=aC h4;clear h1 h2 h3 h4)
  |(at_make;refine wpList_make_full _ rfl _ _ 26 rfl w5.heap.size 28 t0 (.agg #[.int .i64 0,.int .i64 0,.int .i64 0,.int .i64 0,.slice none 0 0,.slice none 0 0]) 6 cR hi hz0 hzz1 .i64 .i64 (n:Int) (n:Int) n rfl rfl rfl rfl (by rw [hzz2];omega) hmx lz9 ?_;intro w7 hown7 hg7;rw [yI] at hown7;have O7:=aC hown7;have B7:Hid (Below w5.heap.size w5 w7):=⟨hg7.os,hg7.tape,hg7.output,hg7.size,fun k hk=>hg7.block k hk (fun e=>by cases e)⟩;clear hown7 hg7)
 have KR7:=aC (KR.of_row O7.out)
 obtain⟨g,hg⟩:∃ g,w5.heap.size=g:=⟨_,rfl⟩
 rw [hg] at KR7 ⊢
 have S7:Hid (NdS w5 base g [] (List.replicate n zT) w7):=⟨B7.out,KR7.out,fun u hu=>by cases hu⟩
 have hb5:base<=w5.heap.size:=Nat.le_trans hb B5.out.size
 clear O7 B7 KR7 t0 hi hz0 hzz1 hzz2
 go_wp2
 go_loopw [14] (fun i wr=>∃ (j:Nat) (nk:List Tr),j<=n/\i=.int .i64 (j:Int)/\nk.length=j/\nk.map er=(x.kids.take j).map te/\NdS w5 base g nk (List.replicate (n - j) zT) wr) (fun i _=>n - (intOf i).toNat)
 case atStart=>exact⟨0,[],Nat.zero_le _,rfl,rfl,rfl,S7.out⟩
 case round=>
  clear S7
  obtain⟨j,nk,hj,rfl,hnk,hme,hcs⟩:=hrel
  have HS:=aC hcs
  have HME:=aC hme
  have HNK:=aC hnk
  clear hcs hme hnk
  by_cases hjl:j < n
  ·have i0:(j:Int) < (n:Int):=by omega
   obtain⟨y,hy⟩:∃ y,x.kids[j]?=some y:=⟨_,List.getElem?_eq_getElem (by have:=HN.out;omega)⟩
   obtain⟨uu,hu⟩:∃ uu,vs[j]?=some uu:=⟨_,List.getElem?_eq_getElem (by have:=L5.out;omega)⟩
   obtain⟨gq,rfl,hgq,hcell⟩:=R5.out j uu hu
   have hV:=(V5.out j y uu hy hu).kept HS.out.bel
   obtain⟨T6,u6,rfl⟩:=hV.shape
   have cc:=(HS.out.bel.cell (p:=⟨gq,j,none⟩) hgq).trans hcell
   have lg:gq < wr.heap.size:=Nat.lt_of_lt_of_le hgq HS.out.bel.size
   have hym:y∈x.kids:=List.mem_of_getElem? hy
   have CC:=IH.out y wr (.iface T6 u6) hym hV (Nat.le_trans hb5 HS.out.bel.size)
   have hug:=HS.out.row.lt
   have HRP:=aC (show List.replicate (n - j) zT=zT :: List.replicate (n - (j+1)) zT by rw [show n - j=(n - (j+1))+1 by omega,List.replicate_succ])
   have HY:=aC hy
   have CU:Hid (Calls Tryz.prog 27 #[.iface T6 u6] wr fun e w8=>∃ t5:Tr,e=.returned (.agg #[.int .i64 t5.f.k,.int .i64 t5.f.n,.int .i64 t5.f.mn,.int .i64 t5.f.mx,.slice t5.f.rq t5.f.rs.length t5.f.rc,.slice t5.f.kq t5.f.kl t5.f.kc])/\NdS w5 base g nk (List.replicate (n - j) zT) w8/\Six w8 g (j * 6) zT.f/\NdS w5 base g (nk ++ [t5]) (List.replicate (n - (j+1)) zT) (bH w8 g (j * 6) t5.f)/\er t5=te y):=CC.mono fun e w8 ⟨t5,h50,h51,h52,h53,h54,h55⟩=>(by
    have S5:=HS.out.kept h53
    have S6:=S5.next (t:=t5) (j:=j) HNK.out (by rw [HRP.out];simp) (by omega) h51 (h54.mono (fun k hk=>Nat.lt_of_lt_of_le hug hk)) h55
    rw [HRP.out] at S6
    exact⟨t5,h50,S5,S5.row.six j zT (by rw [HRP.out,List.getElem?_append_right (by have:=HNK.out;omega),HNK.out,Nat.sub_self];rfl),S6,h52⟩)
   clear hy hu hcell hV hym CC hug
   go_wp2_with (go_at_call 27;(with_reducible refine(CU.out).mono ?_);rintro e w8 ⟨t5,rfl,h51,h52,h53,h54⟩;obtain⟨y0,y1,y2,y3,y4,y5⟩:=h52;have S5:=aC h51;have fz:=fun z=>S5.out.row.frz z;unfold bH at h53;have S6:=aC h53;have E6:=aC h54;clear h51 h53 h54)
   have HEN:=aC (show (nk ++ [t5]).map er=(x.kids.take (j+1)).map te by
    rw [List.take_add_one,HY.out,List.map_append,HME.out,List.map_append]
    simp [E6.out])
   go_roundw
   case rel=>exact⟨j+1,nk ++ [t5],by omega,by go_num,by rw [List.length_append,HNK.out];rfl,HEN.out,S6.out⟩
   case measure=>simp only [intOf];omega
  ·have i0:¬ (j:Int) < (n:Int):=by omega
   have S9:=HS.out
   rw [show n - j=0 by omega,List.replicate_zero] at S9
   have hrow:=S9.row
   rw [List.append_nil] at hrow
   have hme:=HME.out
   rw [List.take_of_length_le (by have:=HN.out;omega)] at hme
   have hnl2:nk.length=n:=by have:=HNK.out;omega
   have RES:=aC (show gM base W x (.returned (.slice (some ⟨g,0,none⟩) n n)) wr from ⟨g,nk,by rw [hnl2],hrow,hme,S9.new,by have:=B5.out.size;omega,aE B5.out S9.bel lz9,by rw [hnl2,HN.out]⟩)
   clear S9 hrow hme hnl2 HS HME HNK
   go_wp2
   go_ret
   exact RES.out
theorem aS8(u:Value)(w:World):(Instr.typeAssert (.iface 120 u) 58 120 true).run Tryz.prog w=.ok (.tuple #[u,.bool true]) w:=by kernel_rfl
theorem aJ1(u:Value)(w:World):(Instr.typeAssert (.iface 122 u) 58 122 true).run Tryz.prog w=.ok (.tuple #[u,.bool true]) w:=by kernel_rfl
theorem qR(u:Value)(w:World):(Instr.typeAssert (.iface 122 u) 58 120 true).run Tryz.prog w=.ok (.tuple #[.agg #[.int .i64 0,.int .i64 0,.int .i64 0,.int .i64 0,.slice none 0 0,.slice none 0 0],.bool false]) w:=by kernel_rfl
theorem aJ0(u:Value)(w:World):(Instr.typeAssert (.iface 125 u) 58 125 true).run Tryz.prog w=.ok (.tuple #[u,.bool true]) w:=by kernel_rfl
theorem qQ(u:Value)(w:World):(Instr.typeAssert (.iface 125 u) 58 120 true).run Tryz.prog w=.ok (.tuple #[.agg #[.int .i64 0,.int .i64 0,.int .i64 0,.int .i64 0,.slice none 0 0,.slice none 0 0],.bool false]) w:=by kernel_rfl
theorem pD(u:Value)(w:World):(Instr.typeAssert (.iface 125 u) 58 122 true).run Tryz.prog w=.ok (.tuple #[.agg #[.int .i64 0,.nilIface],.bool false]) w:=by kernel_rfl
theorem bD2(u:Value)(w:World):(Instr.typeAssert (.iface 127 u) 58 127 true).run Tryz.prog w=.ok (.tuple #[u,.bool true]) w:=by kernel_rfl
theorem uC(u:Value)(w:World):(Instr.typeAssert (.iface 127 u) 58 120 true).run Tryz.prog w=.ok (.tuple #[.agg #[.int .i64 0,.int .i64 0,.int .i64 0,.int .i64 0,.slice none 0 0,.slice none 0 0],.bool false]) w:=by kernel_rfl
theorem sH(u:Value)(w:World):(Instr.typeAssert (.iface 127 u) 58 122 true).run Tryz.prog w=.ok (.tuple #[.agg #[.int .i64 0,.nilIface],.bool false]) w:=by kernel_rfl
theorem sG(u:Value)(w:World):(Instr.typeAssert (.iface 127 u) 58 125 true).run Tryz.prog w=.ok (.tuple #[.agg #[.int .i64 0,.int .i64 0,.nilIface],.bool false]) w:=by kernel_rfl
theorem aC8(u:Value)(w:World):(Instr.typeAssert (.iface 117 u) 58 117 true).run Tryz.prog w=.ok (.tuple #[u,.bool true]) w:=by kernel_rfl
theorem pE(u:Value)(w:World):(Instr.typeAssert (.iface 117 u) 58 120 true).run Tryz.prog w=.ok (.tuple #[.agg #[.int .i64 0,.int .i64 0,.int .i64 0,.int .i64 0,.slice none 0 0,.slice none 0 0],.bool false]) w:=by kernel_rfl
theorem oL(u:Value)(w:World):(Instr.typeAssert (.iface 117 u) 58 122 true).run Tryz.prog w=.ok (.tuple #[.agg #[.int .i64 0,.nilIface],.bool false]) w:=by kernel_rfl
theorem oK(u:Value)(w:World):(Instr.typeAssert (.iface 117 u) 58 125 true).run Tryz.prog w=.ok (.tuple #[.agg #[.int .i64 0,.int .i64 0,.nilIface],.bool false]) w:=by kernel_rfl
theorem qS(u:Value)(w:World):(Instr.typeAssert (.iface 117 u) 58 127 true).run Tryz.prog w=.ok (.tuple #[.agg #[.slice none 0 0],.bool false]) w:=by kernel_rfl
theorem jQ{R:Ending->World->Prop}{a:Act}{W:World}{b:Nat}{f:Fl}(h:Six W b 0 f)(ha:a.tmps[2]?.getD undef=.pointer (some ⟨b,0,none⟩))(hd:a.defers=[])(hR:R (.returned (.agg #[.int .i64 f.k,.int .i64 f.n,.int .i64 f.mn,.int .i64 f.mx,.slice f.rq f.rs.length f.rc,.slice f.kq f.kl f.kc])) W):bodyPost Tryz.prog Tryz.f27 R .ret a W:=by
 obtain⟨z0,z1,z2,z3,z4,z5⟩:=h
 simp only [Nat.zero_add] at z1 z2 z3 z4 z5
 refine bodyPost_ret (v:=.agg #[.int .i64 f.k,.int .i64 f.n,.int .i64 f.mn,.int .i64 f.mx,.slice f.rq f.rs.length f.rc,.slice f.kq f.kl f.kc]) ?_ hd hR
 simp [results,Tryz.results27,go_sem,ha,z0,z1,z2,z3,z4,z5]
abbrev aX:Obj:=.cells #[.int .i64 0,.int .i64 0,.int .i64 0,.int .i64 0,.slice none 0 0,.slice none 0 0] 28
theorem aF3{base:Nat}{N:Nat->Prop}{W:World}{k n:Int}{rs:List (Int × Int)}{v:Value}(h:PV base N W (.lf k n rs) v):Calls Tryz.prog 27 #[v] W (gS base W (.lf k n rs)):=by
 cases h with
 | lf _ _ _ q c hr hf hl=>
  have HR:=aC hr
  have ta1:=aS8 (.agg #[.int .i64 k,.int .i64 n,.int .i64 0,.int .i64 0,.slice q rs.length c,.slice none 0 0])
  clear hr
  go_enter Tryz.func27,Tryz.ntmps27
  go_wp2
  have B:Below W.heap.size W ((W.alloc (.cells #[.int .i64 k,.int .i64 n,.int .i64 0,.int .i64 0,.slice q rs.length c,.slice none 0 0] 28)).alloc (.cells #[.int .i64 k,.int .i64 n,.int .i64 0,.int .i64 0,.slice q rs.length c,.slice none 0 0] 120)):=(bz9).alloc (by simp) _
  have N1:BoxN ((W.alloc (.cells #[.int .i64 k,.int .i64 n,.int .i64 0,.int .i64 0,.slice q rs.length c,.slice none 0 0] 28)).alloc (.cells #[.int .i64 k,.int .i64 n,.int .i64 0,.int .i64 0,.slice q rs.length c,.slice none 0 0] 120)) W.heap.size ⟨k,n,0,0,rs,q,c,none,0,0⟩:=(Below.heap_alloc _ _ _ (by simp)).trans (aG W _)
  have R1:=HR.out.kept B
  refine jQ N1.six rfl rfl ⟨.mk ⟨k,n,0,0,rs,q,c,none,0,0⟩ [],rfl,(aY _).2 ⟨⟨R1.arg,.inl ⟨none,0,rfl,rfl,fun _=>rfl⟩,hf,?_,NO.rows R1 (fun a e _=>by cases e)⟩,(aW _).2 fun u hu=>by cases hu⟩,?_,B,(aY _).2 ⟨fun a e=>(by cases e),(aW _).2 fun u hu=>by cases hu⟩,(aY _).2 ⟨fun a e _=>?_,(aW _).2 fun u hu=>by cases hu⟩⟩
  ·show rs.length+3<=8796093022208
   omega
  ·rw [eL,te];rfl
  ·have e':q=some a:=e
   exact(aH R1 (g:=a.block) (by rw [e'];rfl)).1
theorem aJ2{ks:List Tr}{l:List Ps}(h:ks.map er=l.map te):szs ks=eU l:=by
 induction l generalizing ks with
 | nil=>
  obtain rfl:ks=[]:=by simpa using h
  rw [fR,iO]
 | cons x l ih=>
  match ks,h with
  | u :: ks,h=>
   rw [List.map_cons,List.map_cons] at h
   injection h with h1 h2
   rw [dU,eI,ih h2,<- wJ,h1,aI9]
theorem aQ6{ks:List Tr}{l:List Ps}(h:ks.map er=l.map te)(hi:∀ y∈l,cC y=true/\wf y):(ks.flatMap eZ).map er=l.map te:=by
 induction l generalizing ks with
 | nil=>
  obtain rfl:ks=[]:=by simpa using h
  rfl
 | cons x l ih=>
  match ks,h with
  | u :: ks,h=>
   rw [List.map_cons,List.map_cons] at h
   injection h with h1 h2
   rw [List.flatMap_cons,List.map_append,aZ6,h1,ih h2 (fun y hy=>hi y (List.mem_cons_of_mem _ hy)),List.map_cons]
   have hx:=hi x (List.mem_cons_self ..)
   have hk:x.kd≠1/\x.kd≠5:=by
    have hw:=hx.2
    cases x with
    | lf k n rs=>rw [wf] at hw;rcases hw with rfl | rfl | rfl | rfl <;> simp [Ps.kd]
    | grp=>simp [Ps.kd]
    | rep=>simp [Ps.kd]
    | row=>simp [cC] at hx
    | alt=>simp [cC] at hx
   rw [aQ8 (by rw [bC9];exact hk.1) (by rw [bC9];exact hk.2)]
   rfl
theorem aR5{ks:List Tr}{l:List Ps}(h:ks.map er=l.map te)(hi:∀ y∈l,hZ y=true/\wf y):(ks.flatMap fM).map er=l.map te:=by
 induction l generalizing ks with
 | nil=>
  obtain rfl:ks=[]:=by simpa using h
  rfl
 | cons x l ih=>
  match ks,h with
  | u :: ks,h=>
   rw [List.map_cons,List.map_cons] at h
   injection h with h1 h2
   rw [List.flatMap_cons,List.map_append,bA3,h1,ih h2 (fun y hy=>hi y (List.mem_cons_of_mem _ hy)),List.map_cons]
   have hx:=hi x (List.mem_cons_self ..)
   rw [aR7 (by rw [bC9];exact(bH8 hx.1 hx.2).2)]
   rfl
theorem bC8{l:List Ps}(h:l.length≠1):gE 5 (l.map te) (.mk 1 0 0 0 [] [])=te (.row l):=by
 rw [te]
 match l,h with
 | [],_=>rfl
 | x :: y :: l,_=>rw [gG];rfl
theorem bD1{l:List Ps}(h:2<=l.length)(no:Er):gE 6 (l.map te) no=te (.alt l):=by
 rw [te]
 match l,h with
 | x :: y :: l,_=>rw [gG];rfl
theorem mT{W:World}{bz:Nat}{t:Tr}{f:Fl}(ht:TA W t)(hk:FK (fun k=>bz < k) t)(hr:∃ cur,W.heap[bz]?=some (.cells cur 28 (0,0)))(h6:Six W bz 0 f) :
  Six (bH W bz 0 t.f) bz 0 t.f/\TA (bH W bz 0 t.f) t/\Fr (fun z=>z=bz) W (bH W bz 0 t.f)/\∃ cur,(bH W bz 0 t.f).heap[bz]?=some (.cells cur 28 (0,0)):=by
 have F:=cU W bz 0 t.f
 refine⟨fF h6,ht.write (hk.mono (fun k q=>by omega)) hr F,F,?_⟩
 unfold bH
 exact cM (cM (cM (cM (cM (cM hr _ _) _ _) _ _) _ _) _ _) _ _
theorem aN0{base:Nat}{N:Nat->Prop}{W:World}{l:List Ps}{v:Value}(h:PV base N W (.row l) v)(hw:wf (.row l))(hb:base<=W.heap.size)(hsz:(Ps.row l).sz<=100000)
  (nd:∀ W v,PV base N W (.row l) v->base<=W.heap.size->Calls Tryz.prog 56 #[v] W (gM base W (.row l))):Calls Tryz.prog 27 #[v] W (gS base W (.row l)):=by
 have HV:=aC h
 rw [wf] at hw
 obtain⟨hw1,hw2,hw3⟩:=hw
 cases h with
 | row _ vs q c hl ho hN he=>
  have ta0:=uC (.agg #[.slice q l.length c])
  have ta1:=sH (.agg #[.slice q l.length c])
  have ta2:=sG (.agg #[.slice q l.length c])
  have ta3:=bD2 (.agg #[.slice q l.length c])
  have B2:Hid (Below W.heap.size W ((W.alloc aX).alloc (.cells #[.slice q l.length c] 127))):=(bz9).alloc (by simp) _
  have Z2:Hid (((W.alloc aX).alloc (.cells #[.slice q l.length c] 127)).heap[W.heap.size]?=some aX):=(Below.heap_alloc _ _ _ (by simp)).trans (aG W _)
  have M2:((W.alloc aX).alloc (.cells #[.slice q l.length c] 127)).heap[W.heap.size+1]?=some (.cells #[.slice q l.length c] 127 (0,0)):=(by
   have:=aG (W.alloc aX) (.cells #[.slice q l.length c] 127)
   rwa [World.size_alloc] at this)
  have HM2:=aC M2
  have ND:=aC (nd _ _ (HV.out.kept B2.out) (Nat.le_trans hb B2.out.size))
  have HX:=aC (show ∀ ks:List Tr,ks.map er=(Ps.row l).kids.map te->szs ks < 1000000/\gE 5 ((ks.flatMap eZ).map er) (.mk 1 0 0 0 [] [])=te (.row l) from fun ks hk=>⟨by rw [aJ2 hk];have:=jS (.row l);omega,by
   rw [aQ6 (l:=l) hk (fun y hy=>by
    obtain⟨i,hi,e⟩:=List.getElem_of_mem hy
    exact⟨(hw2 i y (by rw [List.getElem?_eq_getElem hi,e])).1,(dA l).1 hw3 y hy⟩),bC8 hw1]⟩)
  clear hl ho hN he hw1 hw2 hw3 hsz nd M2
  go_enter Tryz.func27,Tryz.ntmps27
  go_upto_region 13 with fail
  generalize ((W.alloc aX).alloc (.cells #[.slice q l.length c] 127))=W2 at B2 Z2 HM2 ND ⊢
  have c0:=aB HM2.out (i:=0) rfl
  have lm:=aA HM2.out
  go_upto_region 17 with first
   |(go_at_call 56;(with_reducible refine(ND.out).mono ?_);rintro e w5 ⟨g5,ks,rfl,h51,h52,h53,h54,h55,h56⟩;have R5:=aC h51;have E5:=aC h52;have A5:=aC h53;have G5:=aC h54;have B5:=aC h55;have LN5:=aC h56;have CT:=aC (bI6 (R5.out.arg (Nat.le_refl ks.length) (by unfold maxLen;have:=gV ks;have:=(HX.out ks E5.out).1;omega)) (fun u hu=>(A5.out u hu).1) (HX.out ks E5.out).1);clear h51 h52 h53 h54 h55 h56)
   |(go_at_call 38;(with_reducible refine(CT.out).mono ?_);rintro e w6 ⟨t6,rfl,h61,h62,h63,h64⟩;have Z6:w6.heap[W.heap.size]?=some aX:=(h64.block _ (Nat.lt_of_lt_of_le (aA Z2.out) B5.out.size)).trans ((B5.out.block _ (aA Z2.out)).trans Z2.out);have lz:=aA Z2.out;have s5:=B5.out.size;have s2:=B2.out.size;have r0:=aB Z6 (i:=0) rfl;have r1:=aB Z6 (i:=1) rfl;have r2:=aB Z6 (i:=2) rfl;have r3:=aB Z6 (i:=3) rfl;have r4:=aB Z6 (i:=4) rfl;have r5:=aB Z6 (i:=5) rfl;have fz:=fun z=>aP Z6 z;have FKT:=aC ((aA8 h62).mono (M:=fun k=>W.heap.size < k) (fun k hk=>by omega));have L9:=aC (mT (bz:=W.heap.size) (f:=bare 0) h61 FKT.out ⟨_,Z6⟩ ⟨r0,r1,r2,r3,r4,r5⟩);unfold bH at L9;have P6:=aC h62;have E6:=aC h63;have BW6:=aC (aE (aE B2.out B5.out lz9) h64 lz9);clear h61 h62 h63 h64)
  have RES:Hid (∀ W9,TA W9 t6->Below W.heap.size W W9->gS base W (.row l) (.returned (.agg #[.int .i64 t6.f.k,.int .i64 t6.f.n,.int .i64 t6.f.mn,.int .i64 t6.f.mx,.slice t6.f.rq t6.f.rs.length t6.f.rc,.slice t6.f.kq t6.f.kl t6.f.kc])) W9):=fun W9 h1 h2=>⟨t6,rfl,h1,by rw [E6.out,(HX.out ks E5.out).2],h2,FKT.out.mono (fun k hk=>by omega),(aA7 P6.out).mono (fun k hk=>by omega)⟩
  have L10:Hid (Six ((((((w6.setCell ⟨W.heap.size,0,none⟩ (.int .i64 t6.f.k)).setCell ⟨W.heap.size,1,none⟩ (.int .i64 t6.f.n)).setCell ⟨W.heap.size,2,none⟩ (.int .i64 t6.f.mn)).setCell ⟨W.heap.size,3,none⟩ (.int .i64 t6.f.mx)).setCell ⟨W.heap.size,4,none⟩ (.slice t6.f.rq t6.f.rs.length t6.f.rc)).setCell ⟨W.heap.size,5,none⟩ (.slice t6.f.kq t6.f.kl t6.f.kc)) W.heap.size 0 t6.f/\TA ((((((w6.setCell ⟨W.heap.size,0,none⟩ (.int .i64 t6.f.k)).setCell ⟨W.heap.size,1,none⟩ (.int .i64 t6.f.n)).setCell ⟨W.heap.size,2,none⟩ (.int .i64 t6.f.mn)).setCell ⟨W.heap.size,3,none⟩ (.int .i64 t6.f.mx)).setCell ⟨W.heap.size,4,none⟩ (.slice t6.f.rq t6.f.rs.length t6.f.rc)).setCell ⟨W.heap.size,5,none⟩ (.slice t6.f.kq t6.f.kl t6.f.kc)) t6/\Fr (fun z=>z=W.heap.size) w6 ((((((w6.setCell ⟨W.heap.size,0,none⟩ (.int .i64 t6.f.k)).setCell ⟨W.heap.size,1,none⟩ (.int .i64 t6.f.n)).setCell ⟨W.heap.size,2,none⟩ (.int .i64 t6.f.mn)).setCell ⟨W.heap.size,3,none⟩ (.int .i64 t6.f.mx)).setCell ⟨W.heap.size,4,none⟩ (.slice t6.f.rq t6.f.rs.length t6.f.rc)).setCell ⟨W.heap.size,5,none⟩ (.slice t6.f.kq t6.f.kl t6.f.kc))/\∃ cur,((((((w6.setCell ⟨W.heap.size,0,none⟩ (.int .i64 t6.f.k)).setCell ⟨W.heap.size,1,none⟩ (.int .i64 t6.f.n)).setCell ⟨W.heap.size,2,none⟩ (.int .i64 t6.f.mn)).setCell ⟨W.heap.size,3,none⟩ (.int .i64 t6.f.mx)).setCell ⟨W.heap.size,4,none⟩ (.slice t6.f.rq t6.f.rs.length t6.f.rc)).setCell ⟨W.heap.size,5,none⟩ (.slice t6.f.kq t6.f.kl t6.f.kc)).heap[W.heap.size]?=some (.cells cur 28 (0,0))):=L9.out
  generalize ((((((w6.setCell ⟨W.heap.size,0,none⟩ (.int .i64 t6.f.k)).setCell ⟨W.heap.size,1,none⟩ (.int .i64 t6.f.n)).setCell ⟨W.heap.size,2,none⟩ (.int .i64 t6.f.mn)).setCell ⟨W.heap.size,3,none⟩ (.int .i64 t6.f.mx)).setCell ⟨W.heap.size,4,none⟩ (.slice t6.f.rq t6.f.rs.length t6.f.rc)).setCell ⟨W.heap.size,5,none⟩ (.slice t6.f.kq t6.f.kl t6.f.kc))=W7 at L10 ⊢
  clear L9 r0 r1 r2 r3 r4 r5 fz
  obtain⟨k0,k1,k2,k3,k4,k5⟩:=L10.out.1
  simp only [Nat.zero_add] at k1 k2 k3 k4 k5
  obtain⟨cur7,hc7⟩:=L10.out.2.2.2
  have HC7:=aC hc7
  have fz:=fun z=>aP HC7.out z
  have l7:=aA hc7
  have L11:=aC (mT (bz:=W.heap.size) L10.out.2.1 FKT.out ⟨cur7,HC7.out⟩ L10.out.1)
  unfold bH at L11
  clear hc7
  go_wp2
  refine jQ L11.out.1 rfl rfl ?_
  exact RES.out _ L11.out.2.1 (bM (bM BW6.out L10.out.2.2.1 lz9 (fun k e=>by omega)) L11.out.2.2.1 lz9 (fun k e=>by omega))
theorem vF{base:Nat}{N:Nat->Prop}{W:World}{l:List Ps}{v:Value}(h:PV base N W (.alt l) v)(hw:wf (.alt l))(hb:base<=W.heap.size)(hsz:(Ps.alt l).sz<=100000)
  (nd:∀ W v,PV base N W (.alt l) v->base<=W.heap.size->Calls Tryz.prog 56 #[v] W (gM base W (.alt l))):Calls Tryz.prog 27 #[v] W (gS base W (.alt l)):=by
 have HV:=aC h
 rw [wf] at hw
 obtain⟨hw1,hw2,hw3⟩:=hw
 cases h with
 | alt _ vs q c hl ho hN he=>
  have ta0:=pE (.agg #[.slice q l.length c])
  have ta1:=oL (.agg #[.slice q l.length c])
  have ta2:=oK (.agg #[.slice q l.length c])
  have ta3:=qS (.agg #[.slice q l.length c])
  have ta4:=aC8 (.agg #[.slice q l.length c])
  have B2:Hid (Below W.heap.size W ((W.alloc aX).alloc (.cells #[.slice q l.length c] 117))):=(bz9).alloc (by simp) _
  have Z2:Hid (((W.alloc aX).alloc (.cells #[.slice q l.length c] 117)).heap[W.heap.size]?=some aX):=(Below.heap_alloc _ _ _ (by simp)).trans (aG W _)
  have M2:((W.alloc aX).alloc (.cells #[.slice q l.length c] 117)).heap[W.heap.size+1]?=some (.cells #[.slice q l.length c] 117 (0,0)):=(by
   have:=aG (W.alloc aX) (.cells #[.slice q l.length c] 117)
   rwa [World.size_alloc] at this)
  have HM2:=aC M2
  have ND:=aC (nd _ _ (HV.out.kept B2.out) (Nat.le_trans hb B2.out.size))
  have HX:=aC (show ∀ ks:List Tr,ks.map er=(Ps.alt l).kids.map te->szs ks < 1000000/\gE 6 ((ks.flatMap fM).map er) (.mk 2 0 0 0 [] [])=te (.alt l) from fun ks hk=>⟨by rw [aJ2 hk];have:=jS (.alt l);omega,by
   rw [aR5 (l:=l) hk (fun y hy=>⟨hw2 y hy,(dA l).1 hw3 y hy⟩),bD1 hw1]⟩)
  clear hl ho hN he hw1 hw2 hw3 hsz nd M2
  go_enter Tryz.func27,Tryz.ntmps27
  go_upto_region 16 with fail
  generalize ((W.alloc aX).alloc (.cells #[.slice q l.length c] 117))=W2 at B2 Z2 HM2 ND ⊢
  have c0:=aB HM2.out (i:=0) rfl
  have lm:=aA HM2.out
  go_upto_region 17 with first
   |(go_at_call 56;(with_reducible refine(ND.out).mono ?_);rintro e w5 ⟨g5,ks,rfl,h51,h52,h53,h54,h55,h56⟩;have R5:=aC h51;have E5:=aC h52;have A5:=aC h53;have G5:=aC h54;have B5:=aC h55;have LN5:=aC h56;have CT:=aC (bJ0 (R5.out.arg (Nat.le_refl ks.length) (by unfold maxLen;have:=gV ks;have:=(HX.out ks E5.out).1;omega)) (fun u hu=>(A5.out u hu).1) (HX.out ks E5.out).1);clear h51 h52 h53 h54 h55 h56)
   |(go_at_call 15;(with_reducible refine(CT.out).mono ?_);rintro e w6 ⟨t6,rfl,h61,h62,h63,h64⟩;have Z6:w6.heap[W.heap.size]?=some aX:=(h64.block _ (Nat.lt_of_lt_of_le (aA Z2.out) B5.out.size)).trans ((B5.out.block _ (aA Z2.out)).trans Z2.out);have lz:=aA Z2.out;have s5:=B5.out.size;have s2:=B2.out.size;have r0:=aB Z6 (i:=0) rfl;have r1:=aB Z6 (i:=1) rfl;have r2:=aB Z6 (i:=2) rfl;have r3:=aB Z6 (i:=3) rfl;have r4:=aB Z6 (i:=4) rfl;have r5:=aB Z6 (i:=5) rfl;have fz:=fun z=>aP Z6 z;have FKT:=aC ((aA8 h62).mono (M:=fun k=>W.heap.size < k) (fun k hk=>by omega));have L9:=aC (mT (bz:=W.heap.size) (f:=bare 0) h61 FKT.out ⟨_,Z6⟩ ⟨r0,r1,r2,r3,r4,r5⟩);unfold bH at L9;have P6:=aC h62;have E6:=aC h63;have BW6:=aC (aE (aE B2.out B5.out lz9) h64 lz9);clear h61 h62 h63 h64)
  have RES:Hid (∀ W9,TA W9 t6->Below W.heap.size W W9->gS base W (.alt l) (.returned (.agg #[.int .i64 t6.f.k,.int .i64 t6.f.n,.int .i64 t6.f.mn,.int .i64 t6.f.mx,.slice t6.f.rq t6.f.rs.length t6.f.rc,.slice t6.f.kq t6.f.kl t6.f.kc])) W9):=fun W9 h1 h2=>⟨t6,rfl,h1,by rw [E6.out,(HX.out ks E5.out).2],h2,FKT.out.mono (fun k hk=>by omega),(aA7 P6.out).mono (fun k hk=>by omega)⟩
  have L10:Hid (Six ((((((w6.setCell ⟨W.heap.size,0,none⟩ (.int .i64 t6.f.k)).setCell ⟨W.heap.size,1,none⟩ (.int .i64 t6.f.n)).setCell ⟨W.heap.size,2,none⟩ (.int .i64 t6.f.mn)).setCell ⟨W.heap.size,3,none⟩ (.int .i64 t6.f.mx)).setCell ⟨W.heap.size,4,none⟩ (.slice t6.f.rq t6.f.rs.length t6.f.rc)).setCell ⟨W.heap.size,5,none⟩ (.slice t6.f.kq t6.f.kl t6.f.kc)) W.heap.size 0 t6.f/\TA ((((((w6.setCell ⟨W.heap.size,0,none⟩ (.int .i64 t6.f.k)).setCell ⟨W.heap.size,1,none⟩ (.int .i64 t6.f.n)).setCell ⟨W.heap.size,2,none⟩ (.int .i64 t6.f.mn)).setCell ⟨W.heap.size,3,none⟩ (.int .i64 t6.f.mx)).setCell ⟨W.heap.size,4,none⟩ (.slice t6.f.rq t6.f.rs.length t6.f.rc)).setCell ⟨W.heap.size,5,none⟩ (.slice t6.f.kq t6.f.kl t6.f.kc)) t6/\Fr (fun z=>z=W.heap.size) w6 ((((((w6.setCell ⟨W.heap.size,0,none⟩ (.int .i64 t6.f.k)).setCell ⟨W.heap.size,1,none⟩ (.int .i64 t6.f.n)).setCell ⟨W.heap.size,2,none⟩ (.int .i64 t6.f.mn)).setCell ⟨W.heap.size,3,none⟩ (.int .i64 t6.f.mx)).setCell ⟨W.heap.size,4,none⟩ (.slice t6.f.rq t6.f.rs.length t6.f.rc)).setCell ⟨W.heap.size,5,none⟩ (.slice t6.f.kq t6.f.kl t6.f.kc))/\∃ cur,((((((w6.setCell ⟨W.heap.size,0,none⟩ (.int .i64 t6.f.k)).setCell ⟨W.heap.size,1,none⟩ (.int .i64 t6.f.n)).setCell ⟨W.heap.size,2,none⟩ (.int .i64 t6.f.mn)).setCell ⟨W.heap.size,3,none⟩ (.int .i64 t6.f.mx)).setCell ⟨W.heap.size,4,none⟩ (.slice t6.f.rq t6.f.rs.length t6.f.rc)).setCell ⟨W.heap.size,5,none⟩ (.slice t6.f.kq t6.f.kl t6.f.kc)).heap[W.heap.size]?=some (.cells cur 28 (0,0))):=L9.out
  generalize ((((((w6.setCell ⟨W.heap.size,0,none⟩ (.int .i64 t6.f.k)).setCell ⟨W.heap.size,1,none⟩ (.int .i64 t6.f.n)).setCell ⟨W.heap.size,2,none⟩ (.int .i64 t6.f.mn)).setCell ⟨W.heap.size,3,none⟩ (.int .i64 t6.f.mx)).setCell ⟨W.heap.size,4,none⟩ (.slice t6.f.rq t6.f.rs.length t6.f.rc)).setCell ⟨W.heap.size,5,none⟩ (.slice t6.f.kq t6.f.kl t6.f.kc))=W7 at L10 ⊢
  clear L9 r0 r1 r2 r3 r4 r5 fz
  obtain⟨k0,k1,k2,k3,k4,k5⟩:=L10.out.1
  simp only [Nat.zero_add] at k1 k2 k3 k4 k5
  obtain⟨cur7,hc7⟩:=L10.out.2.2.2
  have HC7:=aC hc7
  have fz:=fun z=>aP HC7.out z
  have l7:=aA hc7
  have L11:=aC (mT (bz:=W.heap.size) L10.out.2.1 FKT.out ⟨cur7,HC7.out⟩ L10.out.1)
  unfold bH at L11
  clear hc7
  go_wp2
  refine jQ L11.out.1 rfl rfl ?_
  exact RES.out _ L11.out.2.1 (bM (bM BW6.out L10.out.2.2.1 lz9 (fun k e=>by omega)) L11.out.2.2.1 lz9 (fun k e=>by omega))
end Go.Proofs.YtpfdapnfkghgkaaGreatDoor
