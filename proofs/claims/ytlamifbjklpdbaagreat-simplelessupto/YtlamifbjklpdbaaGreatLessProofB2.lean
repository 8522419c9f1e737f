/-
  Parts of the proof.
-/
import Derived.Test.YtlamifbjklpdbaaGreatLessProofA0
import Derived.Test.YtlamifbjklpdbaaGreatLessProofB1
import Derived.Test.YtlamifbjklpdbaaGreatLessProofB0
set_option linter.unusedSimpArgs false
set_option maxRecDepth 100000
set_option maxHeartbeats 8000000
namespace Go.Proofs.YtlamifbjklpdbaaGreat
open Go Go.RowKit
def fR(k:Int)(l:List Er)(no:Er):Er:=match l with | []=>no | [x]=>x | x :: y :: r=>.mk k 0 0 0 [] (x :: y :: r)
def dO(k:Int):Fl:=⟨k,0,0,0,[],none,0,none,0,0⟩
theorem qH(W:World)(k:Int):TA W (.mk (dO k) []):=(aL _).2 ⟨⟨.inl ⟨none,0,rfl,rfl,fun _=>rfl⟩,.inl ⟨none,0,rfl,rfl,fun _=>rfl⟩,eE,by simp [Tr.f,dO],⟨fun a e=>(by cases e),fun a e=>(by cases e)⟩⟩,(aO _).2 fun u hu=>by cases hu⟩
theorem jJ(N:Nat->Prop)(k:Int):Foot N (.mk (dO k) []):=(aL _).2 ⟨⟨fun a e=>(by cases e),fun a e=>(by cases e)⟩,(aO _).2 fun u hu=>by cases hu⟩
theorem jV{R:Ending->World->Prop}{a:Act}{W:World}{b:Nat}{f:Fl}(h:Six W b 0 f)(ha:a.tmps[6]?.getD undef=.pointer (some ⟨b,0,none⟩))(hd:a.defers=[])(hR:R (.returned (.agg #[.int .i64 f.k,.int .i64 f.n,.int .i64 f.mn,.int .i64 f.mx,.slice f.rq f.rs.length f.rc,.slice f.kq f.kl f.kc])) W):bodyPost Tryz.prog Tryz.f88 R .ret a W:=by
 obtain⟨z0,z1,z2,z3,z4,z5⟩:=h
 simp only [a7] at z1 z2 z3 z4 z5
 refine bodyPost_ret (v:=.agg #[.int .i64 f.k,.int .i64 f.n,.int .i64 f.mn,.int .i64 f.mx,.slice f.rq f.rs.length f.rc,.slice f.kq f.kl f.kc]) ?_ hd hR
 simp [results,Tryz.results88,go_sem,ha,z0,z1,z2,z3,z4,z5]
theorem gL{W:World}{bz:Nat}{t:Tr}(ht:TA W t)(hf:Foot (fun k=>bz<k) t)(hr:W.heap[bz]?=some (.cells #[.int .i64 0,.int .i64 0,.int .i64 0,.int .i64 0,.slice none 0 0,.slice none 0 0] 25 (0,0))) :
  Six (bH W bz 0 t.f) bz 0 t.f/\TA (bH W bz 0 t.f) t/\Fr (fun z=>z=bz) W (bH W bz 0 t.f):=by
 have F:=cE W bz 0 t.f
 refine⟨cJ (f:=⟨0,0,0,0,[],none,0,none,0,0⟩) ⟨aA hr (i:=0) rfl,aA hr (i:=1) rfl,aA hr (i:=2) rfl,aA hr (i:=3) rfl,aA hr (i:=4) rfl,aA hr (i:=5) rfl⟩,ht.ckN hf (F.ckeep (fun k e z=>by omega)),F⟩
theorem rI{w:World}(kind k0:Int){q:Option Addr}{c:Nat}{ks:List Tr}(h:ArgK w (.slice q ks.length c) ks)(hta:∀ u∈ks,TA w u)(hsz:szs ks<1000000)(hown:∀ a,q=some a->ks≠[]->∃ cur,w.heap[a.block]?=some (.cells cur 25 (0,0))) :
  Calls Tryz.prog 88 #[.int .i64 kind,.slice q ks.length c,.agg #[.int .i64 k0,.int .i64 0,.int .i64 0,.int .i64 0,.slice none 0 0,.slice none 0 0]] w (iV w (fR kind (ks.map er) (.mk k0 0 0 0 [] []))):=by
 have B0:Hid (Below w.heap.size w ((w.alloc (.cells #[.int .i64 k0,.int .i64 0,.int .i64 0,.int .i64 0,.slice none 0 0,.slice none 0 0] 25)).alloc (.cells #[.int .i64 0,.int .i64 0,.int .i64 0,.int .i64 0,.slice none 0 0,.slice none 0 0] 25))):=(bz9).alloc (by simp) _
 have N0:Hid (BoxN ((w.alloc (.cells #[.int .i64 k0,.int .i64 0,.int .i64 0,.int .i64 0,.slice none 0 0,.slice none 0 0] 25)).alloc (.cells #[.int .i64 0,.int .i64 0,.int .i64 0,.int .i64 0,.slice none 0 0,.slice none 0 0] 25)) w.heap.size (dO k0)):=(Below.heap_alloc _ _ _ (by simp)).trans (aD w _)
 have R0:Hid (((w.alloc (.cells #[.int .i64 k0,.int .i64 0,.int .i64 0,.int .i64 0,.slice none 0 0,.slice none 0 0] 25)).alloc (.cells #[.int .i64 0,.int .i64 0,.int .i64 0,.int .i64 0,.slice none 0 0,.slice none 0 0] 25)).heap[w.heap.size+1]?=some (.cells #[.int .i64 0,.int .i64 0,.int .i64 0,.int .i64 0,.slice none 0 0,.slice none 0 0] 25 (0,0))):=(by
  have:=aD (w.alloc (.cells #[.int .i64 k0,.int .i64 0,.int .i64 0,.int .i64 0,.slice none 0 0,.slice none 0 0] 25)) (.cells #[.int .i64 0,.int .i64 0,.int .i64 0,.int .i64 0,.slice none 0 0,.slice none 0 0] 25)
  rwa [m8] at this)
 obtain⟨X,hX⟩:∃ X,fR kind (ks.map er) (.mk k0 0 0 0 [] [])=X:=⟨_,rfl⟩
 rw [hX]
 have HX:=aB hX
 have HH:=aB h
 have HT:=aB hta
 have HW:=aB hown
 clear hX h hta hown
 go_enter Tryz.func88,Tryz.ntmps88
 go_upto_region 1 with fail
 generalize ((w.alloc (.cells #[.int .i64 k0,.int .i64 0,.int .i64 0,.int .i64 0,.slice none 0 0,.slice none 0 0] 25)).alloc (.cells #[.int .i64 0,.int .i64 0,.int .i64 0,.int .i64 0,.slice none 0 0,.slice none 0 0] 25))=W0 at B0 N0 R0 ⊢
 obtain⟨bz,hbz⟩:∃ bz,w.heap.size+1=bz:=⟨_,rfl⟩
 rw [hbz] at R0 ⊢
 have LZ:=aC R0.out
 match ks,HH,HT,hsz,HX,HW with
 | [],HH,HT,hsz,HX,HW=>
  obtain⟨n0,n1,n2,n3,n4,n5⟩:=N0.out.six
  simp only [a7,dO,List.length_nil] at n0 n1 n2 n3 n4 n5
  have r0:=aA R0.out (i:=0) rfl
  have r1:=aA R0.out (i:=1) rfl
  have r2:=aA R0.out (i:=2) rfl
  have r3:=aA R0.out (i:=3) rfl
  have r4:=aA R0.out (i:=4) rfl
  have r5:=aA R0.out (i:=5) rfl
  have fz:=fun z=>aJ R0.out z
  have L9:=aB (gL (qH W0 k0) (jJ (fun k=>bz<k) k0) R0.out)
  have X9:=aB L9.out.1
  have P9:=aB L9.out.2.2
  unfold bH at X9 P9
  simp only [Tr.f,dO] at X9 P9
  go_wp2
  refine jV X9.out rfl rfl ?_
  exact⟨.mk (dO k0) [],rfl,L9.out.2.1,jJ _ _,by rw [<- HX.out,bQ];rfl,aX B0.out P9.out lz9 (fun k e=>by omega)⟩
 | [u],HH,HT,hsz,HX,HW=>
  obtain⟨q',c',e,-,-,hx⟩:=HH.out.slice
  injection e with e1 _ e3
  subst e1 e3
  obtain⟨g,off,rfl,hg,six⟩:=hx 0 u rfl
  obtain⟨c0,c1,c2,c3,c4,c5⟩:=six.ck (CK.of_below B0.out) hg
  simp only [Nat.zero_mul,aAE] at c0 c1 c2 c3 c4 c5
  have CP:=aB (oU ((HT.out u (by simp)).kept B0.out) (by rw [bK,dJ] at hsz;omega))
  simp only [i9,List.length_nil,a7]
  clear six hx
  go_wp2_with (go_at_call 99;(with_reducible refine(CP.out).mono ?_);rintro e w5 ⟨t5,rfl,h51,h52,h53,h54⟩;have R5:w5.heap[bz]?=some (.cells #[.int .i64 0,.int .i64 0,.int .i64 0,.int .i64 0,.slice none 0 0,.slice none 0 0] 25 (0,0)):=(h54.block _ LZ).trans R0.out;have r0:=aA R5 (i:=0) rfl;have r1:=aA R5 (i:=1) rfl;have r2:=aA R5 (i:=2) rfl;have r3:=aA R5 (i:=3) rfl;have r4:=aA R5 (i:=4) rfl;have r5:=aA R5 (i:=5) rfl;have fz:=fun z=>aJ R5 z;have L9:=aB (gL h51 (h52.mono (fun k hk=>j2 LZ hk)) R5);have X9:=aB L9.out.1;have P9:=aB L9.out.2.2;unfold bH at X9 P9;have Q5:=aB (⟨h52,h53,aF B0.out h54 lz9⟩:Foot (fun k=>W0.heap.size<=k) t5/\er t5=_/\Below w.heap.size w w5);clear h51 h52 h53 h54)
  refine jV X9.out rfl rfl ?_
  exact⟨t5,rfl,L9.out.2.1,Q5.out.1.mono (fun k hk=>j4 B0.out.size hk),by rw [Q5.out.2.1,<- HX.out];rfl,aX Q5.out.2.2 P9.out lz9 (fun k e=>by omega)⟩
 | u :: v :: r,HH,HT,hsz,HX,HW=>
  have TT:TA W0 (.mk ⟨kind,0,0,0,[],none,0,q,(u :: v :: r).length,c⟩ (u :: v :: r)):=(aL _).2 ⟨⟨.inl ⟨none,0,rfl,rfl,fun _=>rfl⟩,HH.out.ck (CK.of_below B0.out),eE,by simp [Tr.f],⟨fun a e=>(by cases e),fun a e z=>(by obtain⟨cur,y⟩:=HW.out a e z;exact⟨cur,(B0.out.block _ (aC y)).trans y⟩)⟩⟩,(aO _).2 fun y hy=>(HT.out y hy).kept B0.out⟩
  have CP:=aB (oU TT (by rw [dY];exact hsz))
  simp only [Tr.f,List.length_nil] at CP
  obtain⟨n,hn⟩:∃ n,(u :: v :: r).length=n:=⟨_,rfl⟩
  rw [hn] at CP ⊢
  have h0:((n:Int)==0)=false:=by simp at hn ⊢;omega
  have h1:((n:Int)==1)=false:=by simp at hn ⊢;omega
  clear hn TT
  go_wp2_with (go_at_call 99;(with_reducible refine(CP.out).mono ?_);rintro e w5 ⟨t5,rfl,h51,h52,h53,h54⟩;have R5:w5.heap[bz]?=some (.cells #[.int .i64 0,.int .i64 0,.int .i64 0,.int .i64 0,.slice none 0 0,.slice none 0 0] 25 (0,0)):=(h54.block _ LZ).trans R0.out;have r0:=aA R5 (i:=0) rfl;have r1:=aA R5 (i:=1) rfl;have r2:=aA R5 (i:=2) rfl;have r3:=aA R5 (i:=3) rfl;have r4:=aA R5 (i:=4) rfl;have r5:=aA R5 (i:=5) rfl;have fz:=fun z=>aJ R5 z;have L9:=aB (gL h51 (h52.mono (fun k hk=>j2 LZ hk)) R5);have X9:=aB L9.out.1;have P9:=aB L9.out.2.2;unfold bH at X9 P9;have Q5:=aB (⟨h52,h53,aF B0.out h54 lz9⟩:Foot (fun k=>W0.heap.size<=k) t5/\er t5=_/\Below w.heap.size w w5);clear h51 h52 h53 h54)
  refine jV X9.out rfl rfl ?_
  exact⟨t5,rfl,L9.out.2.1,Q5.out.1.mono (fun k hk=>j4 B0.out.size hk),by rw [Q5.out.2.1,<- HX.out,bQ];rfl,aX Q5.out.2.2 P9.out lz9 (fun k e=>by omega)⟩
section
open Go Go.RowKit Go.Shelf
attribute [local go_sem] Oper.semAt_some
def eL:List El->Nat
 | []=>0
 | x :: r=>max (x.1.length+1) (eL r)
def aI:List El->Nat
 | []=>0
 | x :: r=>(if x.2.f.k=7 then 1 else 0)+aI r
theorem cS(a b:List El):aI (a++b)=aI a+aI b:=by
 induction a with
 | nil=>simp [aI]
 | cons y a ih=>simp only [l7,aI,ih];omega
theorem eP(a:List El)(x:El):aI (a++[x])=aI a+(if x.2.f.k=7 then 1 else 0):=by rw [cS];simp [aI]
theorem mI(a:List El):aI a<=a.length:=by
 induction a with
 | nil=>simp [aI]
 | cons y a ih=>simp only [aI,i9];split <;> omega
theorem oG{t:Tr}:∀ {pre:List El} {x:El},pre++[x] <+: pp [] t->x.1.length<=pre.length:=by
 intro pre
 have:∀ (m:Nat) (pre:List El),pre.length=m->∀ x,pre++[x] <+: pp [] t->x.1.length<=m:=by
  intro m
  induction m with
  | zero=>
   intro pre hp x h
   obtain rfl:=n8 hp
   rw [n9] at h
   rw [mQ h]
   simp
  | succ m ih=>
   intro pre hp x h
   obtain⟨pre',y,rfl⟩:∃ pre' y,pre=pre'++[y]:=⟨pre.dropLast,pre.getLast (by intro e;rw [e] at hp;simp at hp),(List.dropLast_concat_getLast _).symm⟩
   have h1:=ih pre' (by simp at hp;omega) y (List.IsPrefix.trans (List.prefix_append _ _) h)
   obtain⟨par,j,rest,e,(⟨-,-,e2⟩ | ⟨s,i,e2,-⟩)⟩:=oF h
   ·rw [e,e2];simp;omega
   ·rw [e]
    rw [e2] at h1
    simp at h1 ⊢
    omega
 exact fun {x} h=>this pre.length pre rfl x h
end
section
open Go Go.RowKit Go.Shelf
attribute [local go_sem] Oper.semAt_some
def Ax1(s B:Nat)(y:Act)(x:El)(a':Act)(W:World):Prop:=∃ bx,BoxN W bx x.2.f/\B<=bx/\a'={ y with tmps:=y.tmps.setIfInBounds s (.pointer (some ⟨bx,0,none⟩)) }
theorem aL1(s B:Nat)(y:Act)(x:El)(a':Act):OwnFrom B (fun (_:Unit) W=>Ax1 s B y x a' W):=fun _ _ _ _ h hg hr=>by
 obtain⟨bx,h1,h2,h3⟩:=h
 exact⟨bx,dS hg hr h1,h2,h3⟩
theorem xF(n:Nat)(hn:3<=n){w:World}{t:Tr}(hta:TB w t) :
  CallsIn Fence.wide n Tryz.prog 68 #[.agg #[.int .i64 t.f.k,.int .i64 t.f.n,.int .i64 t.f.mn,.int .i64 t.f.mx,.slice t.f.rq t.f.rs.length t.f.rc,.slice t.f.kq t.f.kl t.f.kc]] w fun e w'=>e=.returned (.int .i64 ((if 2000<(pp [] t).length then 0 else aI (pp [] t):Nat):Int))/\Below w.heap.size w w':=by
 have hfn:∀ f,Fence.wide.fn f:=fun _=>trivial
 refine callsIn_of_wp_marks Tryz.func68 rfl trivial ?_ rfl
 simp only [Tryz.ntmps68,aAH,i9,List.length_nil,Nat.reduceAdd,Nat.reduceSub,Array.replicate_succ,Array.replicate_zero,List.push_toArray,List.append_toArray,n9,l7]
 refine wpIn_wide.2 ?_
 have HTA:=aB hta
 have B1:Hid (Below w.heap.size w (w.alloc (.cells #[.int .i64 t.f.k,.int .i64 t.f.n,.int .i64 t.f.mn,.int .i64 t.f.mx,.slice t.f.rq t.f.rs.length t.f.rc,.slice t.f.kq t.f.kl t.f.kc] 25))):=bz9
 have N1:Hid (BoxN (w.alloc (.cells #[.int .i64 t.f.k,.int .i64 t.f.n,.int .i64 t.f.mn,.int .i64 t.f.mx,.slice t.f.rq t.f.rs.length t.f.rc,.slice t.f.kq t.f.kl t.f.kc] 25)) w.heap.size t.f):=aD w _
 obtain⟨c0,c1,c2,c3,c4,c5⟩:=N1.out.six
 simp only [a7] at c1 c2 c3 c4 c5
 have HT:=aB (lJ (HTA.out.kept B1.out))
 clear hta
 by_cases hm:2000<(pp [] t).length
 ·have e1:decide (2000<(pp [] t).length)=true:=by simp;omega
  have e2:(if 2000<(pp [] t).length then 0 else aI (pp [] t))=0:=by rw [if_pos hm]
  rw [e1] at HT
  rw [e2]
  clear e1 e2 hm
  go_wp2_with (go_at_call 86;(with_reducible refine(HT.out).mono ?_);rintro e w2 ⟨rfl,h2⟩;have B2:Hid (Below w.heap.size w w2):=aF B1.out h2 lz9;clear h2)
  exact⟨.int .i64 0,by simp [results,Tryz.results68,go_sem],rfl,B2.out⟩
 ·have e1:decide (2000<(pp [] t).length)=false:=by simp;omega
  have e2:(if 2000<(pp [] t).length then 0 else aI (pp [] t))=aI (pp [] t):=by rw [if_neg hm]
  rw [e1] at HT
  rw [e2]
  clear e1 e2
  have HM:=aB hm
  clear hm
  go_wp2_with first |(go_at_call 86;(with_reducible refine(HT.out).mono ?_);rintro e w2 ⟨rfl,h2⟩;have B2:Hid (Below w.heap.size w w2):=aF B1.out h2 lz9;have N2:Hid (BoxN (w2.alloc (.cells #[.int .i64 0] 3)) w.heap.size t.f):=(Below.heap_alloc _ _ _ (j2 (aC N1.out) h2.size)).trans ((h2.block _ (aC N1.out)).trans N1.out);clear h2;obtain⟨d0,d1,d2,d3,d4,d5⟩:=N2.out.six;simp only [a7] at d1 d2 d3 d4 d5) |(go_at_call 38;(with_reducible refine(pQ _ _).mono ?_);rintro e w3 ⟨rfl,rfl⟩)
  have N3:BoxN ((w2.alloc (.cells #[.int .i64 0] 3)).alloc (.cells #[.int .i64 t.f.k,.int .i64 t.f.n,.int .i64 t.f.mn,.int .i64 t.f.mx,.slice t.f.rq t.f.rs.length t.f.rc,.slice t.f.kq t.f.kl t.f.kc] 25)) (w2.heap.size+1) t.f:=(by
   have:=aD (w2.alloc (.cells #[.int .i64 0] 3)) (.cells #[.int .i64 t.f.k,.int .i64 t.f.n,.int .i64 t.f.mn,.int .i64 t.f.mx,.slice t.f.rq t.f.rs.length t.f.rc,.slice t.f.kq t.f.kl t.f.kc] 25)
   rwa [m8] at this)
  have I3:BoxI ((w2.alloc (.cells #[.int .i64 0] 3)).alloc (.cells #[.int .i64 t.f.k,.int .i64 t.f.n,.int .i64 t.f.mn,.int .i64 t.f.mx,.slice t.f.rq t.f.rs.length t.f.rc,.slice t.f.kq t.f.kl t.f.kc] 25)) w2.heap.size 0:=(Below.heap_alloc _ _ _ (by simp)).trans (aD w2 _)
  have B3:Below w.heap.size w ((w2.alloc (.cells #[.int .i64 0] 3)).alloc (.cells #[.int .i64 t.f.k,.int .i64 t.f.n,.int .i64 t.f.mn,.int .i64 t.f.mx,.slice t.f.rq t.f.rs.length t.f.rc,.slice t.f.kq t.f.kl t.f.kc] 25)):=(B2.out.alloc B2.out.size _).alloc (by simp;exact Nat.le_succ_of_le B2.out.size) _
  have hwi:=B2.out.size
  generalize ((w2.alloc (.cells #[.int .i64 0] 3)).alloc (.cells #[.int .i64 t.f.k,.int .i64 t.f.n,.int .i64 t.f.mn,.int .i64 t.f.mx,.slice t.f.rq t.f.rs.length t.f.rc,.slice t.f.kq t.f.kl t.f.kc] 25))=w4 at N3 I3 B3 ⊢
  have L3:=aC N3
  have L4:=aC I3
  generalize w2.heap.size+1=bn at N3 L3 ⊢
  generalize w2.heap.size=bi at I3 L4 hwi ⊢
  clear N1 N2 B1 B2 c0 c1 c2 c3 c4 c5 d0 d1 d2 d3 d4 d5 HT
  refine(wpIn_wide (n:=n)).1 ?_
  refine tB (by omega) 10 11 bn rfl rfl N3 HTA.out (CK.of_below B3) (fun pre V=>BoxI V bi (aI pre:Int)/\pre <+: pp [] t/\Below w.heap.size w V) (fun _ _ _=>False)
   ?_ (fun _ _ _ _ _ h=>h.elim) (fun pre W h=>by have:=h.2.1.length_le;have:=HM.out;omega) ⟨I3,List.nil_prefix,B3⟩ (Ax1 5 w4.heap.size) ?_ ?_ ?_ ?_ ?_
  ·rintro pre A A' row ⟨h1,h2,h3⟩ hg hr
   exact⟨h1.row hg hr,h2,gR h3 lz9 B3.size hg hr⟩
  ·exact aL1 _ _
  ·intro l pre x V K _ _ hs _ hK
   have HS:=aB hs
   simp only [fI]
   gi_wp2
   exact hK _ _ (bz9) ⟨_,aD V _,HS.out,rfl⟩
  ·rintro l pre x a' V ⟨h1,h2,h3⟩ hck hsz ht ⟨bx,hbx,hbl,rfl⟩
   have H1:=aB h1
   have H3:=aB h3
   have k0:=h1.cell
   have k1:=hbx.six.1
   have fz:=aJ h1 0
   have HT:=aB ht
   have hl:aI pre<=2000:=by have:=mI pre;have:=h2.length_le;have:=HM.out;omega
   by_cases hk:x.2.f.k=7
   ·have F1:Hid (Fr (fun z=>z=bi) V (V.setCell ⟨bi,0,none⟩ (.int .i64 ((aI pre:Int)+1)))):=BoxI.fr _
    have X1:Hid (BoxI (V.setCell ⟨bi,0,none⟩ (.int .i64 ((aI pre:Int)+1))) bi (aI (pre++[x]):Int)):=(by rw [eP,if_pos hk];exact H1.out.set _)
    have HP:Hid (KeepsFrom w4.heap.size V (V.setCell ⟨bi,0,none⟩ (.int .i64 ((aI pre:Int)+1)))/\CKeep (Nn w.heap.size w4.heap.size) V (V.setCell ⟨bi,0,none⟩ (.int .i64 ((aI pre:Int)+1)))/\Below w.heap.size w (V.setCell ⟨bi,0,none⟩ (.int .i64 ((aI pre:Int)+1)))):=
     ⟨F1.out.keepsFrom (fun k hk=>by omega),F1.out.ckeep (fun k hk=>by rintro (z | z) <;> omega),aX H3.out F1.out lz9 (fun k e=>by omega)⟩
    rw [hk] at k1
    clear h1 h3 hck ht hsz h2
    simp only [fI,hk]
    gi_wp2
    exact⟨HP.out.1,HP.out.2.1,X1.out,HT.out,HP.out.2.2⟩
   ·have X1:Hid (BoxI V bi (aI (pre++[x]):Int)):=(by rw [eP,if_neg hk];exact H1.out)
    have e1:(x.2.f.k==7)=false:=by simpa using hk
    have HP:Hid (KeepsFrom w4.heap.size V V/\CKeep (Nn w.heap.size w4.heap.size) V V):=⟨lZ (Below.refl _ _),mA (Below.refl _ _)⟩
    clear h1 h3 hck ht hsz h2
    simp only [fI]
    gi_wp2
    exact⟨HP.out.1,HP.out.2,X1.out,HT.out,H3.out⟩
  ·rintro D V hD ⟨h1,h2,h3⟩ hck hK
   have k0:=h1.cell
   have H3:=aB h3
   have HK:=aB hK
   have HD:=aB hD
   simp only [iE]
   go_wp2
   refine⟨by simp,.inl ⟨_,_,rfl,run_takeDeferred HK.out,?_⟩⟩
   refine⟨.int .i64 (aI (pp [] t):Int),by simp [results,Tryz.results68,go_sem],rfl,lF _ H3.out (j4 B3.size HD.out)⟩
  ·rintro D c pre V hD hpre h hK
   exact h.elim
theorem aC0{w:World}{t:Tr}(hta:TB w t):Calls Tryz.prog 68 #[.agg #[.int .i64 t.f.k,.int .i64 t.f.n,.int .i64 t.f.mn,.int .i64 t.f.mx,.slice t.f.rq t.f.rs.length t.f.rc,.slice t.f.kq t.f.kl t.f.kc]] w fun e w'=>e=.returned (.int .i64 ((if 2000<(pp [] t).length then 0 else aI (pp [] t):Nat):Int))/\Below w.heap.size w w':=callsIn_wide.1 (xF 3 (by decide) hta)
end
section
attribute [local go_sem] Oper.semAt_some
theorem Six.drew{W:World}{b o:Nat}{f:Fl}(h:Six W b o f):Six W.drew b o f:=h
def kC(f:Fl):Bool:=f.k==9&&f.mn==0&&f.mx==-1
theorem mB(f:Fl)(w:World):Calls Tryz.prog 67 #[.agg #[.int .i64 f.k,.int .i64 f.n,.int .i64 f.mn,.int .i64 f.mx,.slice f.rq f.rs.length f.rc,.slice f.kq f.kl f.kc]] w fun e w'=>e=.returned (.bool (kC f))/\Below w.heap.size w w':=by
 have B1:Hid (Below w.heap.size w (w.alloc (.cells #[.int .i64 f.k,.int .i64 f.n,.int .i64 f.mn,.int .i64 f.mx,.slice f.rq f.rs.length f.rc,.slice f.kq f.kl f.kc] 25))):=bz9
 have N1:Hid (BoxN (w.alloc (.cells #[.int .i64 f.k,.int .i64 f.n,.int .i64 f.mn,.int .i64 f.mx,.slice f.rq f.rs.length f.rc,.slice f.kq f.kl f.kc] 25)) w.heap.size f):=aD w _
 obtain⟨c0,c1,c2,c3,c4,c5⟩:=N1.out.six
 simp only [a7] at c1 c2 c3 c4 c5
 unfold kC
 cases h1:(f.k==9) with
 | false=>
  go_enter Tryz.func67,Tryz.ntmps67
  go_wp2
  go_ret
  exact⟨rfl,B1.out⟩
 | true=>
  cases h2:(f.mn==0) with
  | false=>
   go_enter Tryz.func67,Tryz.ntmps67
   go_wp2
   go_ret
   exact⟨rfl,B1.out⟩
  | true=>
   cases h3:(f.mx==-1) with
   | false=>
    go_enter Tryz.func67,Tryz.ntmps67
    go_wp2
    go_ret
    exact⟨rfl,B1.out⟩
   | true=>
    go_enter Tryz.func67,Tryz.ntmps67
    go_wp2
    go_ret
    exact⟨rfl,B1.out⟩
theorem gU(w:World)(f:Fl):∃ W,(w.alloc (.cells #[.int .i64 f.k,.int .i64 f.n,.int .i64 f.mn,.int .i64 f.mx,.slice f.rq f.rs.length f.rc,.slice f.kq f.kl f.kc] 25)).alloc (.cells #[.int .i64 0,.int .i64 0,.int .i64 0,.int .i64 0,.slice none 0 0,.slice none 0 0] 25)=W/\Below w.heap.size w W/\BoxN W w.heap.size f/\W.heap[w.heap.size+1]?=some (.cells #[.int .i64 0,.int .i64 0,.int .i64 0,.int .i64 0,.slice none 0 0,.slice none 0 0] 25 (0,0)):=by
 refine⟨_,rfl,(bz9).alloc (by simp) _,(Below.heap_alloc _ _ _ (by simp)).trans (aD w _),?_⟩
 have:=aD (w.alloc (.cells #[.int .i64 f.k,.int .i64 f.n,.int .i64 f.mn,.int .i64 f.mx,.slice f.rq f.rs.length f.rc,.slice f.kq f.kl f.kc] 25)) (.cells #[.int .i64 0,.int .i64 0,.int .i64 0,.int .i64 0,.slice none 0 0,.slice none 0 0] 25)
 rwa [m8] at this
theorem mG{t u:Tr}{w:World}(hta:TB w t)(hk:t.ks=[u]):∃ g off cap,t.f.kq=some ⟨g,off,none⟩/\t.f.kl=1/\t.f.kc=cap/\g<w.heap.size/\Six w g off u.f:=by
 obtain⟨q,cap,e,h1,h2,h3⟩:=hta.node.k.slice
 injection e with e1 e2 e3
 obtain⟨g,off,hq,hl,hs⟩:=h3 0 u (by rw [hk];rfl)
 exact⟨g,off,cap,e1.trans hq,by rw [e2,hk];rfl,e3,hl,by simpa using hs⟩
theorem iM{R:Ending->World->Prop}{a:Act}{W:World}{b:Nat}{f:Fl}{e:Bool}(h:Six W b 0 f)(ha:a.tmps[2]?.getD undef=.pointer (some ⟨b,0,none⟩))(he:a.tmps[3]?.getD undef=.bool e)(hd:a.defers=[])(hR:R (.returned (.tuple #[.agg #[.int .i64 f.k,.int .i64 f.n,.int .i64 f.mn,.int .i64 f.mx,.slice f.rq f.rs.length f.rc,.slice f.kq f.kl f.kc],.bool e])) W):bodyPost Tryz.prog Tryz.f42 R .ret a W:=by
 obtain⟨z0,z1,z2,z3,z4,z5⟩:=h
 simp only [a7] at z1 z2 z3 z4 z5
 refine bodyPost_ret (v:=.tuple #[.agg #[.int .i64 f.k,.int .i64 f.n,.int .i64 f.mn,.int .i64 f.mx,.slice f.rq f.rs.length f.rc,.slice f.kq f.kl f.kc],.bool e]) ?_ hd hR
 simp [results,Tryz.results42,go_sem,ha,he,z0,z1,z2,z3,z4,z5]
def aQ6(f:Fl):Bool:=f.mn==1&&f.mx==1
theorem wR{t u:Tr}{w:World}(hta:TB w t)(hk:t.ks=[u]):Calls Tryz.prog 42 #[.agg #[.int .i64 t.f.k,.int .i64 t.f.n,.int .i64 t.f.mn,.int .i64 t.f.mx,.slice t.f.rq t.f.rs.length t.f.rc,.slice t.f.kq t.f.kl t.f.kc]] w fun e w'=>e=.returned (.tuple #[.agg #[.int .i64 u.f.k,.int .i64 u.f.n,.int .i64 u.f.mn,.int .i64 u.f.mx,.slice u.f.rq u.f.rs.length u.f.rc,.slice u.f.kq u.f.kl u.f.kc],.bool (aQ6 t.f)])/\Below w.heap.size w w':=by
 obtain⟨g,off,cap,q1,q2,q3,hl,hs⟩:=mG hta hk
 obtain⟨uf,hu⟩:∃ x,u.f=x:=⟨_,rfl⟩
 rw [hu] at hs ⊢
 clear hu hta hk
 obtain⟨tf,tks⟩:=t
 obtain⟨fk,fn,fmn,fmx,frs,frq,frc,fkq,fkl,fkc⟩:=tf
 dsimp only [Tr.f] at *
 subst q1 q2 q3
 obtain⟨W,hW,B1,N1,R1⟩:=gU w ⟨fk,fn,fmn,fmx,frs,frq,frc,some ⟨g,off,none⟩,1,fkc⟩
 have s1:=hs.ck (CK.of_below B1) hl
 obtain⟨c0,c1,c2,c3,c4,c5⟩:=N1.six
 simp only [a7] at c1 c2 c3 c4 c5
 obtain⟨d0,d1,d2,d3,d4,d5⟩:=s1
 have r0:=aA R1 (i:=0) rfl
 have r1:=aA R1 (i:=1) rfl
 have r2:=aA R1 (i:=2) rfl
 have r3:=aA R1 (i:=3) rfl
 have r4:=aA R1 (i:=4) rfl
 have r5:=aA R1 (i:=5) rfl
 have fz:=fun z=>aJ R1 z
 have P9:=aB (cE W (w.heap.size+1) 0 uf)
 have X9:=aB (cJ (b:=w.heap.size+1) (o:=0) (f:=⟨0,0,0,0,[],none,0,none,0,0⟩) (g:=uf) ⟨r0,r1,r2,r3,r4,r5⟩)
 unfold bH at P9 X9
 have BB:=aB B1
 have hm:Hid (aQ6 ⟨fk,fn,fmn,fmx,frs,frq,frc,some ⟨g,off,none⟩,1,fkc⟩=(fmn==1&&fmx==1)):=rfl
 rw [hm.out]
 clear hs N1 R1 B1
 cases h1:(fmn==1) with
 | false=>
  go_enter Tryz.func42,Tryz.ntmps42
  go_upto_region 1 with fail
  go_region
  all_goals go_wp2
  all_goals exact iM X9.out.drew rfl rfl rfl ⟨rfl,(aX BB.out P9.out lz9 (fun k e=>by omega)).drew⟩
 | true=>
  cases h2:(fmx==1) with
  | false=>
   go_enter Tryz.func42,Tryz.ntmps42
   go_upto_region 1 with fail
   go_region
   all_goals go_wp2
   all_goals exact iM X9.out.drew rfl rfl rfl ⟨rfl,(aX BB.out P9.out lz9 (fun k e=>by omega)).drew⟩
  | true=>
   go_enter Tryz.func42,Tryz.ntmps42
   go_upto_region 1 with fail
   go_region
   all_goals go_wp2
   all_goals exact iM X9.out.drew rfl rfl rfl ⟨rfl,(aX BB.out P9.out lz9 (fun k e=>by omega)).drew⟩
theorem jU{R:Ending->World->Prop}{a:Act}{W:World}{b:Nat}{f:Fl}{e:Bool}(h:Six W b 0 f)(ha:a.tmps[2]?.getD undef=.pointer (some ⟨b,0,none⟩))(he:a.tmps[3]?.getD undef=.bool e)(hd:a.defers=[])(hR:R (.returned (.tuple #[.agg #[.int .i64 f.k,.int .i64 f.n,.int .i64 f.mn,.int .i64 f.mx,.slice f.rq f.rs.length f.rc,.slice f.kq f.kl f.kc],.bool e])) W):bodyPost Tryz.prog Tryz.f45 R .ret a W:=by
 obtain⟨z0,z1,z2,z3,z4,z5⟩:=h
 simp only [a7] at z1 z2 z3 z4 z5
 refine bodyPost_ret (v:=.tuple #[.agg #[.int .i64 f.k,.int .i64 f.n,.int .i64 f.mn,.int .i64 f.mx,.slice f.rq f.rs.length f.rc,.slice f.kq f.kl f.kc],.bool e]) ?_ hd hR
 simp [results,Tryz.results45,go_sem,ha,he,z0,z1,z2,z3,z4,z5]
theorem lI{t u:Tr}{w:World}(hta:TB w t)(hk:t.ks=[u]):Calls Tryz.prog 45 #[.agg #[.int .i64 t.f.k,.int .i64 t.f.n,.int .i64 t.f.mn,.int .i64 t.f.mx,.slice t.f.rq t.f.rs.length t.f.rc,.slice t.f.kq t.f.kl t.f.kc]] w fun e w'=>e=.returned (.tuple #[.agg #[.int .i64 1,.int .i64 0,.int .i64 0,.int .i64 0,.slice none 0 0,.slice none 0 0],.bool (u.f.k==1)])/\Below w.heap.size w w':=by
 obtain⟨g,off,cap,q1,q2,q3,hl,hs⟩:=mG hta hk
 obtain⟨uf,hu⟩:∃ x,u.f=x:=⟨_,rfl⟩
 rw [hu] at hs ⊢
 clear hu hta hk
 obtain⟨tf,tks⟩:=t
 obtain⟨fk,fn,fmn,fmx,frs,frq,frc,fkq,fkl,fkc⟩:=tf
 dsimp only [Tr.f] at *
 subst q1 q2 q3
 obtain⟨W,hW,B1,N1,R1⟩:=gU w ⟨fk,fn,fmn,fmx,frs,frq,frc,some ⟨g,off,none⟩,1,fkc⟩
 have s1:=hs.ck (CK.of_below B1) hl
 obtain⟨c0,c1,c2,c3,c4,c5⟩:=N1.six
 simp only [a7] at c1 c2 c3 c4 c5
 obtain⟨d0,d1,d2,d3,d4,d5⟩:=s1
 have r0:=aA R1 (i:=0) rfl
 have r1:=aA R1 (i:=1) rfl
 have r2:=aA R1 (i:=2) rfl
 have r3:=aA R1 (i:=3) rfl
 have r4:=aA R1 (i:=4) rfl
 have r5:=aA R1 (i:=5) rfl
 have fz:=fun z=>aJ R1 z
 have P9:=aB (cE W (w.heap.size+1) 0 (dO 1))
 have X9:=aB (cJ (b:=w.heap.size+1) (o:=0) (f:=⟨0,0,0,0,[],none,0,none,0,0⟩) (g:=dO 1) ⟨r0,r1,r2,r3,r4,r5⟩)
 unfold bH at P9 X9
 have BB:=aB B1
 clear hs N1 R1 B1
 obtain⟨b,hb⟩:∃ b,(uf.k==1)=b:=⟨_,rfl⟩
 rw [hb]
 go_enter Tryz.func45,Tryz.ntmps45
 go_upto_region 1 with fail
 go_region
 all_goals go_wp2
 all_goals exact jU X9.out.drew rfl rfl rfl ⟨rfl,(aX BB.out P9.out lz9 (fun k e=>by omega)).drew⟩
theorem nA{R:Ending->World->Prop}{a:Act}{W:World}{b:Nat}{f:Fl}{e:Bool}(h:Six W b 0 f)(ha:a.tmps[2]?.getD undef=.pointer (some ⟨b,0,none⟩))(he:a.tmps[3]?.getD undef=.bool e)(hd:a.defers=[])(hR:R (.returned (.tuple #[.agg #[.int .i64 f.k,.int .i64 f.n,.int .i64 f.mn,.int .i64 f.mx,.slice f.rq f.rs.length f.rc,.slice f.kq f.kl f.kc],.bool e])) W):bodyPost Tryz.prog Tryz.f44 R .ret a W:=by
 obtain⟨z0,z1,z2,z3,z4,z5⟩:=h
 simp only [a7] at z1 z2 z3 z4 z5
 refine bodyPost_ret (v:=.tuple #[.agg #[.int .i64 f.k,.int .i64 f.n,.int .i64 f.mn,.int .i64 f.mx,.slice f.rq f.rs.length f.rc,.slice f.kq f.kl f.kc],.bool e]) ?_ hd hR
 simp [results,Tryz.results44,go_sem,ha,he,z0,z1,z2,z3,z4,z5]
theorem aA5{t:Tr}{w:World}(hta:TB w t):Calls Tryz.prog 44 #[.agg #[.int .i64 t.f.k,.int .i64 t.f.n,.int .i64 t.f.mn,.int .i64 t.f.mx,.slice t.f.rq t.f.rs.length t.f.rc,.slice t.f.kq t.f.kl t.f.kc]] w fun e w'=>e=.returned (.tuple #[.agg #[.int .i64 1,.int .i64 0,.int .i64 0,.int .i64 0,.slice none 0 0,.slice none 0 0],.bool (t.f.mx==0&&(((if 2000<(pp [] t).length then 0 else aI (pp [] t):Nat):Int)==0))])/\Below w.heap.size w w':=by
 obtain⟨W,hW,B1,N1,R1⟩:=gU w t.f
 obtain⟨c0,c1,c2,c3,c4,c5⟩:=N1.six
 simp only [a7] at c1 c2 c3 c4 c5
 have GC:=aB (aC0 (hta.kept B1))
 obtain⟨G,hG⟩:∃ G:Int,((if 2000<(pp [] t).length then 0 else aI (pp [] t):Nat):Int)=G:=⟨_,rfl⟩
 rw [hG] at GC ⊢
 have BB:=aB B1
 have RR1:=aB R1
 clear hG hta N1 R1 B1
 obtain⟨tf,tks⟩:=t
 obtain⟨fk,fn,fmn,fmx,frs,frq,frc,fkq,fkl,fkc⟩:=tf
 dsimp only [Tr.f] at *
 have hend:∀ W':World,Below W.heap.size W W'->Hid (Six ((((((W'.setCell ⟨w.heap.size+1,0,none⟩ (.int .i64 1)).setCell ⟨w.heap.size+1,1,none⟩ (.int .i64 0)).setCell ⟨w.heap.size+1,2,none⟩ (.int .i64 0)).setCell ⟨w.heap.size+1,3,none⟩ (.int .i64 0)).setCell ⟨w.heap.size+1,4,none⟩ (.slice none 0 0)).setCell ⟨w.heap.size+1,5,none⟩ (.slice none 0 0)) (w.heap.size+1) 0 (dO 1)/\Below w.heap.size w ((((((W'.setCell ⟨w.heap.size+1,0,none⟩ (.int .i64 1)).setCell ⟨w.heap.size+1,1,none⟩ (.int .i64 0)).setCell ⟨w.heap.size+1,2,none⟩ (.int .i64 0)).setCell ⟨w.heap.size+1,3,none⟩ (.int .i64 0)).setCell ⟨w.heap.size+1,4,none⟩ (.slice none 0 0)).setCell ⟨w.heap.size+1,5,none⟩ (.slice none 0 0))):=fun W' hW'=>by
  have R2:=(hW'.block _ (aC RR1.out)).trans RR1.out
  have P9:=cE W' (w.heap.size+1) 0 (dO 1)
  have X9:=cJ (b:=w.heap.size+1) (o:=0) (f:=⟨0,0,0,0,[],none,0,none,0,0⟩) (g:=dO 1) ⟨aA R2 (i:=0) rfl,aA R2 (i:=1) rfl,aA R2 (i:=2) rfl,aA R2 (i:=3) rfl,aA R2 (i:=4) rfl,aA R2 (i:=5) rfl⟩
  exact⟨X9,aX (aF BB.out hW' lz9) P9 lz9 (fun k e=>by omega)⟩
 cases h1:(fmx==0) with
 | false=>
  have E0:=hend W (Below.refl _ _)
  have r0:=aA RR1.out (i:=0) rfl
  have r1:=aA RR1.out (i:=1) rfl
  have r2:=aA RR1.out (i:=2) rfl
  have r3:=aA RR1.out (i:=3) rfl
  have r4:=aA RR1.out (i:=4) rfl
  have r5:=aA RR1.out (i:=5) rfl
  have fz:=fun z=>aJ RR1.out z
  clear hend GC
  go_enter Tryz.func44,Tryz.ntmps44
  go_wp2
  exact nA E0.out.1 rfl rfl rfl ⟨rfl,E0.out.2⟩
 | true=>
  obtain⟨b,hb⟩:∃ b,(G==0)=b:=⟨_,rfl⟩
  rw [hb]
  go_enter Tryz.func44,Tryz.ntmps44
  go_wp2_with (go_at_call 68;(with_reducible refine GC.out.mono ?_);rintro e w5 ⟨rfl,h5⟩;have E0:=hend w5 h5;have R5:=(h5.block _ (aC RR1.out)).trans RR1.out;have r0:=aA R5 (i:=0) rfl;have r1:=aA R5 (i:=1) rfl;have r2:=aA R5 (i:=2) rfl;have r3:=aA R5 (i:=3) rfl;have r4:=aA R5 (i:=4) rfl;have r5:=aA R5 (i:=5) rfl;have fz:=fun z=>aJ R5 z;clear h5 hend R5)
  exact nA E0.out.1 rfl rfl rfl ⟨rfl,E0.out.2⟩
end
section
attribute [local go_sem] bU
theorem kD{A B:List (Int×Int)}{k:Nat}{a b:Int×Int}(ha:A[k]?=some a)(hb:B[k]?=some b)(h:A.take k=B.take k):A.take (k+1)=B.take (k+1)↔a=b:=by
 obtain⟨h1,rfl⟩:=i7.1 ha
 obtain⟨h2,rfl⟩:=i7.1 hb
 rw [dI A k h1,dI B k h2,h]
 simp only [List.append_cancel_left_eq,List.cons.injEq,and_true]
theorem qC{w:World}{va vb:Value}{A B:List (Int×Int)}(ha:ArgR w va A)(hb:ArgR w vb B) :
  Calls Tryz.prog 103 #[va,vb] w fun e w'=>e=.returned (.bool (decide (A=B)))/\Below w.heap.size w w':=by
 obtain⟨q1,cap1,rfl,hl1,-,hc1⟩:=ha.slice
 obtain⟨q2,cap2,rfl,hl2,-,hc2⟩:=hb.slice
 have HC1:Hid (∀ (i:Nat) (r:Int×Int),A[i]?=some r->∃ g off,q1=some ⟨g,off,none⟩/\g<w.heap.size/\w.cell? ⟨g,off+2*i,none⟩=some (.int .i64 r.1)/\w.cell? ⟨g,off+2*i+1,none⟩=some (.int .i64 r.2)):=hc1
 have HC2:Hid (∀ (i:Nat) (r:Int×Int),B[i]?=some r->∃ g off,q2=some ⟨g,off,none⟩/\g<w.heap.size/\w.cell? ⟨g,off+2*i,none⟩=some (.int .i64 r.1)/\w.cell? ⟨g,off+2*i+1,none⟩=some (.int .i64 r.2)):=hc2
 clear hc1 hc2 ha hb
 unfold maxLen at hl1 hl2
 by_cases hne:A.length=B.length
 ·have HNE:Hid (A.length=B.length):=hne
  rw [<- hne]
  have b1:(((A.length:Nat):Int) != ((A.length:Nat):Int))=false:=by simp
  clear hne hl2
  go_enter Tryz.func103,Tryz.ntmps103
  go_wp2
  go_loopw [13] (fun i wr=>∃ k:Nat,k<=A.length/\i=.int .i64 k/\A.take k=B.take k/\Below w.heap.size w wr) (fun i _=>A.length-(intOf i).toNat)
  case atStart=>exact⟨0,m7 _,rfl,by simp,Below.refl _ _⟩
  case round=>
   obtain⟨k,hk,rfl,ht,hbl⟩:=hrel
   have HT:Hid (A.take k=B.take k):=ht
   have BW:Hid (Below w.heap.size w wr):=hbl
   clear ht hbl
   by_cases hlt:k<A.length
   ·obtain⟨a,ea⟩:∃ r,A[k]?=some r:=⟨_,b7 hlt⟩
    obtain⟨b,eb⟩:∃ r,B[k]?=some r:=⟨_,b7 (by have:=HNE.out;omega)⟩
    obtain⟨g1,o1,rfl,hg1,x1,x2⟩:=HC1.out k _ ea
    obtain⟨g2,o2,rfl,hg2,y1,y2⟩:=HC2.out k _ eb
    have d1:=(BW.out.cell (p:=⟨g1,o1+2*k,none⟩) hg1).trans x1
    have d2:=(BW.out.cell (p:=⟨g1,o1+2*k+1,none⟩) hg1).trans x2
    have d3:=(BW.out.cell (p:=⟨g2,o2+2*k,none⟩) hg2).trans y1
    have d4:=(BW.out.cell (p:=⟨g2,o2+2*k+1,none⟩) hg2).trans y2
    rw [u0] at d1 d2 d3 d4
    have s1:g1<wr.heap.size:=j2 hg1 BW.out.size
    have s2:g2<wr.heap.size:=j2 hg2 BW.out.size
    have NX:Hid (A.take (k+1)=B.take (k+1)↔a=b):=kD ea eb HT.out
    have NE:Hid (a≠b->¬ A=B):=fun q e=>by subst e;rw [ea] at eb;exact q (Option.some.inj eb)
    have i0:(0:Int)<=(k:Int):=by omega
    have i1:(k:Int)<(A.length:Int):=by omega
    obtain⟨a1,a2⟩:=a
    obtain⟨b1',b2⟩:=b
    dsimp only at d1 d2 d3 d4
    clear x1 x2 y1 y2 ea eb
    by_cases e1:a1=b1'
    ·by_cases e2:a2=b2
     ·subst e1 e2
      have f1:(a1==a1)=true:=by simp
      have f2:(a2==a2)=true:=by simp
      have NX2:Hid (A.take (k+1)=B.take (k+1)):=NX.out.2 rfl
      clear NX NE
      go_wp2
      refine wx9 ?_
      repeat (go_big_quiet_step (first | exact rfl))
      refine wpQuiet_nil ?_
      intro w7 hw7
      have B7:Hid (Below wr.heap.size wr w7):=aS hw7
      clear hw7
      go_wp2
      go_roundw
      case rel=>exact⟨k+1,by omega,by go_num,NX2.out,aF BW.out B7.out lz9⟩
      case measure=>simp [intOf];omega
     ·subst e1
      have f1:(a1==a1)=true:=by simp
      have f2:(a2==b2)=false:=by simp [e2]
      have N2:Hid (decide (A=B)=false):=j8 (NE.out (fun q=>e2 (Prod.mk.inj q).2))
      clear NX NE
      go_wp2
      refine wx9 ?_
      repeat (go_big_quiet_step (first | exact rfl))
      refine wpQuiet_nil ?_
      intro w7 hw7
      have B7:Hid (Below wr.heap.size wr w7):=aS hw7
      clear hw7
      go_wp2
      go_ret
      exact⟨by rw [N2.out];rfl,aF BW.out B7.out lz9⟩
    ·have f1:(a1==b1')=false:=by simp [e1]
     have N2:Hid (decide (A=B)=false):=j8 (NE.out (fun q=>e1 (Prod.mk.inj q).1))
     clear NX NE
     go_wp2
     refine wx9 ?_
     repeat (go_big_quiet_step (first | exact rfl))
     refine wpQuiet_nil ?_
     intro w7 hw7
     have B7:Hid (Below wr.heap.size wr w7):=aS hw7
     clear hw7
     go_wp2
     go_ret
     exact⟨by rw [N2.out];rfl,aF BW.out B7.out lz9⟩
   ·have i1:¬ (k:Int)<(A.length:Int):=by omega
    have EE:Hid (decide (A=B)=true):=r9 (by
     have e:=HT.out
     rw [j5 (by omega),j5 (by have:=HNE.out;omega)] at e
     exact e)
    go_wp2
    go_ret
    exact⟨by rw [EE.out];rfl,BW.out⟩
 ·have EE:Hid (decide (A=B)=false):=j8 (fun e=>hne (by rw [e]))
  have b1:(((A.length:Nat):Int) != ((B.length:Nat):Int))=true:=by simp;omega
  go_enter Tryz.func103,Tryz.ntmps103
  go_wp2
  go_ret
  exact⟨by rw [EE.out];rfl,Below.refl _ _⟩
end
end Go.Proofs.YtlamifbjklpdbaaGreat
