/-
  Parts of the proof.
-/
import Derived.Test.YticfnglebbakkaaGreatDoorPrintsProofB9
import Derived.Deep.WholeRow
import Derived.Test.YticfnglebbakkaaGreatDoorPrintsProofB0
import Derived.Test.YticfnglebbakkaaGreatDoorPrintsProofB1
import Derived.Laws.AppendOwnNone
set_option maxRecDepth 100000
set_option maxHeartbeats 8000000
namespace Go.Proofs.YticfnglebbakkaaGreatDoor
open Go Go.RowKit
section
open Go Go.RowKit Go.Shelf
attribute [local go_sem] Oper.semAt_some
def noL:List Value:=[.int .i64 0,.int .i64 0,.int .i64 0,.int .i64 0,.slice none 0 0,.slice none 0 0,.int .i64 0]
def jY(c f:Bool):List Value:=.bool c :: .bool f :: .int .i64 0 :: .int .i64 0 :: (List.replicate 41 noL).flatten
theorem aL2(j:Nat)(hj:j < 7):∀ (n d:Nat),d < n->((List.replicate n noL).flatten)[d * 7+j]?=noL[j]?
 | 0,d,h=>absurd h (by omega)
 | n+1,0,_=>by rw [List.replicate_succ,List.flatten_cons,Nat.zero_mul,Nat.zero_add,List.getElem?_append_left (by simpa [noL] using hj)]
 | n+1,d+1,h=>by
  rw [List.replicate_succ,List.flatten_cons,List.getElem?_append_right (by simp [noL];omega),show (d+1) * 7+j - noL.length=d * 7+j by simp [noL];omega]
  exact aL2 j hj n d (by omega)
theorem fN(c f:Bool){d j:Nat}(hd:d < 41)(hj:j < 7):(jY c f)[4+d * 7+j]?=noL[j]?:=by
 rw [show 4+d * 7+j=d * 7+j+1+1+1+1 by omega]
 exact aL2 j hj 41 d hd
theorem wN:Tryz.zeroCells63.toList=jY false false:=by kernel_rfl
theorem uZ(w1:World)(c f:Bool):Sem.run Tryz.prog (storeCells ⟨w1.heap.size,0,none⟩ ((Tryz.zeroCells63.toList.set 0 (.bool c)).set 1 (.bool f))) (w1.alloc (.cells Tryz.zeroCells63 63))=.ok () (w1.alloc (.cells (jY c f).toArray 63)):=by
 have e:(Tryz.zeroCells63.toList.set 0 (.bool c)).set 1 (.bool f)=(jY c f).toArray.toList:=by rw [wN];rfl
 rw [e]
 exact run_storeCells_new w1 _ _ _ (by kernel_rfl) (by kernel_rfl) (by cases c <;> cases f <;> kernel_rfl)
theorem aC7(w1:World)(c f:Bool):CB (w1.alloc (.cells (jY c f).toArray 63)) w1.heap.size c f 0 0 (fun _=>⟨pI,0⟩):=by
 have N:=aF w1 (.cells (jY c f).toArray 63)
 have at':∀ (i:Nat) (v:Value),(jY c f)[i]?=some v->(w1.alloc (.cells (jY c f).toArray 63)).cell? ⟨w1.heap.size,i,none⟩=some v:=fun i v hv=>aA N (i:=i) (by simpa using hv)
 refine⟨⟨_,N⟩,at' 0 _ rfl,at' 1 _ rfl,at' 2 _ rfl,at' 3 _ rfl,fun d hd=>⟨⟨?_,?_,?_,?_,?_,?_⟩,?_⟩⟩
 ·exact at' _ _ ((fN c f hd (j:=0) (by omega)).trans rfl)
 ·exact at' _ _ ((fN c f hd (j:=1) (by omega)).trans rfl)
 ·exact at' _ _ ((fN c f hd (j:=2) (by omega)).trans rfl)
 ·exact at' _ _ ((fN c f hd (j:=3) (by omega)).trans rfl)
 ·exact at' _ _ ((fN c f hd (j:=4) (by omega)).trans rfl)
 ·exact at' _ _ ((fN c f hd (j:=5) (by omega)).trans rfl)
 ·exact at' _ _ ((fN c f hd (j:=6) (by omega)).trans rfl)
noncomputable def aS (c f:Bool):Nat->Nat->List El->Int
 | _,_,[]=>0
 | ah,gr,x :: r=>if bI c f x.1 x.2 ah gr≠0 then bI c f x.1 x.2 ah gr else aS c f (ah+1) (gr+(if x.2.f.k=7 then 1 else 0)) r
theorem wC{P:Tr->Prop}(t:Tr):∀ p,bU P t->(∀ x∈p,P x.1)->∀ z∈pp p t,∀ x∈z.1,P x.1:=by
 refine Tr.ind (P:=fun t=>∀ p,bU P t->(∀ x∈p,P x.1)->∀ z∈pp p t,∀ x∈z.1,P x.1) (fun t ih p he hp z hz=>?_) t
 rw [bQ] at hz
 rcases List.mem_cons.1 hz with q | q
 ·subst q;exact hp
 ·have:∀ (ks:List Tr) (i:Nat),(∀ u∈ks,u∈t.ks)->z∈pps t p i ks->∀ x∈z.1,P x.1:=by
   intro ks
   induction ks with
   | nil=>intro i _ h;rw [aV] at h;cases h
   | cons u us ih2=>
    intro i hs h
    rw [aT] at h
    rcases List.mem_append.1 h with g | g
    ·exact ih u (hs u (List.mem_cons_self ..)) _ (cT he (hs u (List.mem_cons_self ..))) (fun x hx=>by
      rcases List.mem_cons.1 hx with e | e
      ·rw [e];exact((aX t).1 he).1
      ·exact hp x e) z g
    ·exact ih2 (i+1) (fun v hv=>hs v (List.mem_cons_of_mem _ hv)) g
  exact this t.ks 0 (fun _ h=>h) q
structure Inv(A:Nat->cH)(pre:List El):Prop where
 bd:∀ d,0<=(A d).s/\(A d).s<=(pre.length:Int)
 nx:∀ t x,pre ++ [x] <+: pp [] t->BA A x.1
theorem Inv.nil:Inv (fun _=>⟨pI,0⟩) []:=⟨fun d=>by simp,fun t x h=>by
 rw [List.nil_append] at h
 rw [lU h]
 exact rfl⟩
theorem Inv.step{A:Nat->cH}{pre:List El}{x:El}(h:Inv A pre)(hb:BA A x.1):Inv (dY A x.1.length x.2.f) (pre ++ [x]):=
 ⟨fun d=>by
  have h1:=h.bd d
  have h2:=h.bd x.1.length
  simp only [dY,kM,List.length_append,List.length_cons,List.length_nil]
  split
  ·simp;omega
  ·split
   ·simp;omega
   ·omega,fun t y hy=>BA.next (nU hy) (SA.enter hb).1 (SA.enter hb).2⟩
structure RI(w:World)(t:Tr)(c f:Bool)(b be:Nat)(pre:List El)(V:World):Prop where
 chk:∃ A,CB V b c f (pre.length:Int) (aW pre:Int) A/\Inv A pre
 pfx:pre <+: pp [] t
 len:pre.length<=2000
 res:V.heap[be]?=some (.cells #[.int .i64 0] 29 (0,0))
 bel:Below w.heap.size w V
 ans:∀ rest,pp [] t=pre ++ rest->aS c f 0 0 (pp [] t)=aS c f pre.length (aW pre) rest
def Ax2(r s B:Nat)(y:Act)(x:El)(a':Act)(W:World):Prop:=∃ bx,BoxN W bx x.2.f/\B<=bx/\a'={ y with tmps:=(y.tmps.setIfInBounds r (.int .i64 ((x.1.length:Int)+1))).setIfInBounds s (.pointer (some ⟨bx,0,none⟩)) }
theorem aF2(r s B:Nat)(y:Act)(x:El)(a':Act):OwnFrom B (fun (_:Unit) W=>Ax2 r s B y x a' W):=fun _ _ _ _ h hg hr=>by
 obtain⟨bx,h1,h2,h3⟩:=h
 exact⟨bx,bP hg hr h1,h2,h3⟩
theorem xK(n:Nat)(hn:3<=n){w:World}{t:Tr}(c f:Bool)(hta:TB w t) :
  CallsIn Fence.wide n Tryz.prog 11 #[.agg #[.int .i64 t.f.k,.int .i64 t.f.n,.int .i64 t.f.mn,.int .i64 t.f.mx,.slice t.f.rq t.f.rs.length t.f.rc,.slice t.f.kq t.f.kl t.f.kc],.agg #[.bool c,.bool f]] w fun e w'=>e=.returned (.int .i64 (aS c f 0 0 (pp [] t)))/\Below w.heap.size w w':=by
 have hfn:∀ f,Fence.wide.fn f:=fun _=>trivial
 refine callsIn_of_wp_marks Tryz.func11 rfl trivial ?_ rfl
 simp only [Tryz.ntmps11,List.size_toArray,List.length_cons,List.length_nil,Nat.reduceAdd,Nat.reduceSub,Array.replicate_succ,Array.replicate_zero,List.push_toArray,List.append_toArray,List.nil_append,List.cons_append]
 refine wpIn_wide.2 ?_
 have HTA:=aB hta
 go_upto_region 1 with fail
 have N0:Hid (BoxN (((w.alloc (.cells #[.int .i64 t.f.k,.int .i64 t.f.n,.int .i64 t.f.mn,.int .i64 t.f.mx,.slice t.f.rq t.f.rs.length t.f.rc,.slice t.f.kq t.f.kl t.f.kc] 25)).alloc (.cells #[.bool c,.bool f] 27)).alloc (.cells #[.int .i64 0] 29)) w.heap.size t.f):=(Below.heap_alloc _ _ _ (by simp;omega)).trans ((Below.heap_alloc _ _ _ (by simp)).trans (aF w _))
 have M0:Hid ((((w.alloc (.cells #[.int .i64 t.f.k,.int .i64 t.f.n,.int .i64 t.f.mn,.int .i64 t.f.mx,.slice t.f.rq t.f.rs.length t.f.rc,.slice t.f.kq t.f.kl t.f.kc] 25)).alloc (.cells #[.bool c,.bool f] 27)).alloc (.cells #[.int .i64 0] 29)).heap[w.heap.size+1]?=some (.cells #[.bool c,.bool f] 27 (0,0))):=(Below.heap_alloc _ _ _ (by simp)).trans (by have:=aF (w.alloc (.cells #[.int .i64 t.f.k,.int .i64 t.f.n,.int .i64 t.f.mn,.int .i64 t.f.mx,.slice t.f.rq t.f.rs.length t.f.rc,.slice t.f.kq t.f.kl t.f.kc] 25)) (.cells #[.bool c,.bool f] 27);rwa [World.size_alloc] at this)
 have E0:Hid ((((w.alloc (.cells #[.int .i64 t.f.k,.int .i64 t.f.n,.int .i64 t.f.mn,.int .i64 t.f.mx,.slice t.f.rq t.f.rs.length t.f.rc,.slice t.f.kq t.f.kl t.f.kc] 25)).alloc (.cells #[.bool c,.bool f] 27)).alloc (.cells #[.int .i64 0] 29)).heap[w.heap.size+1+1]?=some (.cells #[.int .i64 0] 29 (0,0))):=(by have:=aF ((w.alloc (.cells #[.int .i64 t.f.k,.int .i64 t.f.n,.int .i64 t.f.mn,.int .i64 t.f.mx,.slice t.f.rq t.f.rs.length t.f.rc,.slice t.f.kq t.f.kl t.f.kc] 25)).alloc (.cells #[.bool c,.bool f] 27)) (.cells #[.int .i64 0] 29);rwa [World.size_alloc,World.size_alloc] at this)
 have B0:Hid (Below w.heap.size w (((w.alloc (.cells #[.int .i64 t.f.k,.int .i64 t.f.n,.int .i64 t.f.mn,.int .i64 t.f.mx,.slice t.f.rq t.f.rs.length t.f.rc,.slice t.f.kq t.f.kl t.f.kc] 25)).alloc (.cells #[.bool c,.bool f] 27)).alloc (.cells #[.int .i64 0] 29))):=((bz9).alloc (by simp) _).alloc (by simp;omega) _
 generalize (((w.alloc (.cells #[.int .i64 t.f.k,.int .i64 t.f.n,.int .i64 t.f.mn,.int .i64 t.f.mx,.slice t.f.rq t.f.rs.length t.f.rc,.slice t.f.kq t.f.kl t.f.kc] 25)).alloc (.cells #[.bool c,.bool f] 27)).alloc (.cells #[.int .i64 0] 29))=w1 at N0 M0 E0 B0 ⊢
 generalize hbm:w.heap.size+1=bm at M0 E0 ⊢
 generalize hbe:bm+1=be at E0 ⊢
 have m0:w1.cell? ⟨bm,0,none⟩=some (.bool c):=aA M0.out (i:=0) rfl
 have m1:w1.cell? ⟨bm,1,none⟩=some (.bool f):=aA M0.out (i:=1) rfl
 have hst:=uZ w1 c f
 go_upto_region 2 with fail
 have C2:Hid (CB (w1.alloc (.cells (jY c f).toArray 63)) w1.heap.size c f 0 0 (fun _=>⟨pI,0⟩)):=aC7 w1 c f
 have K2:Below w1.heap.size w1 (w1.alloc (.cells (jY c f).toArray 63)):=bz9
 have N2:Hid (BoxN (w1.alloc (.cells (jY c f).toArray 63)) w.heap.size t.f):=(K2.block _ (aC N0.out)).trans N0.out
 have E2:Hid ((w1.alloc (.cells (jY c f).toArray 63)).heap[be]?=some (.cells #[.int .i64 0] 29 (0,0))):=(K2.block _ (aC E0.out)).trans E0.out
 have B2:Hid (Below w.heap.size w (w1.alloc (.cells (jY c f).toArray 63))):=aG B0.out K2 lz9
 have hbb:w.heap.size<=w1.heap.size:=B0.out.size
 have hbe2:w.heap.size<=be:=by omega
 have hbl:=aC E0.out
 generalize (w1.alloc (.cells (jY c f).toArray 63))=w2 at C2 K2 N2 E2 B2 ⊢
 clear hst m0 m1 N0 M0 E0 K2
 generalize w1.heap.size=b at C2 hbb hbl ⊢
 obtain⟨c0,c1,c2,c3,c4,c5⟩:=N2.out.six
 simp only [Nat.zero_add] at c1 c2 c3 c4 c5
 go_wp2_with (go_at_call 26;(with_reducible refine(uF _ _).mono ?_);rintro e w3 ⟨rfl,rfl⟩)
 have K3:Below w2.heap.size w2 (w2.alloc (.cells #[.int .i64 t.f.k,.int .i64 t.f.n,.int .i64 t.f.mn,.int .i64 t.f.mx,.slice t.f.rq t.f.rs.length t.f.rc,.slice t.f.kq t.f.kl t.f.kc] 25)):=bz9
 have N3:BoxN (w2.alloc (.cells #[.int .i64 t.f.k,.int .i64 t.f.n,.int .i64 t.f.mn,.int .i64 t.f.mx,.slice t.f.rq t.f.rs.length t.f.rc,.slice t.f.kq t.f.kl t.f.kc] 25)) w2.heap.size t.f:=aF w2 _
 have C3:=C2.out.kept K3
 have E3:=(K3.block _ (aC E2.out)).trans E2.out
 have B3:=aG B2.out K3 lz9
 generalize (w2.alloc (.cells #[.int .i64 t.f.k,.int .i64 t.f.n,.int .i64 t.f.mn,.int .i64 t.f.mx,.slice t.f.rq t.f.rs.length t.f.rc,.slice t.f.kq t.f.kl t.f.kc] 25))=w4 at K3 N3 C3 E3 B3 ⊢
 generalize w2.heap.size=bn at N3 ⊢
 clear c0 c1 c2 c3 c4 c5 C2 N2 E2 B2 K3
 have L4:=C3.lt
 have L5:=aC E3
 refine(wpIn_wide (n:=n)).1 ?_
 refine aI3 (by omega) 13 14 bn rfl rfl N3 HTA.out (CK.of_below B3) (RI w t c f b be) (fun k pre V=>k=.ret/\V.heap[be]?=some (.cells #[.int .i64 (aS c f 0 0 (pp [] t))] 29 (0,0))/\Below w.heap.size w V)
  ?_ ?_ (fun pre W h=>by have:=h.len;omega) ⟨⟨_,C3,Inv.nil⟩,List.nil_prefix,by simp,E3,B3,fun rest hr=>by rw [hr];rfl⟩ (Ax2 6 7 w4.heap.size) (aF2 _ _ _) ?_ ?_ ?_ ?_
 ·rintro pre V V' row h hg hr
  obtain⟨A,hA,hI⟩:=h.chk
  exact⟨⟨A,hA.row hg hr,hI⟩,h.pfx,h.len,bP hg hr h.res,iD h.bel lz9 B3.size hg hr,h.ans⟩
 ·rintro k pre V V' row ⟨h0,h1,h2⟩ hg hr
  exact⟨h0,bP hg hr h1,iD h2 lz9 B3.size hg hr⟩
 ·intro l pre x V K _ _ hs _ hK
  have HS:=aB hs
  simp only [dG]
  gi_wp2
  exact hK _ _ (bz9) ⟨_,aF V _,HS.out,rfl⟩
 ·rintro l pre x a' V h hck hsz ht ⟨bx,hbx,hbl2,rfl⟩
  obtain⟨A,hA,hI⟩:=h.chk
  have hba:=hI.nx t x ht
  obtain⟨rest,hrest⟩:=ht
  have hin:x∈pp [] t:=by rw [<- hrest];simp
  have hway:∀ y∈x.1,NB w y.1:=wC t [] HTA.out (fun _ z=>by cases z) x hin
  have hkl:(A x.1.length).f.kl<=9223372036854775807:=by
   cases hx:x.1 with
   | nil=>
    rw [hx] at hba
    have:(A 0).f=pI:=hba
    rw [List.length_nil,this]
    simp [pI]
   | cons y ys=>
    rw [hx] at hba hway
    have e:=hba.1
    rw [List.length_cons,e]
    have hy:=hway y (List.mem_cons_self ..)
    obtain⟨q,cap,-,hm,-⟩:=hy.k.slice
    show y.1.f.kl<=_
    rw [hy.kl]
    exact hm
  have hbd:=hI.bd x.1.length
  have hdp:=nV (t:=t) (pre:=pre) (x:=x) ⟨rest,hrest⟩
  have hlen:=h.len
  have hgl:=uN pre
  have LK:=aB (aJ2 (t:=x.2) hA hba (fun y hy=>(hway y hy).kl) hkl ⟨hbd.1,by omega⟩ ((HTA.out.at hin).node.ck hck) hlen (by omega) (by omega))
  have HE:=aB (show pp [] t=pre ++ x :: rest by rw [<- hrest];simp)
  have HA2:=aB (h.ans (x :: rest) HE.out)
  have HH:=aB h
  have HBA:=aB hba
  have HI:=aB hI
  obtain⟨k0,k1,k2,k3,k4,k5⟩:=hbx.six
  simp only [Nat.zero_add] at k1 k2 k3 k4 k5
  obtain⟨m,hm⟩:∃ m,bI c f x.1 x.2 pre.length (aW pre)=m:=⟨_,rfl⟩
  have HM:=aB hm
  have HBX:=aB hbx
  clear h hck hsz hbx hba hrest hin hway hkl hbd hm hI hgl
  simp only [dG]
  by_cases hm0:m=0
  ·have e0:(m != 0)=false:=by simpa using hm0
   gi_wp2
   refine⟨(fun z=>by cases z),(CallsIn.inRound l (callsIn_wide.2 (LK.out))).mono ?_⟩
   rintro e V5 ⟨he5,h51,h52⟩
   rw [HM.out] at he5 h51
   subst he5
   have X5:=aB (h51 hm0)
   have F5:=aB h52
   clear h51 h52
   gi_wp2
   subst hm0
   have hl2:pre.length < 2000:=by
    rcases Nat.lt_or_ge pre.length 2000 with z | z
    ·exact z
    ·have:=HM.out
     unfold bI at this
     rw [if_pos (by omega)] at this
     cases this
   refine⟨F5.out.keepsFrom (fun k hk=>by omega),F5.out.ckeep (fun k hk=>by rintro (z | z) <;> omega),⟨⟨_,?_,HI.out.step HBA.out⟩,?_,by simp;omega,(F5.out.block _ (aC HH.out.res) (by omega)).trans HH.out.res,cL HH.out.bel F5.out lz9 (fun k e=>by omega),fun rest' hr'=>?_⟩⟩
   ·have:=X5.out
    rw [gX,Int.natCast_add,show (((if x.2.f.k=7 then 1 else 0:Nat)):Int)=(if x.2.f.k=7 then 1 else 0) by split <;> rfl]
    simpa using this
   ·exact⟨rest,by rw [HE.out];simp⟩
   ·rw [HE.out,List.append_assoc,List.append_cancel_left_eq] at hr'
    simp at hr'
    subst hr'
    rw [HA2.out]
    simp only [aS,HM.out,ne_eq,not_true,if_false,List.length_append,List.length_cons,List.length_nil,gX]
  ·have e0:(m != 0)=true:=by simpa using hm0
   have HR:=aB (show m=aS c f 0 0 (pp [] t) by rw [HA2.out];simp only [aS,HM.out,ne_eq,hm0,not_false_eq_true,if_true])
   gi_wp2
   refine⟨(fun z=>by cases z),(CallsIn.inRound l (callsIn_wide.2 (LK.out))).mono ?_⟩
   rintro e V5 ⟨he5,h51,h52⟩
   rw [HM.out] at he5
   subst he5
   have F5:=aB h52
   have E5:V5.heap[be]?=some (.cells #[.int .i64 0] 29 (0,0)):=(h52.block _ (aC HH.out.res) (by omega)).trans HH.out.res
   have fz:=bE E5 0
   have cz:=aA E5 (i:=0) rfl
   have E6:=aB (aU E5 0 (.int .i64 m))
   have F6:=aB ((Fr.refl (fun z=>z=be) V5).setCell (p:=⟨be,0,none⟩) rfl (.int .i64 m))
   clear h51 h52 E5
   gi_wp2
   refine⟨(F5.out.keepsFrom (fun k hk=>by omega)).trans (F6.out.keepsFrom (fun k hk=>by omega)),rfl,by rw [<- HR.out];exact E6.out,cL (cL HH.out.bel F5.out lz9 (fun k e=>by omega)) F6.out lz9 (fun k e=>by omega)⟩
 ·rintro D V hD h hck hK
  have e1:aS c f 0 0 (pp [] t)=0:=by rw [h.ans [] (by simp)];rfl
  have HH:=aB h
  have HK:=aB hK
  have HD:=aB hD
  have fz:=bE h.res 0
  have cz:=aA h.res (i:=0) rfl
  have E6:=aB (aU h.res 0 (.int .i64 0))
  have F6:=aB ((Fr.refl (fun z=>z=be) V).setCell (p:=⟨be,0,none⟩) rfl (.int .i64 0))
  clear h hck hK hD
  simp only [dJ]
  go_wp2
  have hDb:be≠D:=by have:=HD.out;omega
  have cw:((V.setCell ⟨be,0,none⟩ (.int .i64 0)).putObj D (.deferred none)).cell? ⟨be,0,none⟩=some (.int .i64 0):=aA ((World.putObj_heap_other hDb).trans E6.out) (i:=0) rfl
  refine⟨by simp,.inl ⟨_,_,rfl,run_takeDeferred ((F6.out.block _ (aC HK.out) (by have:=HD.out;omega)).trans HK.out),?_⟩⟩
  exact⟨.int .i64 (aS c f 0 0 (pp [] t)),by simp [results,Tryz.results11,go_sem,cw,e1],rfl,kD _ (cL HH.out.bel F6.out lz9 (fun k e=>by omega)) (Nat.le_trans B3.size HD.out)⟩
 ·rintro D k pre V hD hpre ⟨rfl,h1,h2⟩ hK
  refine(wpIn_wide (n:=n)).2 ?_
  have H1:=aB h1
  have H2:=aB h2
  have HK:=aB hK
  have hDb:be≠D:=by omega
  have cw:(V.putObj D (.deferred none)).cell? ⟨be,0,none⟩=some (.int .i64 (aS c f 0 0 (pp [] t))):=aA ((World.putObj_heap_other hDb).trans H1.out) (i:=0) rfl
  clear h1 h2 hK
  simp only [dJ]
  go_wp2
  refine⟨by simp,.inl ⟨_,_,rfl,run_takeDeferred HK.out,?_⟩⟩
  exact⟨.int .i64 (aS c f 0 0 (pp [] t)),by simp [results,Tryz.results11,go_sem,cw],rfl,kD _ H2.out (Nat.le_trans B3.size hD)⟩
theorem qL{w:World}{t:Tr}(c f:Bool)(hta:TB w t):Calls Tryz.prog 11 #[.agg #[.int .i64 t.f.k,.int .i64 t.f.n,.int .i64 t.f.mn,.int .i64 t.f.mx,.slice t.f.rq t.f.rs.length t.f.rc,.slice t.f.kq t.f.kl t.f.kc],.agg #[.bool c,.bool f]] w fun e w'=>e=.returned (.int .i64 (aS c f 0 0 (pp [] t)))/\Below w.heap.size w w':=callsIn_wide.1 (xK 3 (by decide) c f hta)
end
theorem eH{c f:Bool}:∀ (L:List El) (ah gr:Nat),aS c f ah gr L=0->∀ pre x post,L=pre ++ x :: post->bI c f x.1 x.2 (ah+pre.length) (gr+aW pre)=0
 | [],_,_,_,pre,x,post,h=>by cases pre <;> cases h
 | y :: L,ah,gr,hr,pre,x,post,h=>by
  unfold aS at hr
  by_cases hy:bI c f y.1 y.2 ah gr=0
  ·rw [if_neg (by simpa using hy)] at hr
   cases pre with
   | nil=>
    simp at h
    obtain⟨rfl,rfl⟩:=h
    simpa [aW] using hy
   | cons z pre=>
    simp at h
    obtain⟨rfl,rfl⟩:=h
    have:=eH (pre ++ x :: post) (ah+1) (gr+(if y.2.f.k=7 then 1 else 0)) hr pre x post rfl
    simp only [List.length_cons,aW]
    rw [show ah+(pre.length+1)=ah+1+pre.length by omega,show gr+((if y.2.f.k=7 then 1 else 0)+aW pre)=gr+(if y.2.f.k=7 then 1 else 0)+aW pre by omega]
    exact this
  ·rw [if_pos hy] at hr
   exact absurd hr hy
theorem oP{c f:Bool}:∀ (L:List El) (ah gr:Nat),(∀ pre x post,L=pre ++ x :: post->bI c f x.1 x.2 (ah+pre.length) (gr+aW pre)=0)->aS c f ah gr L=0
 | [],_,_,_=>rfl
 | y :: L,ah,gr,h=>by
  unfold aS
  have hy:=h [] y L rfl
  simp only [List.length_nil,Nat.add_zero,aW] at hy
  rw [if_neg (by simpa using hy)]
  refine oP L (ah+1) (gr+(if y.2.f.k=7 then 1 else 0)) fun pre x post e=>?_
  have:=h (y :: pre) x post (by rw [e];rfl)
  simp only [List.length_cons,aW] at this
  rw [show ah+1+pre.length=ah+(pre.length+1) by omega,show gr+(if y.2.f.k=7 then 1 else 0)+aW pre=gr+((if y.2.f.k=7 then 1 else 0)+aW pre) by omega]
  exact this
theorem aC3{ks:List Tr}(s:Way)(h:∀ t∈ks,∀ p,pp (p ++ s) t=(pp p t).map fun z=>(z.1 ++ s,z.2))(par:Tr)(p:Way)(i:Nat):pps par (p ++ s) i ks=(pps par p i ks).map fun z=>(z.1 ++ s,z.2):=by
 induction ks generalizing i with
 | nil=>rw [aV,aV];rfl
 | cons t ts ih=>rw [aT,aT,List.map_append,<- ih (fun u hu=>h u (List.mem_cons_of_mem _ hu)),<- h t (List.mem_cons_self ..)];rfl
theorem aI4(s:Way)(t:Tr):∀ p,pp (p ++ s) t=(pp p t).map fun z=>(z.1 ++ s,z.2):=by
 refine Tr.ind (P:=fun t=>∀ p,pp (p ++ s) t=(pp p t).map fun z=>(z.1 ++ s,z.2)) (fun t ih p=>?_) t
 rw [bQ,bQ,List.map_cons,aC3 s ih]
theorem vO{par:Tr}{p:Way}{ks:List Tr}{i:Nat}{u:Tr}(h:ks[i]?=some u):∃ a b,pps par p 0 ks=a ++ pp ((par,i) :: p) u ++ b:=by
 have e:ks=ks.take i ++ u :: ks.drop (i+1):=by
  have hi:=(List.getElem?_eq_some_iff.1 h).1
  have:=List.take_append_drop i ks
  rw [List.drop_eq_getElem_cons hi,(List.getElem?_eq_some_iff.1 h).2] at this
  exact this.symm
 have hl:(ks.take i).length=i:=by rw [List.length_take];have:=(List.getElem?_eq_some_iff.1 h).1;omega
 refine⟨pps par p 0 (ks.take i),pps par p (i+1) (ks.drop (i+1)),?_⟩
 have:=iR par p (ks.take i) (u :: ks.drop (i+1)) 0
 rw [<- e,hl,aT,Nat.zero_add] at this
 rw [this,List.append_assoc]
theorem sM{pk seen k:Int}{kl:Nat}(h:cE pk seen kl k=true):cB k=true:=by
 have ht:aZ k=true->cB k=true:=by
  intro z
  simp [aZ] at z
  simp [cB]
  omega
 unfold cE at h
 split at h
 ·simp at h
  rcases h with (z | z) | z
  ·exact ht z
  ·obtain⟨rfl,-⟩:=z;rfl
  ·obtain⟨rfl,-⟩:=z;rfl
 ·split at h
  ·exact ht h
  ·split at h
   ·simp at h;exact h.1
   ·exact h
theorem gU{c f:Bool}{L:List El}(hr:aS c f 0 0 L=0):L.length<=2000:=by
 rcases Nat.lt_or_ge 2000 L.length with h | h
 ·exfalso
  have e:L=L.take 2000 ++ L[2000] :: L.drop 2001:=by
   have:=List.take_append_drop 2000 L
   rw [List.drop_eq_getElem_cons h] at this
   exact this.symm
  have:=eH L 0 0 hr _ _ _ e
  rw [show 0+(L.take 2000).length=2000 by rw [List.length_take];omega] at this
  unfold bI at this
  rw [if_pos rfl] at this
  cases this
 ·exact h
def Fl.cells(f:Fl):List Value:=[.int .i64 f.k,.int .i64 f.n,.int .i64 f.mn,.int .i64 f.mx,.slice f.rq f.rs.length f.rc,.slice f.kq f.kl f.kc]
def cS(ks:List Tr):List Value:=ks.flatMap fun t=>t.f.cells
theorem lK(t:Tr)(ks:List Tr):cS (t :: ks)=t.f.cells ++ cS ks:=by simp [cS]
theorem nR(a b:List Tr):cS (a ++ b)=cS a ++ cS b:=by simp [cS]
theorem mZ:∀ (ks:List Tr) (i j:Nat) (t:Tr),ks[i]?=some t->j < 6->(cS ks)[i * 6+j]?=t.f.cells[j]?
 | t :: ks,0,j,u,h,hj=>by
  simp at h
  subst h
  rw [lK,Nat.zero_mul,Nat.zero_add,List.getElem?_append_left (by simpa [Fl.cells] using hj)]
 | t :: ks,i+1,j,u,h,hj=>by
  rw [lK,List.getElem?_append_right (by simp [Fl.cells];omega),show (i+1) * 6+j - t.f.cells.length=i * 6+j by simp [Fl.cells];omega]
  exact mZ ks i j u (by simpa using h) hj
theorem pV(b o j:Nat):(⟨b,o,none⟩:Addr).add j=⟨b,o+j,none⟩:=by unfold Addr.add;split <;> simp_all
theorem Six.at{W:World}{g o:Nat}{f:Fl}(h:Six W g o f){j:Nat}{u:Value}(hj:f.cells[j]?=some u):W.cell? ⟨g,o+j,none⟩=some u:=by
 obtain⟨h0,h1,h2,h3,h4,h5⟩:=h
 match j,hj with
 | 0,hj=>simp [Fl.cells] at hj;subst hj;exact h0
 | 1,hj=>simp [Fl.cells] at hj;subst hj;exact h1
 | 2,hj=>simp [Fl.cells] at hj;subst hj;exact h2
 | 3,hj=>simp [Fl.cells] at hj;subst hj;exact h3
 | 4,hj=>simp [Fl.cells] at hj;subst hj;exact h4
 | 5,hj=>simp [Fl.cells] at hj;subst hj;exact h5
 | j+6,hj=>simp [Fl.cells] at hj
theorem oK(W:World)(a:Option Addr)(l c:Nat):(binOp .eql 22 (.slice a l c) (.slice none 0 0)).run Tryz.prog W=.ok (.bool a.isNone) W:=by
 unfold binOp
 simp [run_equal_slice_nil W _ _ a l c aR]
theorem zI{w:World}{q:Option Addr}{k:Nat}{L:List (Int × Int)}(h:ArgR w (.slice q L.length k) L)(hl:L.length+3<=8796093022208) :
  Calls Tryz.prog 117 #[.slice q L.length k] w fun e w'=>∃ q' k',e=.returned (.slice q' L.length k')/\RR w.heap.size w' (.slice q' L.length k') L/\Below w.heap.size w w':=by
 obtain⟨t0,hi,hz0,hz1,hz2⟩:=aQ bS
 cases q with
 | none=>
  have hLn:L=[]/\k=0:=by
   rcases h with⟨p,cap,e,rfl,hp⟩ | ⟨g,off,cap,e,-⟩
   ·cases e;exact⟨rfl,hp rfl⟩
   ·cases e
  obtain⟨rfl,rfl⟩:=hLn
  have hq:=fun W=>oK W none 0 0
  clear h
  go_enter Tryz.func117,Tryz.ntmps117
  go_wp2
  go_ret
  exact⟨none,0,rfl,RR.nil _ _,Below.refl _ _⟩
 | some ad=>
  have hq:=fun W=>oK W (some ad) L.length k
  have B0:Below w.heap.size w (w.alloc (.cells #[] 48)):=bz9
  have OW:Hid ((w.alloc (.cells #[] 48)).ownsRow w.heap.size 48 2 (.slice (some ⟨w.heap.size,0,none⟩) 0 0) 0 []):=⟨rfl,.inr ⟨w.heap.size,0,#[],rfl,Nat.le_refl _,aF w _,Nat.le_refl _,Nat.zero_le _,rfl,rfl⟩⟩
  have HG:=aB (h.kept B0).news
  clear h B0
  go_enter Tryz.func117,Tryz.ntmps117
  go_wp2_with (at_builtin;refine wpList_append_own_at _ rfl _ _ 22 rfl w.heap.size 48 t0 (.agg #[.int .i64 0,.int .i64 0]) 2 16 aR hi hz0 hz1 hz2 rfl (by decide) (.slice (some ⟨w.heap.size,0,none⟩) 0 0) 0 [] rfl OW.out ad L.length k (aK L) rfl (by rw [cA]) HG.out (fP L) (by unfold maxLen;omega) (by omega) (by simp) ?_;intro v' w6 hown' hgrow _ hblk;obtain⟨q6,cap6,rfl⟩:=aL hown';have O6:Hid (w6.ownsRow w.heap.size 48 2 (.slice q6 (0+L.length) cap6) (0+L.length) ([] ++ aK L)):=hown';have B6:Hid (Below w.heap.size w w6):=((((Fr.refl (fun k=>k=w.heap.size) w).alloc _).grown hgrow (fun k hk=>by(simp [Value.ownBlock] at hk;exact hk.symm))).below lz9 (fun k hk=>by omega));clear hown' hgrow hblk)
  go_ret
  have:=O6.out
  rw [Nat.zero_add,List.nil_append] at this
  exact⟨q6,cap6,by simp,this,B6.out⟩
def yU(N:Nat->Prop)(t:Tr):Prop:=(∀ a,t.f.rq=some a->t.f.rs≠[]->N a.block)/\(∀ a,t.f.kq=some a->t.ks≠[]->N a.block)
def Foot(N:Nat->Prop)(t:Tr):Prop:=bU (yU N) t
theorem Foot.mono{N M:Nat->Prop}{t:Tr}(h:Foot N t)(hm:∀ k,N k->M k):Foot M t:=eZ (fun _ q=>⟨fun a e z=>hm _ (q.1 a e z),fun a e z=>hm _ (q.2 a e z)⟩) t h
theorem kW{P Q R:Tr->Prop}(h:∀ t,P t->Q t->R t)(t:Tr):bU P t->bU Q t->bU R t:=by
 refine Tr.ind (P:=fun t=>bU P t->bU Q t->bU R t) (fun t ih hp hq=>?_) t
 exact(aX t).2 ⟨h t ((aX t).1 hp).1 ((aX t).1 hq).1,(bD _).2 fun u hu=>ih u hu (cT hp hu) (cT hq hu)⟩
structure KR(W:World)(g:Nat)(ks:List Tr):Prop where
 blk:∃ cur,W.heap[g]?=some (.cells cur 25 (0,0))
 six:∀ (i:Nat) (t:Tr),ks[i]?=some t->Six W g (i * 6) t.f
theorem KR.of_row{W:World}{base g n c:Nat}{ks:List Tr}(h:W.ownsRow base 25 6 (.slice (some ⟨g,0,none⟩) n c) n (cS ks)):KR W g ks:=by
 obtain⟨-,-,cur,hc⟩:=aH h (g:=g) rfl
 have at':∀ (i j:Nat) (t:Tr) (u:Value),ks[i]?=some t->t.f.cells[j]?=some u->W.cell? ⟨g,i * 6+j,none⟩=some u:=fun i j t u hi hj=>
  bA h ((mZ ks i j t hi (by have:=(List.getElem?_eq_some_iff.1 hj).1;simpa [Fl.cells] using this)).trans hj)
 exact⟨⟨cur,hc⟩,fun i t hi=>⟨at' i 0 t _ hi rfl,at' i 1 t _ hi rfl,at' i 2 t _ hi rfl,at' i 3 t _ hi rfl,at' i 4 t _ hi rfl,at' i 5 t _ hi rfl⟩⟩
theorem KR.arg{W:World}{g c:Nat}{ks:List Tr}(h:KR W g ks)(h1:ks.length<=c)(h2:c<=maxLen):ArgK W (.slice (some ⟨g,0,none⟩) ks.length c) ks:=by
 obtain⟨cur,hc⟩:=h.blk
 exact .inr ⟨g,0,c,rfl,aC hc,h1,h2,fun i t hi=>by rw [Nat.zero_add];exact h.six i t hi⟩
def iP(W:World)(b o:Nat)(f:Fl):World:=
 (((((W.setCell ⟨b,o,none⟩ (.int .i64 f.k)).setCell ⟨b,o+1,none⟩ (.int .i64 f.n)).setCell ⟨b,o+2,none⟩ (.int .i64 f.mn)).setCell ⟨b,o+3,none⟩ (.int .i64 f.mx)).setCell ⟨b,o+4,none⟩ (.slice f.rq f.rs.length f.rc)).setCell ⟨b,o+5,none⟩ (.slice f.kq f.kl f.kc)
theorem pA(W:World)(b o:Nat)(f:Fl):Fr (fun z=>z=b) W (iP W b o f):=by
 unfold iP
 exact((((((Fr.refl (fun z=>z=b) W).setCell (p:=⟨b,o,none⟩) rfl _).setCell (p:=⟨b,o+1,none⟩) rfl _).setCell (p:=⟨b,o+2,none⟩) rfl _).setCell (p:=⟨b,o+3,none⟩) rfl _).setCell (p:=⟨b,o+4,none⟩) rfl _).setCell (p:=⟨b,o+5,none⟩) rfl _
theorem mC{W:World}{b o:Nat}{f g:Fl}(h:Six W b o f):Six (iP W b o g) b o g:=by
 obtain⟨k0,k1,k2,k3,k4,k5⟩:=h
 unfold iP
 refine⟨?_,?_,?_,?_,?_,?_⟩
 ·exact aE (aE (aE (aE (aE (World.cell?_setCell_same _ _ _ k0) (by omega)) (by omega)) (by omega)) (by omega)) (by omega)
 ·exact aE (aE (aE (aE (World.cell?_setCell_same _ _ _ (aE k1 (by omega))) (by omega)) (by omega)) (by omega)) (by omega)
 ·exact aE (aE (aE (World.cell?_setCell_same _ _ _ (aE (aE k2 (by omega)) (by omega))) (by omega)) (by omega)) (by omega)
 ·exact aE (aE (World.cell?_setCell_same _ _ _ (aE (aE (aE k3 (by omega)) (by omega)) (by omega))) (by omega)) (by omega)
 ·exact aE (World.cell?_setCell_same _ _ _ (aE (aE (aE (aE k4 (by omega)) (by omega)) (by omega)) (by omega))) (by omega)
 ·exact World.cell?_setCell_same _ _ _ (aE (aE (aE (aE (aE k5 (by omega)) (by omega)) (by omega)) (by omega)) (by omega))
theorem uK(l:List Tr):l.length<=szs l:=by
 induction l with
 | nil=>simp
 | cons x l ih=>rw [fW,List.length_cons];have:=kI x;omega
theorem uT{base:Nat}{w W W':World}{e:TypeId}{size n:Nat}{v:Value}{xs:List Value}(h:Below base w W)(hw:base<=w.heap.size)(ho:W.ownsRow base e size v n xs)(hg:W.grownBy W' v.ownBlock):Below base w W':=
 h.trans ⟨hg.os,hg.tape,hg.output,hg.size,fun k hk=>hg.block k (by have:=h.size;omega) (fun q=>by have:=(aH ho q.symm).1;omega)⟩
theorem aA8{W:World}{base c:Nat}{q:Option Addr}{ks:List Tr}(h:W.ownsRow base 25 6 (.slice q ks.length c) ks.length (cS ks)):ArgK W (.slice q ks.length c) ks:=by
 rcases h.2 with⟨e,hn⟩ | ⟨g,cap,cur,e,h1,h2,h3,h4,-⟩
 ·obtain rfl:=List.eq_nil_of_length_eq_zero hn
  injection e with e1 _ e3
  subst e1 e3
  exact .inl ⟨none,0,rfl,rfl,fun _=>rfl⟩
 ·injection e with e1 _ e3
  subst e1 e3
  exact(KR.of_row h).arg h3 h4
theorem qG{W:World}{b:Nat}{f:Fl}(h:BoxN W b f):∀ j u,f.cells[j]?=some u->W.cell? ((⟨b,0,none⟩:Addr).add j)=some u:=fun j u hj=>by rw [pV];exact h.six.at hj
section
mutual
def Er.sz:Er->Nat | .mk _ _ _ _ _ ks=>nN ks+1
def nN:List Er->Nat | []=>0 | x :: xs=>x.sz+nN xs
end
def Er.k:Er->Int | .mk k _ _ _ _ _=>k
def Er.ks:Er->List Er | .mk _ _ _ _ _ ks=>ks
theorem iX(x:Er):x.sz=nN x.ks+1:=by cases x;rw [Er.sz];rfl
theorem hQ(x:Er)(l:List Er):nN (x :: l)=x.sz+nN l:=by rw [nN]
theorem fA:nN []=0:=by rw [nN]
theorem aO1(t:Tr):(er t).k=t.f.k:=by rw [iI];rfl
theorem aG7(t:Tr):(er t).ks=t.ks.map er:=by rw [iI];rfl
theorem zA(t:Tr):(er t).sz=t.sz:=by
 refine Tr.ind (P:=fun t=>(er t).sz=t.sz) (fun t ih=>?_) t
 rw [iX,aG7,lE]
 congr 1
 have:∀ l:List Tr,(∀ u∈l,(er u).sz=u.sz)->nN (l.map er)=szs l:=by
  intro l
  induction l with
  | nil=>intro _;rw [List.map_nil,fA,oT]
  | cons x l ih2=>
   intro h
   rw [List.map_cons,hQ,fW,h x (List.mem_cons_self ..),ih2 (fun u hu=>h u (List.mem_cons_of_mem _ hu))]
 exact this t.ks ih
section
variable {V:World} {g:Nat} {t1 t2 t3:Tr}
end
end
theorem hU{t:Tr}{k n mn mx:Int}{rs:List (Int × Int)}{l:List Er}(h:er t=.mk k n mn mx rs l):t.f.k=k/\t.f.n=n/\t.f.mn=mn/\t.f.mx=mx/\t.f.rs=rs/\t.ks.map er=l:=by
 rw [iI] at h
 injection h with h1 h2 h3 h4 h5 h6
 exact⟨h1,h2,h3,h4,h5,h6⟩
theorem uI{ks:List Tr}{x:Er}(h:ks.map er=[x]):∃ a,ks=[a]/\er a=x:=by
 match ks,h with
 | [a],h=>simp at h;exact⟨a,rfl,h⟩
theorem aN6(x:Ps):(te x).k=x.kd:=by
 cases x with
 | row l=>simp only [te,Ps.kd];split <;> rfl
 | _=>simp [te,Ps.kd,Er.k]
theorem aK9(x:Ps):(te x).sz=x.sz:=by
 refine Ps.ind (P:=fun x=>(te x).sz=x.sz) (fun x ih=>?_) x
 have hl:∀ l:List Ps,(∀ y∈l,(te y).sz=y.sz)->nN (tes l)=mD l:=by
  intro l
  induction l with
  | nil=>intro _;rw [tes,fA,qM]
  | cons y l ih2=>intro h;rw [tes,hQ,oC,h y (List.mem_cons_self ..),ih2 (fun z hz=>h z (List.mem_cons_of_mem _ hz))]
 cases x with
 | lf k n rs=>simp only [te,Ps.sz,iX,Er.ks,fA]
 | grp n k=>rw [te,iX,Ps.sz];simp only [Er.ks];rw [hQ,fA,ih k (by simp [Ps.kids])]
 | rep a b k=>rw [te,iX,Ps.sz];simp only [Er.ks];rw [hQ,fA,ih k (by simp [Ps.kids])]
 | row l=>
  rw [te,Ps.sz]
  split
  ·rename_i h
   rw [List.isEmpty_iff.1 h,iX,qM];simp only [Er.ks,fA]
  ·rw [iX];simp only [Er.ks];rw [hl l ih]
 | alt l=>rw [te,Ps.sz,iX];simp only [Er.ks];rw [hl l ih]
theorem jX(a b:List El):eL (a ++ b)=max (eL a) (eL b):=by
 induction a with
 | nil=>simp [eL]
 | cons x a ih=>simp only [List.cons_append,eL,ih];omega
theorem aE6(x:Ps):∀ (t:Tr) (wy:Way),er t=te x->eL (pp wy t)=wy.length+x.dp:=by
 refine Ps.ind (P:=fun x=>∀ (t:Tr) (wy:Way),er t=te x->eL (pp wy t)=wy.length+x.dp) (fun x ih t wy h=>?_) x
 have hl:∀ (l:List Ps) (ks:List Tr) (i:Nat),(∀ y∈l,∀ (t:Tr) (wy:Way),er t=te y->eL (pp wy t)=wy.length+y.dp)->ks.map er=l.map te->eL (pps t wy i ks)=if l=[] then 0 else wy.length+1+kP l:=by
  intro l
  induction l with
  | nil=>
   intro ks i _ h
   obtain rfl:ks=[]:=by simpa using h
   rw [aV,if_pos rfl];rfl
  | cons y l ih2=>
   intro ks i h hk
   match ks,hk with
   | u :: ks,hk=>
    rw [List.map_cons,List.map_cons] at hk
    injection hk with h1 h2
    rw [aT,jX,h y (List.mem_cons_self ..) u _ h1,ih2 ks (i+1) (fun z hz=>h z (List.mem_cons_of_mem _ hz)) h2,kP,List.length_cons]
    by_cases e:l=[]
    ·subst e
     rw [if_pos rfl,if_neg (by simp),kP];omega
    ·rw [if_neg e,if_neg (by simp)];omega
 rw [bQ]
 simp only [eL]
 have hks:t.ks.map er=(te x).ks:=by rw [<- aG7,h]
 cases x with
 | lf k n rs=>
  rw [te] at hks
  rw [show t.ks=[] by simpa [Er.ks] using hks,aV,Ps.dp]
  simp [eL]
 | grp n k=>
  rw [te] at hks
  rw [hl [k] t.ks 0 ih (by simpa [Er.ks] using hks),if_neg (by simp),Ps.dp,kP,kP]
  omega
 | rep a b k=>
  rw [te] at hks
  rw [hl [k] t.ks 0 ih (by simpa [Er.ks] using hks),if_neg (by simp),Ps.dp,kP,kP]
  omega
 | row l=>
  rw [te] at hks
  by_cases e:l=[]
  ·subst e
   rw [if_pos (show ([]:List Ps).isEmpty=true from rfl)] at hks
   rw [show t.ks=[] by simpa [Er.ks] using hks,aV,Ps.dp,kP]
   simp [eL]
  ·rw [if_neg (by simpa using e)] at hks
   rw [hl l t.ks 0 ih (by rw [<- lM];simpa [Er.ks] using hks),if_neg e,Ps.dp]
   omega
 | alt l=>
  rw [te] at hks
  rw [hl l t.ks 0 ih (by rw [<- lM];simpa [Er.ks] using hks),Ps.dp]
  split
  ·rename_i e;rw [e,kP];omega
  ·omega
def xD(c f:Bool):Sgn->Prop
 | .lf k n rs=>(k=2->kN c f rs/\n=0)/\(k≠2->rs=[])/\(k=8->1<=n/\n<=9)/\(k≠8->n=0)
 | .rp a b=>dL a b=true
 | _=>True
def LKr(c f:Bool)(x:El)(gr:Nat):Prop:=
 bR x.1 x.2.f.k=true/\aP c f ((gr:Int)+1) x.2.f/\dV x.2.f.k x.2.ks.length=true/\(x.2.f.k=7->x.2.f.n<=30)/\(x.2.f.k=8->dP x.1 x.2.f.n=false/\x.2.f.n<=(gr:Int))
def RTr(c f:Bool)(gr:Nat)(L:List El):Prop:=∀ pre x post,L=pre ++ x :: post->LKr c f x (gr+aW pre)
theorem RTr.nil(c f:Bool)(gr:Nat):RTr c f gr []:=fun pre x post h=>by cases pre <;> cases h
theorem RTr.append{c f:Bool}{gr:Nat}{A B:List El}(h1:RTr c f gr A)(h2:RTr c f (gr+aW A) B):RTr c f gr (A ++ B):=by
 intro pre x post h
 rcases List.append_eq_append_iff.1 h with⟨a,e1,e2⟩ | ⟨a,e1,e2⟩
 ·rw [e1,eQ,<- Nat.add_assoc]
  exact h2 a x post e2
 ·cases a with
  | nil=>
   simp at e1 e2
   subst e1
   have:=h2 [] x post (by simp [<- e2])
   simpa [aW] using this
  | cons y a=>
   simp at e2
   obtain⟨rfl,e2⟩:=e2
   exact h1 pre x a e1
theorem RTr.one{c f:Bool}{gr:Nat}{x:El}(h:LKr c f x gr):RTr c f gr [x]:=by
 intro pre y post e
 cases pre with
 | nil=>simp at e;obtain⟨rfl,-⟩:=e;simpa [aW] using h
 | cons z pre=>simp at e
theorem aG4(g:Nat)(o e:List Nat)(l:List Sgn):hk g o e (.al :: l)=hk g o e l:=rfl
theorem aL8(g:Nat)(o e:List Nat)(a b:Int)(l:List Sgn):hk g o e (.rp a b :: l)=hk g o e l:=rfl
def Iv(gr:Nat)(e:List Nat)(wy:Way):Prop:=∀ n∈e,n<=gr/\dP wy (n:Int)=false
def Av(gr:Nat)(wy:Way):Prop:=∀ y∈wy,y.1.f.k=7->y.1.f.n<=(gr:Int)
theorem Av.mono{gr gr':Nat}{wy:Way}(h:Av gr wy)(hg:gr<=gr'):Av gr' wy:=fun y hy hk=>by have:=h y hy hk;omega
theorem hX(t:Tr)(i:Nat)(wy:Way)(n:Int):dP ((t,i) :: wy) n=((t.f.k==7 && t.f.n==n) || dP wy n):=by simp [dP]
theorem Iv.down{gr:Nat}{e:List Nat}{wy:Way}{t:Tr}(i:Nat)(h:Iv gr e wy)(hk:t.f.k≠7):Iv gr e ((t,i) :: wy):=fun n hn=>⟨(h n hn).1,by rw [hX,(h n hn).2];simp [hk]⟩
theorem Iv.up{gr:Nat}{e:List Nat}{wy:Way}{t:Tr}{i:Nat}(h:Iv gr e ((t,i) :: wy)):Iv gr e wy:=fun n hn=>⟨(h n hn).1,by have:=(h n hn).2;rw [hX] at this;simp only [Bool.or_eq_false_iff] at this;exact this.2⟩
theorem Iv.turn{gr:Nat}{e:List Nat}{wy:Way}{t:Tr}{i:Nat}(j:Nat)(h:Iv gr e ((t,i) :: wy)):Iv gr e ((t,j) :: wy):=fun n hn=>⟨(h n hn).1,by have:=(h n hn).2;rw [hX] at this ⊢;exact this⟩
theorem Av.down{gr:Nat}{wy:Way}{t:Tr}(i:Nat)(h:Av gr wy)(hk:t.f.k=7->t.f.n<=(gr:Int)):Av gr ((t,i) :: wy):=fun y hy h7=>by
 rcases List.mem_cons.1 hy with rfl | hy
 ·exact hk h7
 ·exact h y hy h7
theorem Av.end_{gr:Nat}{wy:Way}(h:Av gr wy){n:Nat}(hn:gr < n):dP wy (n:Int)=false:=by
 unfold dP
 rw [List.any_eq_false]
 intro y hy
 simp only [Bool.and_eq_true,beq_iff_eq,not_and]
 intro h7 e
 have:=h y hy h7
 omega
def RtP(c f:Bool)(x:Ps):Prop:=∀ (t:Tr) (wy:Way) (gr:Nat) (o e:List Nat) (rest:List Sgn),er t=te x->wf x->(∀ s∈pfl x,xD c f s)->bR wy x.kd=true->Iv gr e wy->Av gr wy->hk gr o e (pfl x ++ rest) ->
 RTr c f gr (pp wy t)/\∃ e',hk (gr+aW (pp wy t)) o e' rest/\Iv (gr+aW (pp wy t)) e' wy
theorem xF{c f:Bool}{par:Tr}{wy:Way}:∀ (l:List Ps) (ks:List Tr) (i gr:Nat) (o e:List Nat) (rest:List Sgn),(∀ y∈l,RtP c f y)->ks.map er=l.map te->wfs l->(∀ s∈nM l,xD c f s)->(∀ j y,l[j]?=some y->bR ((par,i+j) :: wy) y.kd=true)->Iv gr e ((par,i) :: wy)->Av gr ((par,i) :: wy)->hk gr o e (nM l ++ rest) ->
  RTr c f gr (pps par wy i ks)/\∃ e',hk (gr+aW (pps par wy i ks)) o e' rest/\Iv (gr+aW (pps par wy i ks)) e' ((par,i) :: wy)
 | [],ks,i,gr,o,e,rest,_,h,_,_,_,hI,_,hh=>by
  obtain rfl:ks=[]:=by simpa using h
  rw [aV]
  rw [nM] at hh
  exact⟨RTr.nil _ _ _,e,by simpa [aW] using hh,by simpa [aW] using hI⟩
 | y :: l,u :: ks,i,gr,o,e,rest,ih,h,hw,hs,hst,hI,hA,hh=>by
  rw [List.map_cons,List.map_cons] at h
  injection h with h1 h2
  rw [wfs] at hw
  rw [nM] at hh hs
  rw [List.append_assoc] at hh
  obtain⟨r1,e1,k1,i1⟩:=ih y (List.mem_cons_self ..) u ((par,i) :: wy) gr o e (nM l ++ rest) h1 hw.1 (fun s hs'=>hs s (List.mem_append_left _ hs')) (by have:=hst 0 y rfl;simpa using this) hI hA hh
  obtain⟨r2,e2,k2,i2⟩:=xF l ks (i+1) _ o e1 rest (fun z hz=>ih z (List.mem_cons_of_mem _ hz)) h2 hw.2 (fun s hs'=>hs s (List.mem_append_right _ hs')) (fun j z hz=>by have:=hst (j+1) z (by simpa using hz);rwa [show i+(j+1)=i+1+j by omega] at this) (i1.turn _) ((fun y hy h7=>by
    rcases List.mem_cons.1 hy with rfl | hy
    ·have:=hA (par,i) (List.mem_cons_self ..) h7;simp only at this ⊢;omega
    ·have:=hA y (List.mem_cons_of_mem _ hy) h7;omega)) k1
  rw [aT,eQ,<- Nat.add_assoc]
  exact⟨r1.append r2,e2,k2,i2.turn _⟩
 | y :: l,[],_,_,_,_,_,_,h,_,_,_,_,_,_=>by simp at h
theorem xE{c f:Bool}{par:Tr}{wy:Way}:∀ (l:List Ps) (ks:List Tr) (i gr:Nat) (o e:List Nat) (rest:List Sgn),(∀ y∈l,RtP c f y)->ks.map er=l.map te->wfs l->(∀ s∈mH l,xD c f s)->(∀ j y,l[j]?=some y->bR ((par,i+j) :: wy) y.kd=true)->Iv gr e ((par,i) :: wy)->Av gr ((par,i) :: wy)->hk gr o e (mH l ++ rest) ->
  RTr c f gr (pps par wy i ks)/\∃ e',hk (gr+aW (pps par wy i ks)) o e' rest/\Iv (gr+aW (pps par wy i ks)) e' ((par,i) :: wy)
 | [],ks,i,gr,o,e,rest,_,h,_,_,_,hI,_,hh=>by
  obtain rfl:ks=[]:=by simpa using h
  rw [aV]
  rw [mH] at hh
  exact⟨RTr.nil _ _ _,e,by simpa [aW] using hh,by simpa [aW] using hI⟩
 | y :: l,u :: ks,i,gr,o,e,rest,ih,h,hw,hs,hst,hI,hA,hh=>by
  rw [List.map_cons,List.map_cons] at h
  injection h with h1 h2
  rw [wfs] at hw
  rw [mH] at hh hs
  rw [List.cons_append,aG4,List.append_assoc] at hh
  obtain⟨r1,e1,k1,i1⟩:=ih y (List.mem_cons_self ..) u ((par,i) :: wy) gr o e (mH l ++ rest) h1 hw.1 (fun s hs'=>hs s (List.mem_cons_of_mem _ (List.mem_append_left _ hs'))) (by have:=hst 0 y rfl;simpa using this) hI hA hh
  obtain⟨r2,e2,k2,i2⟩:=xE l ks (i+1) _ o e1 rest (fun z hz=>ih z (List.mem_cons_of_mem _ hz)) h2 hw.2 (fun s hs'=>hs s (List.mem_cons_of_mem _ (List.mem_append_right _ hs'))) (fun j z hz=>by have:=hst (j+1) z (by simpa using hz);rwa [show i+(j+1)=i+1+j by omega] at this) (i1.turn _) ((fun y hy h7=>by
    rcases List.mem_cons.1 hy with rfl | hy
    ·have:=hA (par,i) (List.mem_cons_self ..) h7;simp only at this ⊢;omega
    ·have:=hA y (List.mem_cons_of_mem _ hy) h7;omega)) k1
  rw [aT,eQ,<- Nat.add_assoc]
  exact⟨r1.append r2,e2,k2,i2.turn _⟩
 | y :: l,[],_,_,_,_,_,_,h,_,_,_,_,_,_=>by simp at h
theorem aG3{x:Ps}(h:aJ4 x=true)(hw:wf x):cB x.kd=true/\x.kd≠6:=by
 cases x with
 | lf k n rs=>
  rw [wf] at hw
  rcases hw with rfl | rfl | rfl | rfl <;> simp [Ps.kd,cB]
 | grp=>simp [Ps.kd,cB]
 | rep=>simp [Ps.kd,cB]
 | row l=>simp only [Ps.kd];split <;> simp [cB]
 | alt=>simp [aJ4] at h
theorem yL{x:Ps}(hw:wf x):cB x.kd=true:=by
 cases x with
 | alt=>simp [Ps.kd,cB]
 | _=>exact(aG3 rfl hw).1
theorem aJ3{x:Ps}(h:oH x=true):aZ x.kd=true:=by
 cases x with
 | lf k n rs=>
  simp [oH] at h
  rcases h with rfl | rfl <;> simp [Ps.kd,aZ]
 | grp=>simp [Ps.kd,aZ]
 | rep=>simp [Ps.kd,aZ]
 | row=>simp [oH] at h
 | alt=>simp [oH] at h
theorem aL1(c f:Bool)(x:Ps):RtP c f x:=by
 refine Ps.ind (P:=RtP c f) (fun x ih=>?_) x
 intro t wy gr o e rest h hw hs hst hI hA hh
 have hft:t.f.k=x.kd:=by rw [<- aO1,h,aN6]
 rw [bQ]
 cases x with
 | lf k n rs=>
  rw [te] at h
  obtain⟨f1,f2,f3,f4,f5,f6⟩:=hU h
  rw [show t.ks=[] by simpa using f6,aV]
  have hs:=hs (.lf k n rs) (by rw [pfl];simp)
  rw [pfl,List.singleton_append,hk] at hh
  rw [wf] at hw
  have g0:aW [(wy,t)]=0:=by
   simp only [aW,f1]
   rcases hw with rfl | rfl | rfl | rfl <;> simp
  rw [g0,Nat.add_zero]
  refine⟨RTr.one ⟨by rw [hft];exact hst,?_,?_,fun z=>?_,fun z=>?_⟩,e,hh.2,hI⟩
  ·simp only
   unfold aP
   rw [f1,f2,f3,f4,f5]
   rcases hw with rfl | rfl | rfl | rfl
   ·rw [if_pos rfl];exact⟨(hs.1 rfl).1,(hs.1 rfl).2,rfl,rfl⟩
   ·rw [if_neg (by decide),if_neg (by decide),if_neg (by decide),if_neg (by decide),hs.2.1 (by decide),hs.2.2.2 (by decide)];simp
   ·rw [if_neg (by decide),if_neg (by decide),if_neg (by decide),if_neg (by decide),hs.2.1 (by decide),hs.2.2.2 (by decide)];simp
   ·rw [if_neg (by decide),if_neg (by decide),if_pos rfl,hs.2.1 (by decide)];exact⟨hs.2.2.1 rfl,rfl,rfl,rfl⟩
  ·simp only
   rw [show t.ks=[] by simpa using f6,f1]
   rcases hw with rfl | rfl | rfl | rfl <;> simp [dV]
  ·simp only at z
   rcases hw with rfl | rfl | rfl | rfl <;> (rw [f1] at z;cases z)
  ·simp only at z ⊢
   obtain⟨i,hi,e1⟩:=hh.1 (f1.symm.trans z)
   have:=hI i hi
   rw [f2,e1]
   exact⟨this.2,by omega⟩
 | grp n k=>
  rw [te] at h
  obtain⟨f1,f2,f3,f4,f5,f6⟩:=hU h
  obtain⟨u,e1,hu⟩:=uI f6
  rw [wf] at hw
  rw [pfl] at hh hs
  rw [List.cons_append,hk] at hh
  obtain⟨rfl,hg,hh⟩:=hh
  rw [List.append_assoc] at hh
  have hA':Av (gr+1) ((t,0) :: wy):=(hA.mono (by omega)).down 0 (fun _=>by rw [f2];omega)
  have hI':Iv (gr+1) e ((t,0) :: wy):=fun m hm=>⟨by have:=(hI m hm).1;omega,by
   rw [hX,(hI m hm).2,f2]
   have:=(hI m hm).1
   have e2:(((gr+1:Nat):Int)==(m:Int))=false:=by rw [beq_eq_false_iff_ne];omega
   rw [e2];simp⟩
  have hst':bR ((t,0) :: wy) k.kd=true:=by
   simp only [bR,cE]
   rw [f1,if_neg (by decide),if_neg (by decide),if_neg (by decide)]
   exact yL hw
  obtain⟨r1,e',k1,i1⟩:=ih k (by simp [Ps.kids]) u ((t,0) :: wy) (gr+1) ((gr+1) :: o) e ([.cl] ++ rest) hu hw (fun s hs'=>hs s (List.mem_cons_of_mem _ (List.mem_append_left _ hs'))) hst' hI' hA' hh
  rw [List.singleton_append,hk] at k1
  obtain⟨n2,o2,eo,k2⟩:=k1
  injection eo with eo1 eo2
  subst eo1 eo2
  rw [e1,aT,aV,List.append_nil]
  have g1:aW ((wy,t) :: pp ((t,0) :: wy) u)=1+aW (pp ((t,0) :: wy) u):=by simp only [aW,f1,if_pos]
  rw [g1,show gr+(1+aW (pp ((t,0) :: wy) u))=gr+1+aW (pp ((t,0) :: wy) u) by omega]
  refine⟨?_,(gr+1) :: e',k2,?_⟩
  ·refine RTr.append (A:=[(wy,t)]) (RTr.one ⟨by rw [hft];exact hst,?_,?_,fun _=>by rw [f2];omega,fun z=>by simp only at z;rw [f1] at z;cases z⟩) ?_
   ·simp only
    unfold aP
    rw [f1,f2,f3,f4,f5,if_neg (by decide),if_pos rfl]
    exact⟨by omega,rfl,rfl,rfl⟩
   ·simp only
    rw [e1,f1]
    rfl
   ·have g2:aW [(wy,t)]=1:=by simp [aW,f1]
    rw [g2]
    exact r1
  ·intro m hm
   rcases List.mem_cons.1 hm with rfl | hm
   ·exact⟨by omega,hA.end_ (by omega)⟩
   ·exact i1.up m hm
 | rep a b k=>
  rw [te] at h
  obtain⟨f1,f2,f3,f4,f5,f6⟩:=hU h
  obtain⟨u,e1,hu⟩:=uI f6
  rw [wf] at hw
  rw [pfl] at hh hs
  rw [List.append_assoc] at hh
  have hb:dL a b=true:=hs (.rp a b) (by simp)
  have hst':bR ((t,0) :: wy) k.kd=true:=by
   simp only [bR,cE]
   rw [f1,if_neg (by decide),if_pos rfl]
   exact aJ3 hw.1
  obtain⟨r1,e',k1,i1⟩:=ih k (by simp [Ps.kids]) u ((t,0) :: wy) gr o e ([.rp a b] ++ rest) hu hw.2 (fun s hs'=>hs s (List.mem_append_left _ hs')) hst' (hI.down 0 (by rw [f1];decide)) (hA.down 0 (fun z=>by rw [f1] at z;cases z)) hh
  rw [List.singleton_append,aL8] at k1
  rw [e1,aT,aV,List.append_nil]
  have g1:aW ((wy,t) :: pp ((t,0) :: wy) u)=aW (pp ((t,0) :: wy) u):=by simp [aW,f1]
  rw [g1]
  refine⟨?_,e',k1,i1.up⟩
  refine RTr.append (A:=[(wy,t)]) (RTr.one ⟨by rw [hft];exact hst,?_,?_,fun z=>(by simp only at z;rw [f1] at z;cases z),fun z=>(by simp only at z;rw [f1] at z;cases z)⟩) ?_
  ·simp only
   unfold aP
   rw [f1,f2,f3,f4,f5,if_neg (by decide),if_neg (by decide),if_neg (by decide),if_pos rfl]
   exact⟨hb,rfl,rfl⟩
  ·simp only
   rw [e1,f1]
   rfl
  ·have g2:aW [(wy,t)]=0:=by simp [aW,f1]
   rw [g2]
   exact r1
 | row l=>
  rw [wf] at hw
  obtain⟨hw1,hw2,hw3⟩:=hw
  rw [pfl] at hh hs
  rw [te] at h
  by_cases hl:l=[]
  ·subst hl
   rw [if_pos (show ([]:List Ps).isEmpty=true from rfl)] at h
   obtain⟨f1,f2,f3,f4,f5,f6⟩:=hU h
   rw [show t.ks=[] by simpa using f6,aV]
   rw [nM] at hh
   have g0:aW [(wy,t)]=0:=by simp [aW,f1]
   rw [g0,Nat.add_zero]
   refine⟨RTr.one ⟨by rw [hft];exact hst,?_,?_,fun z=>(by simp only at z;rw [f1] at z;cases z),fun z=>(by simp only at z;rw [f1] at z;cases z)⟩,e,hh,hI⟩
   ·simp only
    unfold aP
    rw [f1,f2,f3,f4,f5,if_neg (by decide),if_neg (by decide),if_neg (by decide),if_neg (by decide)]
    exact⟨rfl,rfl,rfl,rfl⟩
   ·simp only
    rw [show t.ks=[] by simpa using f6,f1]
    rfl
  ·rw [if_neg (by simpa using hl)] at h
   obtain⟨f1,f2,f3,f4,f5,f6⟩:=hU h
   rw [lM] at f6
   have hlen:t.ks.length=l.length:=by have:=congrArg List.length f6;simpa using this
   have h2:2<=l.length:=by
    have:l.length≠0:=fun z=>hl (List.eq_nil_of_length_eq_zero z)
    omega
   obtain⟨r1,e',k1,i1⟩:=xF (par:=t) (wy:=wy) l t.ks 0 gr o e rest ih f6 hw3 hs (fun j y hy=>by
    have hy':=hw2 j y hy
    rw [Nat.zero_add]
    simp only [bR,cE]
    rw [f1,if_pos rfl,hlen]
    have hwy:=(tV l).1 hw3 y (List.mem_of_getElem? hy)
    have hj:=(List.getElem?_eq_some_iff.1 hy).1
    cases y with
    | lf k n rs=>
     rw [wf] at hwy
     rcases hwy with rfl | rfl | rfl | rfl
     ·simp [Ps.kd,aZ]
     ·have:=hy'.2.1 rfl
      subst this
      simp [Ps.kd]
     ·have:=hy'.2.2 rfl
      have e3:((j:Int)==(l.length:Int) - 1)=true:=by rw [beq_iff_eq];omega
      rw [e3]
      simp [Ps.kd]
     ·simp [Ps.kd,aZ]
    | grp=>simp [Ps.kd,aZ]
    | rep=>simp [Ps.kd,aZ]
    | row=>simp [qZ] at hy'
    | alt=>simp [qZ] at hy') (hI.down 0 (by rw [f1];decide)) (hA.down 0 (fun z=>by rw [f1] at z;cases z)) hh
   have g1:aW ((wy,t) :: pps t wy 0 t.ks)=aW (pps t wy 0 t.ks):=by simp [aW,f1]
   rw [g1]
   refine⟨?_,e',k1,i1.up⟩
   refine RTr.append (A:=[(wy,t)]) (RTr.one ⟨by rw [hft];exact hst,?_,?_,fun z=>(by simp only at z;rw [f1] at z;cases z),fun z=>(by simp only at z;rw [f1] at z;cases z)⟩) ?_
   ·simp only
    unfold aP
    rw [f1,f2,f3,f4,f5,if_neg (by decide),if_neg (by decide),if_neg (by decide),if_neg (by decide)]
    exact⟨rfl,rfl,rfl,rfl⟩
   ·simp only
    rw [f1,hlen]
    simp [dV,h2]
   ·have g2:aW [(wy,t)]=0:=by simp [aW,f1]
    rw [g2]
    exact r1
 | alt l=>
  rw [wf] at hw
  obtain⟨hw1,hw2,hw3⟩:=hw
  rw [pfl] at hh hs
  rw [te] at h
  obtain⟨f1,f2,f3,f4,f5,f6⟩:=hU h
  rw [lM] at f6
  have hlen:t.ks.length=l.length:=by have:=congrArg List.length f6;simpa using this
  have hh2:hk gr o e (mH l ++ rest):=by
   cases l with
   | nil=>simp at hw1
   | cons y l=>rw [aI6] at hh;rw [mH,List.cons_append,aG4];exact hh
  have hs2:∀ s∈mH l,xD c f s:=by
   cases l with
   | nil=>simp at hw1
   | cons y l=>
    rw [aI6] at hs
    rw [mH]
    intro s hs'
    rcases List.mem_cons.1 hs' with rfl | hs'
    ·trivial
    ·exact hs s hs'
  obtain⟨r1,e',k1,i1⟩:=xE (par:=t) (wy:=wy) l t.ks 0 gr o e rest ih f6 hw3 hs2 (fun j y hy=>by
   have hy':=aG3 (hw2 y (List.mem_of_getElem? hy)) ((tV l).1 hw3 y (List.mem_of_getElem? hy))
   simp only [bR,cE]
   rw [f1,if_neg (by decide),if_neg (by decide),if_pos rfl,hy'.1]
   simpa using hy'.2) (hI.down 0 (by rw [f1];decide)) (hA.down 0 (fun z=>by rw [f1] at z;cases z)) hh2
  have g1:aW ((wy,t) :: pps t wy 0 t.ks)=aW (pps t wy 0 t.ks):=by simp [aW,f1]
  rw [g1]
  refine⟨?_,e',k1,i1.up⟩
  refine RTr.append (A:=[(wy,t)]) (RTr.one ⟨by rw [hft];exact hst,?_,?_,fun z=>(by simp only at z;rw [f1] at z;cases z),fun z=>(by simp only at z;rw [f1] at z;cases z)⟩) ?_
  ·simp only
   unfold aP
   rw [f1,f2,f3,f4,f5,if_neg (by decide),if_neg (by decide),if_neg (by decide),if_neg (by decide)]
   exact⟨rfl,rfl,rfl,rfl⟩
  ·simp only
   rw [f1,hlen]
   simp [dV,hw1]
  ·have g2:aW [(wy,t)]=0:=by simp [aW,f1]
   rw [g2]
   exact r1
theorem xR{c f:Bool}{x:Ps}{t:Tr}(h:er t=te x)(hw:wf x)(hs:∀ s∈pfl x,xD c f s)(hh:hk 0 [] [] (pfl x))(h1:x.dp<=40)(h2:x.sz<=2000):aS c f 0 0 (pp [] t)=0:=by
 have hr:=(aL1 c f x t [] 0 [] [] [] h hw hs (yL hw) (fun n hn=>by cases hn) (fun y hy=>by cases hy) (by simpa using hh)).1
 have hd:=aE6 x t [] h
 have hl:(pp [] t).length<=2000:=by rw [dM,<- zA,h,aK9];exact h2
 refine oP _ 0 0 fun pre y post e=>?_
 obtain⟨l1,l2,l3,l4,l5⟩:=hr pre y post e
 rw [Nat.zero_add] at l2 l5
 rw [Nat.zero_add,Nat.zero_add]
 have hpl:pre.length < 2000:=by rw [e] at hl;simp at hl;omega
 have hdp:y.1.length+1<=40:=by
  have:eL (pp [] t)<=40:=by rw [hd];simpa using h1
  rw [e,jX] at this
  simp only [eL] at this
  omega
 unfold bI
 rw [if_neg (by omega),if_neg (by omega),if_neg (fun z=>z ⟨l1,l2,l3⟩),if_neg (fun z=>by have:=l4 z.1;omega),if_neg (fun z=>z.2 (l5 z.1))]
end Go.Proofs.YticfnglebbakkaaGreatDoor
