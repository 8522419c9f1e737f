/-
  Parts of the proof.
-/
import Derived.Test.YticfnglebbakkaaGreatDoorApartProofB9
import Derived.Deep.WholeRow
import Derived.Test.YticfnglebbakkaaGreatDoorApartProofB0
import Derived.Test.YticfnglebbakkaaGreatDoorApartProofB1
import Derived.Laws.AppendOwnNone
set_option maxRecDepth 100000
set_option maxHeartbeats 8000000
namespace Go.Proofs.YticfnglebbakkaaGreatDoor
open Go Go.RowKit
section
open Go Go.RowKit Go.Shelf
attribute [local go_sem] Oper.semAt_some
def noL:List Value:=[.int .i64 0,.int .i64 0,.int .i64 0,.int .i64 0,.slice none 0 0,.slice none 0 0,.int .i64 0]
def jF(c f:Bool):List Value:=.bool c :: .bool f :: .int .i64 0 :: .int .i64 0 :: (List.replicate 41 noL).flatten
theorem aJ0(j:Nat)(hj:j < 7):∀ (n d:Nat),d < n->((List.replicate n noL).flatten)[d * 7+j]?=noL[j]?
 | 0,d,h=>absurd h (by omega)
 | n+1,0,_=>by rw [List.replicate_succ,List.flatten_cons,Nat.zero_mul,Nat.zero_add,List.getElem?_append_left (by simpa [noL] using hj)]
 | n+1,d+1,h=>by
  rw [List.replicate_succ,List.flatten_cons,List.getElem?_append_right (by simp [noL];omega),show (d+1) * 7+j - noL.length=d * 7+j by simp [noL];omega]
  exact aJ0 j hj n d (by omega)
theorem fM(c f:Bool){d j:Nat}(hd:d < 41)(hj:j < 7):(jF c f)[4+d * 7+j]?=noL[j]?:=by
 rw [show 4+d * 7+j=d * 7+j+1+1+1+1 by omega]
 exact aJ0 j hj 41 d hd
theorem vP:Tryz.zeroCells63.toList=jF false false:=by kernel_rfl
theorem uG(w1:World)(c f:Bool):Sem.run Tryz.prog (storeCells ⟨w1.heap.size,0,none⟩ ((Tryz.zeroCells63.toList.set 0 (.bool c)).set 1 (.bool f))) (w1.alloc (.cells Tryz.zeroCells63 63))=.ok () (w1.alloc (.cells (jF c f).toArray 63)):=by
 have e:(Tryz.zeroCells63.toList.set 0 (.bool c)).set 1 (.bool f)=(jF c f).toArray.toList:=by rw [vP];rfl
 rw [e]
 exact run_storeCells_new w1 _ _ _ (by kernel_rfl) (by kernel_rfl) (by cases c <;> cases f <;> kernel_rfl)
theorem zP(w1:World)(c f:Bool):CB (w1.alloc (.cells (jF c f).toArray 63)) w1.heap.size c f 0 0 (fun _=>⟨oE,0⟩):=by
 have N:=aE w1 (.cells (jF c f).toArray 63)
 have at':∀ (i:Nat) (v:Value),(jF c f)[i]?=some v->(w1.alloc (.cells (jF c f).toArray 63)).cell? ⟨w1.heap.size,i,none⟩=some v:=fun i v hv=>aC N (i:=i) (by simpa using hv)
 refine⟨⟨_,N⟩,at' 0 _ rfl,at' 1 _ rfl,at' 2 _ rfl,at' 3 _ rfl,fun d hd=>⟨⟨?_,?_,?_,?_,?_,?_⟩,?_⟩⟩
 ·exact at' _ _ ((fM c f hd (j:=0) (by omega)).trans rfl)
 ·exact at' _ _ ((fM c f hd (j:=1) (by omega)).trans rfl)
 ·exact at' _ _ ((fM c f hd (j:=2) (by omega)).trans rfl)
 ·exact at' _ _ ((fM c f hd (j:=3) (by omega)).trans rfl)
 ·exact at' _ _ ((fM c f hd (j:=4) (by omega)).trans rfl)
 ·exact at' _ _ ((fM c f hd (j:=5) (by omega)).trans rfl)
 ·exact at' _ _ ((fM c f hd (j:=6) (by omega)).trans rfl)
noncomputable def aM (c f:Bool):Nat->Nat->List El->Int
 | _,_,[]=>0
 | ah,gr,x :: r=>if dD c f x.1 x.2 ah gr≠0 then dD c f x.1 x.2 ah gr else aM c f (ah+1) (gr+(if x.2.f.k=7 then 1 else 0)) r
theorem vC{P:Tr->Prop}(t:Tr):∀ p,cH P t->(∀ x∈p,P x.1)->∀ z∈pp p t,∀ x∈z.1,P x.1:=by
 refine Tr.ind (P:=fun t=>∀ p,cH P t->(∀ x∈p,P x.1)->∀ z∈pp p t,∀ x∈z.1,P x.1) (fun t ih p he hp z hz=>?_) t
 rw [cN] at hz
 rcases List.mem_cons.1 hz with q | q
 ·subst q;exact hp
 ·have:∀ (ks:List Tr) (i:Nat),(∀ u∈ks,u∈t.ks)->z∈pps t p i ks->∀ x∈z.1,P x.1:=by
   intro ks
   induction ks with
   | nil=>intro i _ h;rw [aQ] at h;cases h
   | cons u us ih2=>
    intro i hs h
    rw [aT] at h
    rcases List.mem_append.1 h with g | g
    ·exact ih u (hs u (List.mem_cons_self ..)) _ (dZ he (hs u (List.mem_cons_self ..))) (fun x hx=>by
      rcases List.mem_cons.1 hx with e | e
      ·rw [e];exact((bE t).1 he).1
      ·exact hp x e) z g
    ·exact ih2 (i+1) (fun v hv=>hs v (List.mem_cons_of_mem _ hv)) g
  exact this t.ks 0 (fun _ h=>h) q
structure Inv(A:Nat->bV)(pre:List El):Prop where
 bd:∀ d,0<=(A d).s/\(A d).s<=(pre.length:Int)
 nx:∀ t x,pre ++ [x] <+: pp [] t->BA A x.1
theorem Inv.nil:Inv (fun _=>⟨oE,0⟩) []:=⟨fun d=>by simp,fun t x h=>by
 rw [List.nil_append] at h
 rw [kR h]
 exact rfl⟩
theorem Inv.step{A:Nat->bV}{pre:List El}{x:El}(h:Inv A pre)(hb:BA A x.1):Inv (dP A x.1.length x.2.f) (pre ++ [x]):=
 ⟨fun d=>by
  have h1:=h.bd d
  have h2:=h.bd x.1.length
  simp only [dP,jQ,List.length_append,List.length_cons,List.length_nil]
  split
  ·simp;omega
  ·split
   ·simp;omega
   ·omega,fun t y hy=>BA.next (mN hy) (SA.enter hb).1 (SA.enter hb).2⟩
structure RI(w:World)(t:Tr)(c f:Bool)(b be:Nat)(pre:List El)(V:World):Prop where
 chk:∃ A,CB V b c f (pre.length:Int) (aL pre:Int) A/\Inv A pre
 pfx:pre <+: pp [] t
 len:pre.length<=2000
 res:V.heap[be]?=some (.cells #[.int .i64 0] 29 (0,0))
 bel:Below w.heap.size w V
 ans:∀ rest,pp [] t=pre ++ rest->aM c f 0 0 (pp [] t)=aM c f pre.length (aL pre) rest
def Ax2(r s B:Nat)(y:Act)(x:El)(a':Act)(W:World):Prop:=∃ bx,BoxN W bx x.2.f/\B<=bx/\a'={ y with tmps:=(y.tmps.setIfInBounds r (.int .i64 ((x.1.length:Int)+1))).setIfInBounds s (.pointer (some ⟨bx,0,none⟩)) }
theorem aC4(r s B:Nat)(y:Act)(x:El)(a':Act):OwnFrom B (fun (_:Unit) W=>Ax2 r s B y x a' W):=fun _ _ _ _ h hg hr=>by
 obtain⟨bx,h1,h2,h3⟩:=h
 exact⟨bx,aZ hg hr h1,h2,h3⟩
theorem wI(n:Nat)(hn:3<=n){w:World}{t:Tr}(c f:Bool)(hta:TB w t) :
  CallsIn Fence.wide n Tryz.prog 11 #[.agg #[.int .i64 t.f.k,.int .i64 t.f.n,.int .i64 t.f.mn,.int .i64 t.f.mx,.slice t.f.rq t.f.rs.length t.f.rc,.slice t.f.kq t.f.kl t.f.kc],.agg #[.bool c,.bool f]] w fun e w'=>e=.returned (.int .i64 (aM c f 0 0 (pp [] t)))/\Below w.heap.size w w':=by
 have hfn:∀ f,Fence.wide.fn f:=fun _=>trivial
 refine callsIn_of_wp_marks Tryz.func11 rfl trivial ?_ rfl
 simp only [Tryz.ntmps11,List.size_toArray,List.length_cons,List.length_nil,Nat.reduceAdd,Nat.reduceSub,Array.replicate_succ,Array.replicate_zero,List.push_toArray,List.append_toArray,List.nil_append,List.cons_append]
 refine wpIn_wide.2 ?_
 have HTA:=aB hta
 go_upto_region 1 with fail
 have N0:Hid (BoxN (((w.alloc (.cells #[.int .i64 t.f.k,.int .i64 t.f.n,.int .i64 t.f.mn,.int .i64 t.f.mx,.slice t.f.rq t.f.rs.length t.f.rc,.slice t.f.kq t.f.kl t.f.kc] 25)).alloc (.cells #[.bool c,.bool f] 27)).alloc (.cells #[.int .i64 0] 29)) w.heap.size t.f):=(Below.heap_alloc _ _ _ (by simp;omega)).trans ((Below.heap_alloc _ _ _ (by simp)).trans (aE w _))
 have M0:Hid ((((w.alloc (.cells #[.int .i64 t.f.k,.int .i64 t.f.n,.int .i64 t.f.mn,.int .i64 t.f.mx,.slice t.f.rq t.f.rs.length t.f.rc,.slice t.f.kq t.f.kl t.f.kc] 25)).alloc (.cells #[.bool c,.bool f] 27)).alloc (.cells #[.int .i64 0] 29)).heap[w.heap.size+1]?=some (.cells #[.bool c,.bool f] 27 (0,0))):=(Below.heap_alloc _ _ _ (by simp)).trans (by have:=aE (w.alloc (.cells #[.int .i64 t.f.k,.int .i64 t.f.n,.int .i64 t.f.mn,.int .i64 t.f.mx,.slice t.f.rq t.f.rs.length t.f.rc,.slice t.f.kq t.f.kl t.f.kc] 25)) (.cells #[.bool c,.bool f] 27);rwa [World.size_alloc] at this)
 have E0:Hid ((((w.alloc (.cells #[.int .i64 t.f.k,.int .i64 t.f.n,.int .i64 t.f.mn,.int .i64 t.f.mx,.slice t.f.rq t.f.rs.length t.f.rc,.slice t.f.kq t.f.kl t.f.kc] 25)).alloc (.cells #[.bool c,.bool f] 27)).alloc (.cells #[.int .i64 0] 29)).heap[w.heap.size+1+1]?=some (.cells #[.int .i64 0] 29 (0,0))):=(by have:=aE ((w.alloc (.cells #[.int .i64 t.f.k,.int .i64 t.f.n,.int .i64 t.f.mn,.int .i64 t.f.mx,.slice t.f.rq t.f.rs.length t.f.rc,.slice t.f.kq t.f.kl t.f.kc] 25)).alloc (.cells #[.bool c,.bool f] 27)) (.cells #[.int .i64 0] 29);rwa [World.size_alloc,World.size_alloc] at this)
 have B0:Hid (Below w.heap.size w (((w.alloc (.cells #[.int .i64 t.f.k,.int .i64 t.f.n,.int .i64 t.f.mn,.int .i64 t.f.mx,.slice t.f.rq t.f.rs.length t.f.rc,.slice t.f.kq t.f.kl t.f.kc] 25)).alloc (.cells #[.bool c,.bool f] 27)).alloc (.cells #[.int .i64 0] 29))):=((bz9).alloc (by simp) _).alloc (by simp;omega) _
 generalize (((w.alloc (.cells #[.int .i64 t.f.k,.int .i64 t.f.n,.int .i64 t.f.mn,.int .i64 t.f.mx,.slice t.f.rq t.f.rs.length t.f.rc,.slice t.f.kq t.f.kl t.f.kc] 25)).alloc (.cells #[.bool c,.bool f] 27)).alloc (.cells #[.int .i64 0] 29))=w1 at N0 M0 E0 B0 ⊢
 generalize hbm:w.heap.size+1=bm at M0 E0 ⊢
 generalize hbe:bm+1=be at E0 ⊢
 have m0:w1.cell? ⟨bm,0,none⟩=some (.bool c):=aC M0.out (i:=0) rfl
 have m1:w1.cell? ⟨bm,1,none⟩=some (.bool f):=aC M0.out (i:=1) rfl
 have hst:=uG w1 c f
 go_upto_region 2 with fail
 have C2:Hid (CB (w1.alloc (.cells (jF c f).toArray 63)) w1.heap.size c f 0 0 (fun _=>⟨oE,0⟩)):=zP w1 c f
 have K2:Below w1.heap.size w1 (w1.alloc (.cells (jF c f).toArray 63)):=bz9
 have N2:Hid (BoxN (w1.alloc (.cells (jF c f).toArray 63)) w.heap.size t.f):=(K2.block _ (aA N0.out)).trans N0.out
 have E2:Hid ((w1.alloc (.cells (jF c f).toArray 63)).heap[be]?=some (.cells #[.int .i64 0] 29 (0,0))):=(K2.block _ (aA E0.out)).trans E0.out
 have B2:Hid (Below w.heap.size w (w1.alloc (.cells (jF c f).toArray 63))):=aF B0.out K2 lz9
 have hbb:w.heap.size<=w1.heap.size:=B0.out.size
 have hbe2:w.heap.size<=be:=by omega
 have hbl:=aA E0.out
 generalize (w1.alloc (.cells (jF c f).toArray 63))=w2 at C2 K2 N2 E2 B2 ⊢
 clear hst m0 m1 N0 M0 E0 K2
 generalize w1.heap.size=b at C2 hbb hbl ⊢
 obtain⟨c0,c1,c2,c3,c4,c5⟩:=N2.out.six
 simp only [Nat.zero_add] at c1 c2 c3 c4 c5
 go_wp2_with (go_at_call 26;(with_reducible refine(oD _ _).mono ?_);rintro e w3 ⟨rfl,rfl⟩)
 have K3:Below w2.heap.size w2 (w2.alloc (.cells #[.int .i64 t.f.k,.int .i64 t.f.n,.int .i64 t.f.mn,.int .i64 t.f.mx,.slice t.f.rq t.f.rs.length t.f.rc,.slice t.f.kq t.f.kl t.f.kc] 25)):=bz9
 have N3:BoxN (w2.alloc (.cells #[.int .i64 t.f.k,.int .i64 t.f.n,.int .i64 t.f.mn,.int .i64 t.f.mx,.slice t.f.rq t.f.rs.length t.f.rc,.slice t.f.kq t.f.kl t.f.kc] 25)) w2.heap.size t.f:=aE w2 _
 have C3:=C2.out.kept K3
 have E3:=(K3.block _ (aA E2.out)).trans E2.out
 have B3:=aF B2.out K3 lz9
 generalize (w2.alloc (.cells #[.int .i64 t.f.k,.int .i64 t.f.n,.int .i64 t.f.mn,.int .i64 t.f.mx,.slice t.f.rq t.f.rs.length t.f.rc,.slice t.f.kq t.f.kl t.f.kc] 25))=w4 at K3 N3 C3 E3 B3 ⊢
 generalize w2.heap.size=bn at N3 ⊢
 clear c0 c1 c2 c3 c4 c5 C2 N2 E2 B2 K3
 have L4:=C3.lt
 have L5:=aA E3
 refine(wpIn_wide (n:=n)).1 ?_
 refine wK (by omega) 13 14 bn rfl rfl N3 HTA.out (CK.of_below B3) (RI w t c f b be) (fun k pre V=>k=.ret/\V.heap[be]?=some (.cells #[.int .i64 (aM c f 0 0 (pp [] t))] 29 (0,0))/\Below w.heap.size w V)
  ?_ ?_ (fun pre W h=>by have:=h.len;omega) ⟨⟨_,C3,Inv.nil⟩,List.nil_prefix,by simp,E3,B3,fun rest hr=>by rw [hr];rfl⟩ (Ax2 6 7 w4.heap.size) (aC4 _ _ _) ?_ ?_ ?_ ?_
 ·rintro pre V V' row h hg hr
  obtain⟨A,hA,hI⟩:=h.chk
  exact⟨⟨A,hA.row hg hr,hI⟩,h.pfx,h.len,aZ hg hr h.res,eB h.bel lz9 B3.size hg hr,h.ans⟩
 ·rintro k pre V V' row ⟨h0,h1,h2⟩ hg hr
  exact⟨h0,aZ hg hr h1,eB h2 lz9 B3.size hg hr⟩
 ·intro l pre x V K _ _ hs _ hK
  have HS:=aB hs
  simp only [cS]
  gi_wp2
  exact hK _ _ (bz9) ⟨_,aE V _,HS.out,rfl⟩
 ·rintro l pre x a' V h hck hsz ht ⟨bx,hbx,hbl2,rfl⟩
  obtain⟨A,hA,hI⟩:=h.chk
  have hba:=hI.nx t x ht
  obtain⟨rest,hrest⟩:=ht
  have hin:x∈pp [] t:=by rw [<- hrest];simp
  have hway:∀ y∈x.1,NB w y.1:=vC t [] HTA.out (fun _ z=>by cases z) x hin
  have hkl:(A x.1.length).f.kl<=9223372036854775807:=by
   cases hx:x.1 with
   | nil=>
    rw [hx] at hba
    have:(A 0).f=oE:=hba
    rw [List.length_nil,this]
    simp [oE]
   | cons y ys=>
    rw [hx] at hba hway
    have e:=hba.1
    rw [List.length_cons,e]
    have hy:=hway y (List.mem_cons_self ..)
    obtain⟨q,cap,-,hm,-⟩:=hy.k.slice
    show y.1.f.kl<=_
    rw [hy.kl]
    exact hm
  have hbd:=hI.bd x.1.length
  have hdp:=uF (t:=t) (pre:=pre) (x:=x) ⟨rest,hrest⟩
  have hlen:=h.len
  have hgl:=aA2 pre
  have LK:=aB (aG2 (t:=x.2) hA hba (fun y hy=>(hway y hy).kl) hkl ⟨hbd.1,by omega⟩ ((HTA.out.at hin).node.ck hck) hlen (by omega) (by omega))
  have HE:=aB (show pp [] t=pre ++ x :: rest by rw [<- hrest];simp)
  have HA2:=aB (h.ans (x :: rest) HE.out)
  have HH:=aB h
  have HBA:=aB hba
  have HI:=aB hI
  obtain⟨k0,k1,k2,k3,k4,k5⟩:=hbx.six
  simp only [Nat.zero_add] at k1 k2 k3 k4 k5
  obtain⟨m,hm⟩:∃ m,dD c f x.1 x.2 pre.length (aL pre)=m:=⟨_,rfl⟩
  have HM:=aB hm
  have HBX:=aB hbx
  clear h hck hsz hbx hba hrest hin hway hkl hbd hm hI hgl
  simp only [cS]
  by_cases hm0:m=0
  ·have e0:(m != 0)=false:=by simpa using hm0
   gi_wp2
   refine⟨(fun z=>by cases z),(CallsIn.inRound l (callsIn_wide.2 (LK.out))).mono ?_⟩
   rintro e V5 ⟨he5,h51,h52⟩
   rw [HM.out] at he5 h51
   subst he5
   have X5:=aB (h51 hm0)
   have F5:=aB h52
   clear h51 h52
   gi_wp2
   subst hm0
   have hl2:pre.length < 2000:=by
    rcases Nat.lt_or_ge pre.length 2000 with z | z
    ·exact z
    ·have:=HM.out
     unfold dD at this
     rw [if_pos (by omega)] at this
     cases this
   refine⟨F5.out.keepsFrom (fun k hk=>by omega),F5.out.ckeep (fun k hk=>by rintro (z | z) <;> omega),⟨⟨_,?_,HI.out.step HBA.out⟩,?_,by simp;omega,(F5.out.block _ (aA HH.out.res) (by omega)).trans HH.out.res,dQ HH.out.bel F5.out lz9 (fun k e=>by omega),fun rest' hr'=>?_⟩⟩
   ·have:=X5.out
    rw [nE,Int.natCast_add,show (((if x.2.f.k=7 then 1 else 0:Nat)):Int)=(if x.2.f.k=7 then 1 else 0) by split <;> rfl]
    simpa using this
   ·exact⟨rest,by rw [HE.out];simp⟩
   ·rw [HE.out,List.append_assoc,List.append_cancel_left_eq] at hr'
    simp at hr'
    subst hr'
    rw [HA2.out]
    simp only [aM,HM.out,ne_eq,not_true,if_false,List.length_append,List.length_cons,List.length_nil,nE]
  ·have e0:(m != 0)=true:=by simpa using hm0
   have HR:=aB (show m=aM c f 0 0 (pp [] t) by rw [HA2.out];simp only [aM,HM.out,ne_eq,hm0,not_false_eq_true,if_true])
   gi_wp2
   refine⟨(fun z=>by cases z),(CallsIn.inRound l (callsIn_wide.2 (LK.out))).mono ?_⟩
   rintro e V5 ⟨he5,h51,h52⟩
   rw [HM.out] at he5
   subst he5
   have F5:=aB h52
   have E5:V5.heap[be]?=some (.cells #[.int .i64 0] 29 (0,0)):=(h52.block _ (aA HH.out.res) (by omega)).trans HH.out.res
   have fz:=bM E5 0
   have cz:=aC E5 (i:=0) rfl
   have E6:=aB (bB E5 0 (.int .i64 m))
   have F6:=aB ((Fr.refl (fun z=>z=be) V5).setCell (p:=⟨be,0,none⟩) rfl (.int .i64 m))
   clear h51 h52 E5
   gi_wp2
   refine⟨(F5.out.keepsFrom (fun k hk=>by omega)).trans (F6.out.keepsFrom (fun k hk=>by omega)),rfl,by rw [<- HR.out];exact E6.out,dQ (dQ HH.out.bel F5.out lz9 (fun k e=>by omega)) F6.out lz9 (fun k e=>by omega)⟩
 ·rintro D V hD h hck hK
  have e1:aM c f 0 0 (pp [] t)=0:=by rw [h.ans [] (by simp)];rfl
  have HH:=aB h
  have HK:=aB hK
  have HD:=aB hD
  have fz:=bM h.res 0
  have cz:=aC h.res (i:=0) rfl
  have E6:=aB (bB h.res 0 (.int .i64 0))
  have F6:=aB ((Fr.refl (fun z=>z=be) V).setCell (p:=⟨be,0,none⟩) rfl (.int .i64 0))
  clear h hck hK hD
  simp only [cL]
  go_wp2
  have hDb:be≠D:=by have:=HD.out;omega
  have cw:((V.setCell ⟨be,0,none⟩ (.int .i64 0)).putObj D (.deferred none)).cell? ⟨be,0,none⟩=some (.int .i64 0):=aC ((World.putObj_heap_other hDb).trans E6.out) (i:=0) rfl
  refine⟨by simp,.inl ⟨_,_,rfl,run_takeDeferred ((F6.out.block _ (aA HK.out) (by have:=HD.out;omega)).trans HK.out),?_⟩⟩
  exact⟨.int .i64 (aM c f 0 0 (pp [] t)),by simp [results,Tryz.results11,go_sem,cw,e1],rfl,fO _ (dQ HH.out.bel F6.out lz9 (fun k e=>by omega)) (Nat.le_trans B3.size HD.out)⟩
 ·rintro D k pre V hD hpre ⟨rfl,h1,h2⟩ hK
  refine(wpIn_wide (n:=n)).2 ?_
  have H1:=aB h1
  have H2:=aB h2
  have HK:=aB hK
  have hDb:be≠D:=by omega
  have cw:(V.putObj D (.deferred none)).cell? ⟨be,0,none⟩=some (.int .i64 (aM c f 0 0 (pp [] t))):=aC ((World.putObj_heap_other hDb).trans H1.out) (i:=0) rfl
  clear h1 h2 hK
  simp only [cL]
  go_wp2
  refine⟨by simp,.inl ⟨_,_,rfl,run_takeDeferred HK.out,?_⟩⟩
  exact⟨.int .i64 (aM c f 0 0 (pp [] t)),by simp [results,Tryz.results11,go_sem,cw],rfl,fO _ H2.out (Nat.le_trans B3.size hD)⟩
theorem pL{w:World}{t:Tr}(c f:Bool)(hta:TB w t):Calls Tryz.prog 11 #[.agg #[.int .i64 t.f.k,.int .i64 t.f.n,.int .i64 t.f.mn,.int .i64 t.f.mx,.slice t.f.rq t.f.rs.length t.f.rc,.slice t.f.kq t.f.kl t.f.kc],.agg #[.bool c,.bool f]] w fun e w'=>e=.returned (.int .i64 (aM c f 0 0 (pp [] t)))/\Below w.heap.size w w':=callsIn_wide.1 (wI 3 (by decide) c f hta)
end
theorem dW{c f:Bool}:∀ (L:List El) (ah gr:Nat),aM c f ah gr L=0->∀ pre x post,L=pre ++ x :: post->dD c f x.1 x.2 (ah+pre.length) (gr+aL pre)=0
 | [],_,_,_,pre,x,post,h=>by cases pre <;> cases h
 | y :: L,ah,gr,hr,pre,x,post,h=>by
  unfold aM at hr
  by_cases hy:dD c f y.1 y.2 ah gr=0
  ·rw [if_neg (by simpa using hy)] at hr
   cases pre with
   | nil=>
    simp at h
    obtain⟨rfl,rfl⟩:=h
    simpa [aL] using hy
   | cons z pre=>
    simp at h
    obtain⟨rfl,rfl⟩:=h
    have:=dW (pre ++ x :: post) (ah+1) (gr+(if y.2.f.k=7 then 1 else 0)) hr pre x post rfl
    simp only [List.length_cons,aL]
    rw [show ah+(pre.length+1)=ah+1+pre.length by omega,show gr+((if y.2.f.k=7 then 1 else 0)+aL pre)=gr+(if y.2.f.k=7 then 1 else 0)+aL pre by omega]
    exact this
  ·rw [if_pos hy] at hr
   exact absurd hr hy
theorem nM{c f:Bool}:∀ (L:List El) (ah gr:Nat),(∀ pre x post,L=pre ++ x :: post->dD c f x.1 x.2 (ah+pre.length) (gr+aL pre)=0)->aM c f ah gr L=0
 | [],_,_,_=>rfl
 | y :: L,ah,gr,h=>by
  unfold aM
  have hy:=h [] y L rfl
  simp only [List.length_nil,Nat.add_zero,aL] at hy
  rw [if_neg (by simpa using hy)]
  refine nM L (ah+1) (gr+(if y.2.f.k=7 then 1 else 0)) fun pre x post e=>?_
  have:=h (y :: pre) x post (by rw [e];rfl)
  simp only [List.length_cons,aL] at this
  rw [show ah+1+pre.length=ah+(pre.length+1) by omega,show gr+(if y.2.f.k=7 then 1 else 0)+aL pre=gr+((if y.2.f.k=7 then 1 else 0)+aL pre) by omega]
  exact this
theorem uO{par:Tr}{p:Way}{ks:List Tr}{i:Nat}{u:Tr}(h:ks[i]?=some u):∃ a b,pps par p 0 ks=a ++ pp ((par,i) :: p) u ++ b:=by
 have e:ks=ks.take i ++ u :: ks.drop (i+1):=by
  have hi:=(List.getElem?_eq_some_iff.1 h).1
  have:=List.take_append_drop i ks
  rw [List.drop_eq_getElem_cons hi,(List.getElem?_eq_some_iff.1 h).2] at this
  exact this.symm
 have hl:(ks.take i).length=i:=by rw [List.length_take];have:=(List.getElem?_eq_some_iff.1 h).1;omega
 refine⟨pps par p 0 (ks.take i),pps par p (i+1) (ks.drop (i+1)),?_⟩
 have:=iC par p (ks.take i) (u :: ks.drop (i+1)) 0
 rw [<- e,hl,aT,Nat.zero_add] at this
 rw [this,List.append_assoc]
theorem rJ{pk seen k:Int}{kl:Nat}(h:bT pk seen kl k=true):bX k=true:=by
 have ht:bG k=true->bX k=true:=by
  intro z
  simp [bG] at z
  simp [bX]
  omega
 unfold bT at h
 split at h
 ·simp at h
  rcases h with (z | z) | z
  ·exact ht z
  ·obtain⟨rfl,-⟩:=z;rfl
  ·obtain⟨rfl,-⟩:=z;rfl
 ·split at h
  ·exact ht h
  ·split at h
   ·simp at h;exact h.1
   ·exact h
theorem eY{c f:Bool}{L:List El}(hr:aM c f 0 0 L=0):L.length<=2000:=by
 rcases Nat.lt_or_ge 2000 L.length with h | h
 ·exfalso
  have e:L=L.take 2000 ++ L[2000] :: L.drop 2001:=by
   have:=List.take_append_drop 2000 L
   rw [List.drop_eq_getElem_cons h] at this
   exact this.symm
  have:=dW L 0 0 hr _ _ _ e
  rw [show 0+(L.take 2000).length=2000 by rw [List.length_take];omega] at this
  unfold dD at this
  rw [if_pos rfl] at this
  cases this
 ·exact h
def Fl.cells(f:Fl):List Value:=[.int .i64 f.k,.int .i64 f.n,.int .i64 f.mn,.int .i64 f.mx,.slice f.rq f.rs.length f.rc,.slice f.kq f.kl f.kc]
theorem aC8(b o j:Nat):(⟨b,o,none⟩:Addr).add j=⟨b,o+j,none⟩:=by unfold Addr.add;split <;> simp_all
theorem nH(W:World)(a:Option Addr)(l c:Nat):(binOp .eql 22 (.slice a l c) (.slice none 0 0)).run Tryz.prog W=.ok (.bool a.isNone) W:=by
 unfold binOp
 simp [run_equal_slice_nil W _ _ a l c bS]
theorem yF{w:World}{q:Option Addr}{k:Nat}{L:List (Int × Int)}(h:ArgR w (.slice q L.length k) L)(hl:L.length+3<=8796093022208) :
  Calls Tryz.prog 117 #[.slice q L.length k] w fun e w'=>∃ q' k',e=.returned (.slice q' L.length k')/\RR w.heap.size w' (.slice q' L.length k') L/\Below w.heap.size w w':=by
 obtain⟨t0,hi,hz0,hz1,hz2⟩:=aV dF
 cases q with
 | none=>
  have hLn:L=[]/\k=0:=by
   rcases h with⟨p,cap,e,rfl,hp⟩ | ⟨g,off,cap,e,-⟩
   ·cases e;exact⟨rfl,hp rfl⟩
   ·cases e
  obtain⟨rfl,rfl⟩:=hLn
  have hq:=fun W=>nH W none 0 0
  clear h
  go_enter Tryz.func117,Tryz.ntmps117
  go_wp2
  go_ret
  exact⟨none,0,rfl,RR.nil _ _,Below.refl _ _⟩
 | some ad=>
  have hq:=fun W=>nH W (some ad) L.length k
  have B0:Below w.heap.size w (w.alloc (.cells #[] 48)):=bz9
  have OW:Hid ((w.alloc (.cells #[] 48)).ownsRow w.heap.size 48 2 (.slice (some ⟨w.heap.size,0,none⟩) 0 0) 0 []):=⟨rfl,.inr ⟨w.heap.size,0,#[],rfl,Nat.le_refl _,aE w _,Nat.le_refl _,Nat.zero_le _,rfl,rfl⟩⟩
  have HG:=aB (h.kept B0).news
  clear h B0
  go_enter Tryz.func117,Tryz.ntmps117
  go_wp2_with (at_builtin;refine wpList_append_own_at _ rfl _ _ 22 rfl w.heap.size 48 t0 (.agg #[.int .i64 0,.int .i64 0]) 2 16 bS hi hz0 hz1 hz2 rfl (by decide) (.slice (some ⟨w.heap.size,0,none⟩) 0 0) 0 [] rfl OW.out ad L.length k (aK L) rfl (by rw [cR]) HG.out (lT L) (by unfold maxLen;omega) (by omega) (by simp) ?_;intro v' w6 hown' hgrow _ hblk;obtain⟨q6,cap6,rfl⟩:=aI hown';have O6:Hid (w6.ownsRow w.heap.size 48 2 (.slice q6 (0+L.length) cap6) (0+L.length) ([] ++ aK L)):=hown';have B6:Hid (Below w.heap.size w w6):=((((Fr.refl (fun k=>k=w.heap.size) w).alloc _).grown hgrow (fun k hk=>by(simp [Value.ownBlock] at hk;exact hk.symm))).below lz9 (fun k hk=>by omega));clear hown' hgrow hblk)
  go_ret
  have:=O6.out
  rw [Nat.zero_add,List.nil_append] at this
  exact⟨q6,cap6,by simp,this,B6.out⟩
end Go.Proofs.YticfnglebbakkaaGreatDoor
