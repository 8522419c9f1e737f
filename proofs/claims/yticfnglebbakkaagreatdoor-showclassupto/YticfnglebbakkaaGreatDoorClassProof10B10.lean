/-
  Parts of the proof.
-/
import Derived.Test.YticfnglebbakkaaGreatDoorClassProof10B9
import Derived.Deep.WholeRow
import Derived.Test.YticfnglebbakkaaGreatDoorClassProof10B0
import Derived.Test.YticfnglebbakkaaGreatDoorClassProof10B1
import Derived.Laws.AppendOwnNone
set_option maxRecDepth 100000
set_option maxHeartbeats 8000000
namespace Go.Proofs.YticfnglebbakkaaGreatDoor
open Go Go.RowKit
section
open Go Go.RowKit Go.Shelf
attribute [local go_sem] Oper.semAt_some
def noL:List Value:=[.int .i64 0,.int .i64 0,.int .i64 0,.int .i64 0,.slice none 0 0,.slice none 0 0,.int .i64 0]
def gR(c f:Bool):List Value:=.bool c :: .bool f :: .int .i64 0 :: .int .i64 0 :: (List.replicate 41 noL).flatten
theorem xR(j:Nat)(hj:j < 7):∀ (n d:Nat),d < n->((List.replicate n noL).flatten)[d * 7+j]?=noL[j]?
 | 0,d,h=>absurd h (by omega)
 | n+1,0,_=>by rw [List.replicate_succ,List.flatten_cons,Nat.zero_mul,Nat.zero_add,List.getElem?_append_left (by simpa [noL] using hj)]
 | n+1,d+1,h=>by
  rw [List.replicate_succ,List.flatten_cons,List.getElem?_append_right (by simp [noL];omega),show (d+1) * 7+j - noL.length=d * 7+j by simp [noL];omega]
  exact xR j hj n d (by omega)
theorem eF(c f:Bool){d j:Nat}(hd:d < 41)(hj:j < 7):(gR c f)[4+d * 7+j]?=noL[j]?:=by
 rw [show 4+d * 7+j=d * 7+j+1+1+1+1 by omega]
 exact xR j hj 41 d hd
theorem rH:Tryz.zeroCells63.toList=gR false false:=by kernel_rfl
theorem qG(w1:World)(c f:Bool):Sem.run Tryz.prog (storeCells ⟨w1.heap.size,0,none⟩ ((Tryz.zeroCells63.toList.set 0 (.bool c)).set 1 (.bool f))) (w1.alloc (.cells Tryz.zeroCells63 63))=.ok () (w1.alloc (.cells (gR c f).toArray 63)):=by
 have e:(Tryz.zeroCells63.toList.set 0 (.bool c)).set 1 (.bool f)=(gR c f).toArray.toList:=by rw [rH];rfl
 rw [e]
 exact run_storeCells_new w1 _ _ _ (by kernel_rfl) (by kernel_rfl) (by cases c <;> cases f <;> kernel_rfl)
theorem uZ(w1:World)(c f:Bool):CB (w1.alloc (.cells (gR c f).toArray 63)) w1.heap.size c f 0 0 (fun _=>⟨lM,0⟩):=by
 have N:=aE w1 (.cells (gR c f).toArray 63)
 have at':∀ (i:Nat) (v:Value),(gR c f)[i]?=some v->(w1.alloc (.cells (gR c f).toArray 63)).cell? ⟨w1.heap.size,i,none⟩=some v:=fun i v hv=>aA N (i:=i) (by simpa using hv)
 refine⟨⟨_,N⟩,at' 0 _ rfl,at' 1 _ rfl,at' 2 _ rfl,at' 3 _ rfl,fun d hd=>⟨⟨?_,?_,?_,?_,?_,?_⟩,?_⟩⟩
 ·exact at' _ _ ((eF c f hd (j:=0) (by omega)).trans rfl)
 ·exact at' _ _ ((eF c f hd (j:=1) (by omega)).trans rfl)
 ·exact at' _ _ ((eF c f hd (j:=2) (by omega)).trans rfl)
 ·exact at' _ _ ((eF c f hd (j:=3) (by omega)).trans rfl)
 ·exact at' _ _ ((eF c f hd (j:=4) (by omega)).trans rfl)
 ·exact at' _ _ ((eF c f hd (j:=5) (by omega)).trans rfl)
 ·exact at' _ _ ((eF c f hd (j:=6) (by omega)).trans rfl)
noncomputable def aW (c f:Bool):Nat->Nat->List El->Int
 | _,_,[]=>0
 | ah,gr,x :: r=>if dI c f x.1 x.2 ah gr≠0 then dI c f x.1 x.2 ah gr else aW c f (ah+1) (gr+(if x.2.f.k=7 then 1 else 0)) r
theorem rA{P:Tr->Prop}(t:Tr):∀ p,bY P t->(∀ x∈p,P x.1)->∀ z∈pp p t,∀ x∈z.1,P x.1:=by
 refine Tr.ind (P:=fun t=>∀ p,bY P t->(∀ x∈p,P x.1)->∀ z∈pp p t,∀ x∈z.1,P x.1) (fun t ih p he hp z hz=>?_) t
 rw [dP] at hz
 rcases List.mem_cons.1 hz with q | q
 ·subst q;exact hp
 ·have:∀ (ks:List Tr) (i:Nat),(∀ u∈ks,u∈t.ks)->z∈pps t p i ks->∀ x∈z.1,P x.1:=by
   intro ks
   induction ks with
   | nil=>intro i _ h;rw [bI] at h;cases h
   | cons u us ih2=>
    intro i hs h
    rw [bJ] at h
    rcases List.mem_append.1 h with g | g
    ·exact ih u (hs u (List.mem_cons_self ..)) _ (dF he (hs u (List.mem_cons_self ..))) (fun x hx=>by
      rcases List.mem_cons.1 hx with e | e
      ·rw [e];exact((bM t).1 he).1
      ·exact hp x e) z g
    ·exact ih2 (i+1) (fun v hv=>hs v (List.mem_cons_of_mem _ hv)) g
  exact this t.ks 0 (fun _ h=>h) q
structure Inv(A:Nat->bP)(pre:List El):Prop where
 bd:∀ d,0<=(A d).s/\(A d).s<=(pre.length:Int)
 nx:∀ t x,pre ++ [x] <+: pp [] t->BA A x.1
theorem Inv.nil:Inv (fun _=>⟨lM,0⟩) []:=⟨fun d=>by simp,fun t x h=>by
 rw [List.nil_append] at h
 rw [iX h]
 exact rfl⟩
theorem Inv.step{A:Nat->bP}{pre:List El}{x:El}(h:Inv A pre)(hb:BA A x.1):Inv (cZ A x.1.length x.2.f) (pre ++ [x]):=
 ⟨fun d=>by
  have h1:=h.bd d
  have h2:=h.bd x.1.length
  simp only [cZ,hQ,List.length_append,List.length_cons,List.length_nil]
  split
  ·simp;omega
  ·split
   ·simp;omega
   ·omega,fun t y hy=>BA.next (kJ hy) (SA.enter hb).1 (SA.enter hb).2⟩
structure RI(w:World)(t:Tr)(c f:Bool)(b be:Nat)(pre:List El)(V:World):Prop where
 chk:∃ A,CB V b c f (pre.length:Int) (aS pre:Int) A/\Inv A pre
 pfx:pre <+: pp [] t
 len:pre.length<=2000
 res:V.heap[be]?=some (.cells #[.int .i64 0] 29 (0,0))
 bel:Below w.heap.size w V
 ans:∀ rest,pp [] t=pre ++ rest->aW c f 0 0 (pp [] t)=aW c f pre.length (aS pre) rest
def Ax2(r s B:Nat)(y:Act)(x:El)(a':Act)(W:World):Prop:=∃ bx,BoxN W bx x.2.f/\B<=bx/\a'={ y with tmps:=(y.tmps.setIfInBounds r (.int .i64 ((x.1.length:Int)+1))).setIfInBounds s (.pointer (some ⟨bx,0,none⟩)) }
theorem vW(r s B:Nat)(y:Act)(x:El)(a':Act):OwnFrom B (fun (_:Unit) W=>Ax2 r s B y x a' W):=fun _ _ _ _ h hg hr=>by
 obtain⟨bx,h1,h2,h3⟩:=h
 exact⟨bx,bA hg hr h1,h2,h3⟩
theorem sC(n:Nat)(hn:3<=n){w:World}{t:Tr}(c f:Bool)(hta:TB w t) :
  CallsIn Fence.wide n Tryz.prog 11 #[.agg #[.int .i64 t.f.k,.int .i64 t.f.n,.int .i64 t.f.mn,.int .i64 t.f.mx,.slice t.f.rq t.f.rs.length t.f.rc,.slice t.f.kq t.f.kl t.f.kc],.agg #[.bool c,.bool f]] w fun e w'=>e=.returned (.int .i64 (aW c f 0 0 (pp [] t)))/\Below w.heap.size w w':=by
 have hfn:∀ f,Fence.wide.fn f:=fun _=>trivial
 refine callsIn_of_wp_marks Tryz.func11 rfl trivial ?_ rfl
 simp only [Tryz.ntmps11,List.size_toArray,List.length_cons,List.length_nil,Nat.reduceAdd,Nat.reduceSub,Array.replicate_succ,Array.replicate_zero,List.push_toArray,List.append_toArray,List.nil_append,List.cons_append]
 refine wpIn_wide.2 ?_
 have HTA:=aB hta
 go_upto_region 1 with fail
 have N0:Hid (BoxN (((w.alloc (.cells #[.int .i64 t.f.k,.int .i64 t.f.n,.int .i64 t.f.mn,.int .i64 t.f.mx,.slice t.f.rq t.f.rs.length t.f.rc,.slice t.f.kq t.f.kl t.f.kc] 25)).alloc (.cells #[.bool c,.bool f] 27)).alloc (.cells #[.int .i64 0] 29)) w.heap.size t.f):=(Below.heap_alloc _ _ _ (by simp;omega)).trans ((Below.heap_alloc _ _ _ (by simp)).trans (aE w _))
 have M0:Hid ((((w.alloc (.cells #[.int .i64 t.f.k,.int .i64 t.f.n,.int .i64 t.f.mn,.int .i64 t.f.mx,.slice t.f.rq t.f.rs.length t.f.rc,.slice t.f.kq t.f.kl t.f.kc] 25)).alloc (.cells #[.bool c,.bool f] 27)).alloc (.cells #[.int .i64 0] 29)).heap[w.heap.size+1]?=some (.cells #[.bool c,.bool f] 27 (0,0))):=(Below.heap_alloc _ _ _ (by simp)).trans (by have:=aE (w.alloc (.cells #[.int .i64 t.f.k,.int .i64 t.f.n,.int .i64 t.f.mn,.int .i64 t.f.mx,.slice t.f.rq t.f.rs.length t.f.rc,.slice t.f.kq t.f.kl t.f.kc] 25)) (.cells #[.bool c,.bool f] 27);rwa [World.size_alloc] at this)
 have E0:Hid ((((w.alloc (.cells #[.int .i64 t.f.k,.int .i64 t.f.n,.int .i64 t.f.mn,.int .i64 t.f.mx,.slice t.f.rq t.f.rs.length t.f.rc,.slice t.f.kq t.f.kl t.f.kc] 25)).alloc (.cells #[.bool c,.bool f] 27)).alloc (.cells #[.int .i64 0] 29)).heap[w.heap.size+1+1]?=some (.cells #[.int .i64 0] 29 (0,0))):=(by have:=aE ((w.alloc (.cells #[.int .i64 t.f.k,.int .i64 t.f.n,.int .i64 t.f.mn,.int .i64 t.f.mx,.slice t.f.rq t.f.rs.length t.f.rc,.slice t.f.kq t.f.kl t.f.kc] 25)).alloc (.cells #[.bool c,.bool f] 27)) (.cells #[.int .i64 0] 29);rwa [World.size_alloc,World.size_alloc] at this)
 have B0:Hid (Below w.heap.size w (((w.alloc (.cells #[.int .i64 t.f.k,.int .i64 t.f.n,.int .i64 t.f.mn,.int .i64 t.f.mx,.slice t.f.rq t.f.rs.length t.f.rc,.slice t.f.kq t.f.kl t.f.kc] 25)).alloc (.cells #[.bool c,.bool f] 27)).alloc (.cells #[.int .i64 0] 29))):=((bz9).alloc (by simp) _).alloc (by simp;omega) _
 generalize (((w.alloc (.cells #[.int .i64 t.f.k,.int .i64 t.f.n,.int .i64 t.f.mn,.int .i64 t.f.mx,.slice t.f.rq t.f.rs.length t.f.rc,.slice t.f.kq t.f.kl t.f.kc] 25)).alloc (.cells #[.bool c,.bool f] 27)).alloc (.cells #[.int .i64 0] 29))=w1 at N0 M0 E0 B0 ⊢
 generalize hbm:w.heap.size+1=bm at M0 E0 ⊢
 generalize hbe:bm+1=be at E0 ⊢
 have m0:w1.cell? ⟨bm,0,none⟩=some (.bool c):=aA M0.out (i:=0) rfl
 have m1:w1.cell? ⟨bm,1,none⟩=some (.bool f):=aA M0.out (i:=1) rfl
 have hst:=qG w1 c f
 go_upto_region 2 with fail
 have C2:Hid (CB (w1.alloc (.cells (gR c f).toArray 63)) w1.heap.size c f 0 0 (fun _=>⟨lM,0⟩)):=uZ w1 c f
 have K2:Below w1.heap.size w1 (w1.alloc (.cells (gR c f).toArray 63)):=bz9
 have N2:Hid (BoxN (w1.alloc (.cells (gR c f).toArray 63)) w.heap.size t.f):=(K2.block _ (aC N0.out)).trans N0.out
 have E2:Hid ((w1.alloc (.cells (gR c f).toArray 63)).heap[be]?=some (.cells #[.int .i64 0] 29 (0,0))):=(K2.block _ (aC E0.out)).trans E0.out
 have B2:Hid (Below w.heap.size w (w1.alloc (.cells (gR c f).toArray 63))):=aF B0.out K2 lz9
 have hbb:w.heap.size<=w1.heap.size:=B0.out.size
 have hbe2:w.heap.size<=be:=by omega
 have hbl:=aC E0.out
 generalize (w1.alloc (.cells (gR c f).toArray 63))=w2 at C2 K2 N2 E2 B2 ⊢
 clear hst m0 m1 N0 M0 E0 K2
 generalize w1.heap.size=b at C2 hbb hbl ⊢
 obtain⟨c0,c1,c2,c3,c4,c5⟩:=N2.out.six
 simp only [Nat.zero_add] at c1 c2 c3 c4 c5
 go_wp2_with (go_at_call 26;(with_reducible refine(pN _ _).mono ?_);rintro e w3 ⟨rfl,rfl⟩)
 have K3:Below w2.heap.size w2 (w2.alloc (.cells #[.int .i64 t.f.k,.int .i64 t.f.n,.int .i64 t.f.mn,.int .i64 t.f.mx,.slice t.f.rq t.f.rs.length t.f.rc,.slice t.f.kq t.f.kl t.f.kc] 25)):=bz9
 have N3:BoxN (w2.alloc (.cells #[.int .i64 t.f.k,.int .i64 t.f.n,.int .i64 t.f.mn,.int .i64 t.f.mx,.slice t.f.rq t.f.rs.length t.f.rc,.slice t.f.kq t.f.kl t.f.kc] 25)) w2.heap.size t.f:=aE w2 _
 have C3:=C2.out.kept K3
 have E3:=(K3.block _ (aC E2.out)).trans E2.out
 have B3:=aF B2.out K3 lz9
 generalize (w2.alloc (.cells #[.int .i64 t.f.k,.int .i64 t.f.n,.int .i64 t.f.mn,.int .i64 t.f.mx,.slice t.f.rq t.f.rs.length t.f.rc,.slice t.f.kq t.f.kl t.f.kc] 25))=w4 at K3 N3 C3 E3 B3 ⊢
 generalize w2.heap.size=bn at N3 ⊢
 clear c0 c1 c2 c3 c4 c5 C2 N2 E2 B2 K3
 have L4:=C3.lt
 have L5:=aC E3
 refine(wpIn_wide (n:=n)).1 ?_
 refine wQ (by omega) 13 14 bn rfl rfl N3 HTA.out (CK.of_below B3) (RI w t c f b be) (fun k pre V=>k=.ret/\V.heap[be]?=some (.cells #[.int .i64 (aW c f 0 0 (pp [] t))] 29 (0,0))/\Below w.heap.size w V)
  ?_ ?_ (fun pre W h=>by have:=h.len;omega) ⟨⟨_,C3,Inv.nil⟩,List.nil_prefix,by simp,E3,B3,fun rest hr=>by rw [hr];rfl⟩ (Ax2 6 7 w4.heap.size) (vW _ _ _) ?_ ?_ ?_ ?_
 ·rintro pre V V' row h hg hr
  obtain⟨A,hA,hI⟩:=h.chk
  exact⟨⟨A,hA.row hg hr,hI⟩,h.pfx,h.len,bA hg hr h.res,fI h.bel lz9 B3.size hg hr,h.ans⟩
 ·rintro k pre V V' row ⟨h0,h1,h2⟩ hg hr
  exact⟨h0,bA hg hr h1,fI h2 lz9 B3.size hg hr⟩
 ·intro l pre x V K _ _ hs _ hK
  have HS:=aB hs
  simp only [cK]
  gi_wp2
  exact hK _ _ (bz9) ⟨_,aE V _,HS.out,rfl⟩
 ·rintro l pre x a' V h hck hsz ht ⟨bx,hbx,hbl2,rfl⟩
  obtain⟨A,hA,hI⟩:=h.chk
  have hba:=hI.nx t x ht
  obtain⟨rest,hrest⟩:=ht
  have hin:x∈pp [] t:=by rw [<- hrest];simp
  have hway:∀ y∈x.1,NB w y.1:=rA t [] HTA.out (fun _ z=>by cases z) x hin
  have hkl:(A x.1.length).f.kl<=9223372036854775807:=by
   cases hx:x.1 with
   | nil=>
    rw [hx] at hba
    have:(A 0).f=lM:=hba
    rw [List.length_nil,this]
    simp [lM]
   | cons y ys=>
    rw [hx] at hba hway
    have e:=hba.1
    rw [List.length_cons,e]
    have hy:=hway y (List.mem_cons_self ..)
    obtain⟨q,cap,-,hm,-⟩:=hy.k.slice
    show y.1.f.kl<=_
    rw [hy.kl]
    exact hm
  have hbd:=hI.bd x.1.length
  have hdp:=qF (t:=t) (pre:=pre) (x:=x) ⟨rest,hrest⟩
  have hlen:=h.len
  have hgl:=vF pre
  have LK:=aB (wZ (t:=x.2) hA hba (fun y hy=>(hway y hy).kl) hkl ⟨hbd.1,by omega⟩ ((HTA.out.at hin).node.ck hck) hlen (by omega) (by omega))
  have HE:=aB (show pp [] t=pre ++ x :: rest by rw [<- hrest];simp)
  have HA2:=aB (h.ans (x :: rest) HE.out)
  have HH:=aB h
  have HBA:=aB hba
  have HI:=aB hI
  obtain⟨k0,k1,k2,k3,k4,k5⟩:=hbx.six
  simp only [Nat.zero_add] at k1 k2 k3 k4 k5
  obtain⟨m,hm⟩:∃ m,dI c f x.1 x.2 pre.length (aS pre)=m:=⟨_,rfl⟩
  have HM:=aB hm
  have HBX:=aB hbx
  clear h hck hsz hbx hba hrest hin hway hkl hbd hm hI hgl
  simp only [cK]
  by_cases hm0:m=0
  ·have e0:(m != 0)=false:=by simpa using hm0
   gi_wp2
   refine⟨(fun z=>by cases z),(CallsIn.inRound l (callsIn_wide.2 (LK.out))).mono ?_⟩
   rintro e V5 ⟨he5,h51,h52⟩
   rw [HM.out] at he5 h51
   subst he5
   have X5:=aB (h51 hm0)
   have F5:=aB h52
   clear h51 h52
   gi_wp2
   subst hm0
   have hl2:pre.length < 2000:=by
    rcases Nat.lt_or_ge pre.length 2000 with z | z
    ·exact z
    ·have:=HM.out
     unfold dI at this
     rw [if_pos (by omega)] at this
     cases this
   refine⟨F5.out.keepsFrom (fun k hk=>by omega),F5.out.ckeep (fun k hk=>by rintro (z | z) <;> omega),⟨⟨_,?_,HI.out.step HBA.out⟩,?_,by simp;omega,(F5.out.block _ (aC HH.out.res) (by omega)).trans HH.out.res,dN HH.out.bel F5.out lz9 (fun k e=>by omega),fun rest' hr'=>?_⟩⟩
   ·have:=X5.out
    rw [kS,Int.natCast_add,show (((if x.2.f.k=7 then 1 else 0:Nat)):Int)=(if x.2.f.k=7 then 1 else 0) by split <;> rfl]
    simpa using this
   ·exact⟨rest,by rw [HE.out];simp⟩
   ·rw [HE.out,List.append_assoc,List.append_cancel_left_eq] at hr'
    simp at hr'
    subst hr'
    rw [HA2.out]
    simp only [aW,HM.out,ne_eq,not_true,if_false,List.length_append,List.length_cons,List.length_nil,kS]
  ·have e0:(m != 0)=true:=by simpa using hm0
   have HR:=aB (show m=aW c f 0 0 (pp [] t) by rw [HA2.out];simp only [aW,HM.out,ne_eq,hm0,not_false_eq_true,if_true])
   gi_wp2
   refine⟨(fun z=>by cases z),(CallsIn.inRound l (callsIn_wide.2 (LK.out))).mono ?_⟩
   rintro e V5 ⟨he5,h51,h52⟩
   rw [HM.out] at he5
   subst he5
   have F5:=aB h52
   have E5:V5.heap[be]?=some (.cells #[.int .i64 0] 29 (0,0)):=(h52.block _ (aC HH.out.res) (by omega)).trans HH.out.res
   have fz:=bL E5 0
   have cz:=aA E5 (i:=0) rfl
   have E6:=aB (aZ E5 0 (.int .i64 m))
   have F6:=aB ((Fr.refl (fun z=>z=be) V5).setCell (p:=⟨be,0,none⟩) rfl (.int .i64 m))
   clear h51 h52 E5
   gi_wp2
   refine⟨(F5.out.keepsFrom (fun k hk=>by omega)).trans (F6.out.keepsFrom (fun k hk=>by omega)),rfl,by rw [<- HR.out];exact E6.out,dN (dN HH.out.bel F5.out lz9 (fun k e=>by omega)) F6.out lz9 (fun k e=>by omega)⟩
 ·rintro D V hD h hck hK
  have e1:aW c f 0 0 (pp [] t)=0:=by rw [h.ans [] (by simp)];rfl
  have HH:=aB h
  have HK:=aB hK
  have HD:=aB hD
  have fz:=bL h.res 0
  have cz:=aA h.res (i:=0) rfl
  have E6:=aB (aZ h.res 0 (.int .i64 0))
  have F6:=aB ((Fr.refl (fun z=>z=be) V).setCell (p:=⟨be,0,none⟩) rfl (.int .i64 0))
  clear h hck hK hD
  simp only [cO]
  go_wp2
  have hDb:be≠D:=by have:=HD.out;omega
  have cw:((V.setCell ⟨be,0,none⟩ (.int .i64 0)).putObj D (.deferred none)).cell? ⟨be,0,none⟩=some (.int .i64 0):=aA ((World.putObj_heap_other hDb).trans E6.out) (i:=0) rfl
  refine⟨by simp,.inl ⟨_,_,rfl,run_takeDeferred ((F6.out.block _ (aC HK.out) (by have:=HD.out;omega)).trans HK.out),?_⟩⟩
  exact⟨.int .i64 (aW c f 0 0 (pp [] t)),by simp [results,Tryz.results11,go_sem,cw,e1],rfl,gW _ (dN HH.out.bel F6.out lz9 (fun k e=>by omega)) (Nat.le_trans B3.size HD.out)⟩
 ·rintro D k pre V hD hpre ⟨rfl,h1,h2⟩ hK
  refine(wpIn_wide (n:=n)).2 ?_
  have H1:=aB h1
  have H2:=aB h2
  have HK:=aB hK
  have hDb:be≠D:=by omega
  have cw:(V.putObj D (.deferred none)).cell? ⟨be,0,none⟩=some (.int .i64 (aW c f 0 0 (pp [] t))):=aA ((World.putObj_heap_other hDb).trans H1.out) (i:=0) rfl
  clear h1 h2 hK
  simp only [cO]
  go_wp2
  refine⟨by simp,.inl ⟨_,_,rfl,run_takeDeferred HK.out,?_⟩⟩
  exact⟨.int .i64 (aW c f 0 0 (pp [] t)),by simp [results,Tryz.results11,go_sem,cw],rfl,gW _ H2.out (Nat.le_trans B3.size hD)⟩
theorem mH{w:World}{t:Tr}(c f:Bool)(hta:TB w t):Calls Tryz.prog 11 #[.agg #[.int .i64 t.f.k,.int .i64 t.f.n,.int .i64 t.f.mn,.int .i64 t.f.mx,.slice t.f.rq t.f.rs.length t.f.rc,.slice t.f.kq t.f.kl t.f.kc],.agg #[.bool c,.bool f]] w fun e w'=>e=.returned (.int .i64 (aW c f 0 0 (pp [] t)))/\Below w.heap.size w w':=callsIn_wide.1 (sC 3 (by decide) c f hta)
end
theorem fA{c f:Bool}:∀ (L:List El) (ah gr:Nat),aW c f ah gr L=0->∀ pre x post,L=pre ++ x :: post->dI c f x.1 x.2 (ah+pre.length) (gr+aS pre)=0
 | [],_,_,_,pre,x,post,h=>by cases pre <;> cases h
 | y :: L,ah,gr,hr,pre,x,post,h=>by
  unfold aW at hr
  by_cases hy:dI c f y.1 y.2 ah gr=0
  ·rw [if_neg (by simpa using hy)] at hr
   cases pre with
   | nil=>
    simp at h
    obtain⟨rfl,rfl⟩:=h
    simpa [aS] using hy
   | cons z pre=>
    simp at h
    obtain⟨rfl,rfl⟩:=h
    have:=fA (pre ++ x :: post) (ah+1) (gr+(if y.2.f.k=7 then 1 else 0)) hr pre x post rfl
    simp only [List.length_cons,aS]
    rw [show ah+(pre.length+1)=ah+1+pre.length by omega,show gr+((if y.2.f.k=7 then 1 else 0)+aS pre)=gr+(if y.2.f.k=7 then 1 else 0)+aS pre by omega]
    exact this
  ·rw [if_pos hy] at hr
   exact absurd hr hy
theorem kY{c f:Bool}:∀ (L:List El) (ah gr:Nat),(∀ pre x post,L=pre ++ x :: post->dI c f x.1 x.2 (ah+pre.length) (gr+aS pre)=0)->aW c f ah gr L=0
 | [],_,_,_=>rfl
 | y :: L,ah,gr,h=>by
  unfold aW
  have hy:=h [] y L rfl
  simp only [List.length_nil,Nat.add_zero,aS] at hy
  rw [if_neg (by simpa using hy)]
  refine kY L (ah+1) (gr+(if y.2.f.k=7 then 1 else 0)) fun pre x post e=>?_
  have:=h (y :: pre) x post (by rw [e];rfl)
  simp only [List.length_cons,aS] at this
  rw [show ah+1+pre.length=ah+(pre.length+1) by omega,show gr+(if y.2.f.k=7 then 1 else 0)+aS pre=gr+((if y.2.f.k=7 then 1 else 0)+aS pre) by omega]
  exact this
theorem qO{par:Tr}{p:Way}{ks:List Tr}{i:Nat}{u:Tr}(h:ks[i]?=some u):∃ a b,pps par p 0 ks=a ++ pp ((par,i) :: p) u ++ b:=by
 have e:ks=ks.take i ++ u :: ks.drop (i+1):=by
  have hi:=(List.getElem?_eq_some_iff.1 h).1
  have:=List.take_append_drop i ks
  rw [List.drop_eq_getElem_cons hi,(List.getElem?_eq_some_iff.1 h).2] at this
  exact this.symm
 have hl:(ks.take i).length=i:=by rw [List.length_take];have:=(List.getElem?_eq_some_iff.1 h).1;omega
 refine⟨pps par p 0 (ks.take i),pps par p (i+1) (ks.drop (i+1)),?_⟩
 have:=fQ par p (ks.take i) (u :: ks.drop (i+1)) 0
 rw [<- e,hl,bJ,Nat.zero_add] at this
 rw [this,List.append_assoc]
theorem kN{c f:Bool}{L:List El}(hr:aW c f 0 0 L=0):L.length<=2000:=by
 rcases Nat.lt_or_ge 2000 L.length with h | h
 ·exfalso
  have e:L=L.take 2000 ++ L[2000] :: L.drop 2001:=by
   have:=List.take_append_drop 2000 L
   rw [List.drop_eq_getElem_cons h] at this
   exact this.symm
  have:=fA L 0 0 hr _ _ _ e
  rw [show 0+(L.take 2000).length=2000 by rw [List.length_take];omega] at this
  unfold dI at this
  rw [if_pos rfl] at this
  cases this
 ·exact h
def Fl.cells(f:Fl):List Value:=[.int .i64 f.k,.int .i64 f.n,.int .i64 f.mn,.int .i64 f.mx,.slice f.rq f.rs.length f.rc,.slice f.kq f.kl f.kc]
theorem vZ(b o j:Nat):(⟨b,o,none⟩:Addr).add j=⟨b,o+j,none⟩:=by unfold Addr.add;split <;> simp_all
theorem kV(W:World)(a:Option Addr)(l c:Nat):(binOp .eql 22 (.slice a l c) (.slice none 0 0)).run Tryz.prog W=.ok (.bool a.isNone) W:=by
 unfold binOp
 simp [run_equal_slice_nil W _ _ a l c aO]
theorem tW{w:World}{q:Option Addr}{k:Nat}{L:List (Int × Int)}(h:ArgR w (.slice q L.length k) L)(hl:L.length+3<=8796093022208) :
  Calls Tryz.prog 117 #[.slice q L.length k] w fun e w'=>∃ q' k',e=.returned (.slice q' L.length k')/\RR w.heap.size w' (.slice q' L.length k') L/\Below w.heap.size w w':=by
 obtain⟨t0,hi,hz0,hz1,hz2⟩:=aQ bH
 cases q with
 | none=>
  have hLn:L=[]/\k=0:=by
   rcases h with⟨p,cap,e,rfl,hp⟩ | ⟨g,off,cap,e,-⟩
   ·cases e;exact⟨rfl,hp rfl⟩
   ·cases e
  obtain⟨rfl,rfl⟩:=hLn
  have hq:=fun W=>kV W none 0 0
  clear h
  go_enter Tryz.func117,Tryz.ntmps117
  go_wp2
  go_ret
  exact⟨none,0,rfl,RR.nil _ _,Below.refl _ _⟩
 | some ad=>
  have hq:=fun W=>kV W (some ad) L.length k
  have B0:Below w.heap.size w (w.alloc (.cells #[] 48)):=bz9
  have OW:Hid ((w.alloc (.cells #[] 48)).ownsRow w.heap.size 48 2 (.slice (some ⟨w.heap.size,0,none⟩) 0 0) 0 []):=⟨rfl,.inr ⟨w.heap.size,0,#[],rfl,Nat.le_refl _,aE w _,Nat.le_refl _,Nat.zero_le _,rfl,rfl⟩⟩
  have HG:=aB (h.kept B0).news
  clear h B0
  go_enter Tryz.func117,Tryz.ntmps117
  go_wp2_with (at_builtin;refine wpList_append_own_at _ rfl _ _ 22 rfl w.heap.size 48 t0 (.agg #[.int .i64 0,.int .i64 0]) 2 16 aO hi hz0 hz1 hz2 rfl (by decide) (.slice (some ⟨w.heap.size,0,none⟩) 0 0) 0 [] rfl OW.out ad L.length k (aG L) rfl (by rw [aP]) HG.out (eG L) (by unfold maxLen;omega) (by omega) (by simp) ?_;intro v' w6 hown' hgrow _ hblk;obtain⟨q6,cap6,rfl⟩:=aJ hown';have O6:Hid (w6.ownsRow w.heap.size 48 2 (.slice q6 (0+L.length) cap6) (0+L.length) ([] ++ aG L)):=hown';have B6:Hid (Below w.heap.size w w6):=((((Fr.refl (fun k=>k=w.heap.size) w).alloc _).grown hgrow (fun k hk=>by(simp [Value.ownBlock] at hk;exact hk.symm))).below lz9 (fun k hk=>by omega));clear hown' hgrow hblk)
  go_ret
  have:=O6.out
  rw [Nat.zero_add,List.nil_append] at this
  exact⟨q6,cap6,by simp,this,B6.out⟩
section
mutual
def Er.sz:Er->Nat | .mk _ _ _ _ _ ks=>kC ks+1
def kC:List Er->Nat | []=>0 | x :: xs=>x.sz+kC xs
end
def Er.k:Er->Int | .mk k _ _ _ _ _=>k
def Er.ks:Er->List Er | .mk _ _ _ _ _ ks=>ks
theorem fV(x:Er):x.sz=kC x.ks+1:=by cases x;rw [Er.sz];rfl
theorem fD(x:Er)(l:List Er):kC (x :: l)=x.sz+kC l:=by rw [kC]
theorem dZ:kC []=0:=by rw [kC]
theorem yK(t:Tr):(er t).k=t.f.k:=by rw [pV];rfl
theorem wH(t:Tr):(er t).ks=t.ks.map er:=by rw [pV];rfl
theorem xZ(t:Tr):(er t).sz=t.sz:=by
 refine Tr.ind (P:=fun t=>(er t).sz=t.sz) (fun t ih=>?_) t
 rw [fV,wH,lZ]
 congr 1
 have:∀ l:List Tr,(∀ u∈l,(er u).sz=u.sz)->kC (l.map er)=szs l:=by
  intro l
  induction l with
  | nil=>intro _;rw [List.map_nil,dZ,pG]
  | cons x l ih2=>
   intro h
   rw [List.map_cons,fD,fZ,h x (List.mem_cons_self ..),ih2 (fun u hu=>h u (List.mem_cons_of_mem _ hu))]
 exact this t.ks ih
section
variable {V:World} {g:Nat} {t1 t2 t3:Tr}
end
end
theorem fE{t:Tr}{k n mn mx:Int}{rs:List (Int × Int)}{l:List Er}(h:er t=.mk k n mn mx rs l):t.f.k=k/\t.f.n=n/\t.f.mn=mn/\t.f.mx=mx/\t.f.rs=rs/\t.ks.map er=l:=by
 rw [pV] at h
 injection h with h1 h2 h3 h4 h5 h6
 exact⟨h1,h2,h3,h4,h5,h6⟩
theorem pQ{ks:List Tr}{x:Er}(h:ks.map er=[x]):∃ a,ks=[a]/\er a=x:=by
 match ks,h with
 | [a],h=>simp at h;exact⟨a,rfl,h⟩
theorem yI(x:Ps):(te x).k=x.kd:=by
 cases x with
 | row l=>simp only [te,Ps.kd];split <;> rfl
 | _=>simp [te,Ps.kd,Er.k]
theorem xO(x:Ps):(te x).sz=x.sz:=by
 refine Ps.ind (P:=fun x=>(te x).sz=x.sz) (fun x ih=>?_) x
 have hl:∀ l:List Ps,(∀ y∈l,(te y).sz=y.sz)->kC (tes l)=jD l:=by
  intro l
  induction l with
  | nil=>intro _;rw [tes,dZ,mI]
  | cons y l ih2=>intro h;rw [tes,fD,kO,h y (List.mem_cons_self ..),ih2 (fun z hz=>h z (List.mem_cons_of_mem _ hz))]
 cases x with
 | lf k n rs=>simp only [te,Ps.sz,fV,Er.ks,dZ]
 | grp n k=>rw [te,fV,Ps.sz];simp only [Er.ks];rw [fD,dZ,ih k (by simp [Ps.kids])]
 | rep a b k=>rw [te,fV,Ps.sz];simp only [Er.ks];rw [fD,dZ,ih k (by simp [Ps.kids])]
 | row l=>
  rw [te,Ps.sz]
  split
  ·rename_i h
   rw [List.isEmpty_iff.1 h,fV,mI];simp only [Er.ks,dZ]
  ·rw [fV];simp only [Er.ks];rw [hl l ih]
 | alt l=>rw [te,Ps.sz,fV];simp only [Er.ks];rw [hl l ih]
theorem gP(a b:List El):dL (a ++ b)=max (dL a) (dL b):=by
 induction a with
 | nil=>simp [dL]
 | cons x a ih=>simp only [List.cons_append,dL,ih];omega
theorem vQ(x:Ps):∀ (t:Tr) (wy:Way),er t=te x->dL (pp wy t)=wy.length+x.dp:=by
 refine Ps.ind (P:=fun x=>∀ (t:Tr) (wy:Way),er t=te x->dL (pp wy t)=wy.length+x.dp) (fun x ih t wy h=>?_) x
 have hl:∀ (l:List Ps) (ks:List Tr) (i:Nat),(∀ y∈l,∀ (t:Tr) (wy:Way),er t=te y->dL (pp wy t)=wy.length+y.dp)->ks.map er=l.map te->dL (pps t wy i ks)=if l=[] then 0 else wy.length+1+iA l:=by
  intro l
  induction l with
  | nil=>
   intro ks i _ h
   obtain rfl:ks=[]:=by simpa using h
   rw [bI,if_pos rfl];rfl
  | cons y l ih2=>
   intro ks i h hk
   match ks,hk with
   | u :: ks,hk=>
    rw [List.map_cons,List.map_cons] at hk
    injection hk with h1 h2
    rw [bJ,gP,h y (List.mem_cons_self ..) u _ h1,ih2 ks (i+1) (fun z hz=>h z (List.mem_cons_of_mem _ hz)) h2,iA,List.length_cons]
    by_cases e:l=[]
    ·subst e
     rw [if_pos rfl,if_neg (by simp),iA];omega
    ·rw [if_neg e,if_neg (by simp)];omega
 rw [dP]
 simp only [dL]
 have hks:t.ks.map er=(te x).ks:=by rw [<- wH,h]
 cases x with
 | lf k n rs=>
  rw [te] at hks
  rw [show t.ks=[] by simpa [Er.ks] using hks,bI,Ps.dp]
  simp [dL]
 | grp n k=>
  rw [te] at hks
  rw [hl [k] t.ks 0 ih (by simpa [Er.ks] using hks),if_neg (by simp),Ps.dp,iA,iA]
  omega
 | rep a b k=>
  rw [te] at hks
  rw [hl [k] t.ks 0 ih (by simpa [Er.ks] using hks),if_neg (by simp),Ps.dp,iA,iA]
  omega
 | row l=>
  rw [te] at hks
  by_cases e:l=[]
  ·subst e
   rw [if_pos (show ([]:List Ps).isEmpty=true from rfl)] at hks
   rw [show t.ks=[] by simpa [Er.ks] using hks,bI,Ps.dp,iA]
   simp [dL]
  ·rw [if_neg (by simpa using e)] at hks
   rw [hl l t.ks 0 ih (by rw [<- iR];simpa [Er.ks] using hks),if_neg e,Ps.dp]
   omega
 | alt l=>
  rw [te] at hks
  rw [hl l t.ks 0 ih (by rw [<- iR];simpa [Er.ks] using hks),Ps.dp]
  split
  ·rename_i e;rw [e,iA];omega
  ·omega
def rW(c f:Bool):Sgn->Prop
 | .lf k n rs=>(k=2->lE c f rs/\n=0)/\(k≠2->rs=[])/\(k=8->1<=n/\n<=9)/\(k≠8->n=0)
 | .rp a b=>gU a b=true
 | _=>True
def LKr(c f:Bool)(x:El)(gr:Nat):Prop:=
 cB x.1 x.2.f.k=true/\aN c f ((gr:Int)+1) x.2.f/\fL x.2.f.k x.2.ks.length=true/\(x.2.f.k=7->x.2.f.n<=30)/\(x.2.f.k=8->eQ x.1 x.2.f.n=false/\x.2.f.n<=(gr:Int))
def RTr(c f:Bool)(gr:Nat)(L:List El):Prop:=∀ pre x post,L=pre ++ x :: post->LKr c f x (gr+aS pre)
theorem RTr.nil(c f:Bool)(gr:Nat):RTr c f gr []:=fun pre x post h=>by cases pre <;> cases h
theorem RTr.append{c f:Bool}{gr:Nat}{A B:List El}(h1:RTr c f gr A)(h2:RTr c f (gr+aS A) B):RTr c f gr (A ++ B):=by
 intro pre x post h
 rcases List.append_eq_append_iff.1 h with⟨a,e1,e2⟩ | ⟨a,e1,e2⟩
 ·rw [e1,dS,<- Nat.add_assoc]
  exact h2 a x post e2
 ·cases a with
  | nil=>
   simp at e1 e2
   subst e1
   have:=h2 [] x post (by simp [<- e2])
   simpa [aS] using this
  | cons y a=>
   simp at e2
   obtain⟨rfl,e2⟩:=e2
   exact h1 pre x a e1
theorem RTr.one{c f:Bool}{gr:Nat}{x:El}(h:LKr c f x gr):RTr c f gr [x]:=by
 intro pre y post e
 cases pre with
 | nil=>simp at e;obtain⟨rfl,-⟩:=e;simpa [aS] using h
 | cons z pre=>simp at e
theorem wF(g:Nat)(o e:List Nat)(l:List Sgn):hk g o e (.al :: l)=hk g o e l:=rfl
theorem xV(g:Nat)(o e:List Nat)(a b:Int)(l:List Sgn):hk g o e (.rp a b :: l)=hk g o e l:=rfl
def Iv(gr:Nat)(e:List Nat)(wy:Way):Prop:=∀ n∈e,n<=gr/\eQ wy (n:Int)=false
def Av(gr:Nat)(wy:Way):Prop:=∀ y∈wy,y.1.f.k=7->y.1.f.n<=(gr:Int)
theorem Av.mono{gr gr':Nat}{wy:Way}(h:Av gr wy)(hg:gr<=gr'):Av gr' wy:=fun y hy hk=>by have:=h y hy hk;omega
theorem fF(t:Tr)(i:Nat)(wy:Way)(n:Int):eQ ((t,i) :: wy) n=((t.f.k==7 && t.f.n==n) || eQ wy n):=by simp [eQ]
theorem Iv.down{gr:Nat}{e:List Nat}{wy:Way}{t:Tr}(i:Nat)(h:Iv gr e wy)(hk:t.f.k≠7):Iv gr e ((t,i) :: wy):=fun n hn=>⟨(h n hn).1,by rw [fF,(h n hn).2];simp [hk]⟩
theorem Iv.up{gr:Nat}{e:List Nat}{wy:Way}{t:Tr}{i:Nat}(h:Iv gr e ((t,i) :: wy)):Iv gr e wy:=fun n hn=>⟨(h n hn).1,by have:=(h n hn).2;rw [fF] at this;simp only [Bool.or_eq_false_iff] at this;exact this.2⟩
theorem Iv.turn{gr:Nat}{e:List Nat}{wy:Way}{t:Tr}{i:Nat}(j:Nat)(h:Iv gr e ((t,i) :: wy)):Iv gr e ((t,j) :: wy):=fun n hn=>⟨(h n hn).1,by have:=(h n hn).2;rw [fF] at this ⊢;exact this⟩
theorem Av.down{gr:Nat}{wy:Way}{t:Tr}(i:Nat)(h:Av gr wy)(hk:t.f.k=7->t.f.n<=(gr:Int)):Av gr ((t,i) :: wy):=fun y hy h7=>by
 rcases List.mem_cons.1 hy with rfl | hy
 ·exact hk h7
 ·exact h y hy h7
theorem Av.end_{gr:Nat}{wy:Way}(h:Av gr wy){n:Nat}(hn:gr < n):eQ wy (n:Int)=false:=by
 unfold eQ
 rw [List.any_eq_false]
 intro y hy
 simp only [Bool.and_eq_true,beq_iff_eq,not_and]
 intro h7 e
 have:=h y hy h7
 omega
def RtP(c f:Bool)(x:Ps):Prop:=∀ (t:Tr) (wy:Way) (gr:Nat) (o e:List Nat) (rest:List Sgn),er t=te x->wf x->(∀ s∈pfl x,rW c f s)->cB wy x.kd=true->Iv gr e wy->Av gr wy->hk gr o e (pfl x ++ rest) ->
 RTr c f gr (pp wy t)/\∃ e',hk (gr+aS (pp wy t)) o e' rest/\Iv (gr+aS (pp wy t)) e' wy
theorem rY{c f:Bool}{par:Tr}{wy:Way}:∀ (l:List Ps) (ks:List Tr) (i gr:Nat) (o e:List Nat) (rest:List Sgn),(∀ y∈l,RtP c f y)->ks.map er=l.map te->wfs l->(∀ s∈kB l,rW c f s)->(∀ j y,l[j]?=some y->cB ((par,i+j) :: wy) y.kd=true)->Iv gr e ((par,i) :: wy)->Av gr ((par,i) :: wy)->hk gr o e (kB l ++ rest) ->
  RTr c f gr (pps par wy i ks)/\∃ e',hk (gr+aS (pps par wy i ks)) o e' rest/\Iv (gr+aS (pps par wy i ks)) e' ((par,i) :: wy)
 | [],ks,i,gr,o,e,rest,_,h,_,_,_,hI,_,hh=>by
  obtain rfl:ks=[]:=by simpa using h
  rw [bI]
  rw [kB] at hh
  exact⟨RTr.nil _ _ _,e,by simpa [aS] using hh,by simpa [aS] using hI⟩
 | y :: l,u :: ks,i,gr,o,e,rest,ih,h,hw,hs,hst,hI,hA,hh=>by
  rw [List.map_cons,List.map_cons] at h
  injection h with h1 h2
  rw [wfs] at hw
  rw [kB] at hh hs
  rw [List.append_assoc] at hh
  obtain⟨r1,e1,k1,i1⟩:=ih y (List.mem_cons_self ..) u ((par,i) :: wy) gr o e (kB l ++ rest) h1 hw.1 (fun s hs'=>hs s (List.mem_append_left _ hs')) (by have:=hst 0 y rfl;simpa using this) hI hA hh
  obtain⟨r2,e2,k2,i2⟩:=rY l ks (i+1) _ o e1 rest (fun z hz=>ih z (List.mem_cons_of_mem _ hz)) h2 hw.2 (fun s hs'=>hs s (List.mem_append_right _ hs')) (fun j z hz=>by have:=hst (j+1) z (by simpa using hz);rwa [show i+(j+1)=i+1+j by omega] at this) (i1.turn _) ((fun y hy h7=>by
    rcases List.mem_cons.1 hy with rfl | hy
    ·have:=hA (par,i) (List.mem_cons_self ..) h7;simp only at this ⊢;omega
    ·have:=hA y (List.mem_cons_of_mem _ hy) h7;omega)) k1
  rw [bJ,dS,<- Nat.add_assoc]
  exact⟨r1.append r2,e2,k2,i2.turn _⟩
 | y :: l,[],_,_,_,_,_,_,h,_,_,_,_,_,_=>by simp at h
theorem rX{c f:Bool}{par:Tr}{wy:Way}:∀ (l:List Ps) (ks:List Tr) (i gr:Nat) (o e:List Nat) (rest:List Sgn),(∀ y∈l,RtP c f y)->ks.map er=l.map te->wfs l->(∀ s∈jF l,rW c f s)->(∀ j y,l[j]?=some y->cB ((par,i+j) :: wy) y.kd=true)->Iv gr e ((par,i) :: wy)->Av gr ((par,i) :: wy)->hk gr o e (jF l ++ rest) ->
  RTr c f gr (pps par wy i ks)/\∃ e',hk (gr+aS (pps par wy i ks)) o e' rest/\Iv (gr+aS (pps par wy i ks)) e' ((par,i) :: wy)
 | [],ks,i,gr,o,e,rest,_,h,_,_,_,hI,_,hh=>by
  obtain rfl:ks=[]:=by simpa using h
  rw [bI]
  rw [jF] at hh
  exact⟨RTr.nil _ _ _,e,by simpa [aS] using hh,by simpa [aS] using hI⟩
 | y :: l,u :: ks,i,gr,o,e,rest,ih,h,hw,hs,hst,hI,hA,hh=>by
  rw [List.map_cons,List.map_cons] at h
  injection h with h1 h2
  rw [wfs] at hw
  rw [jF] at hh hs
  rw [List.cons_append,wF,List.append_assoc] at hh
  obtain⟨r1,e1,k1,i1⟩:=ih y (List.mem_cons_self ..) u ((par,i) :: wy) gr o e (jF l ++ rest) h1 hw.1 (fun s hs'=>hs s (List.mem_cons_of_mem _ (List.mem_append_left _ hs'))) (by have:=hst 0 y rfl;simpa using this) hI hA hh
  obtain⟨r2,e2,k2,i2⟩:=rX l ks (i+1) _ o e1 rest (fun z hz=>ih z (List.mem_cons_of_mem _ hz)) h2 hw.2 (fun s hs'=>hs s (List.mem_cons_of_mem _ (List.mem_append_right _ hs'))) (fun j z hz=>by have:=hst (j+1) z (by simpa using hz);rwa [show i+(j+1)=i+1+j by omega] at this) (i1.turn _) ((fun y hy h7=>by
    rcases List.mem_cons.1 hy with rfl | hy
    ·have:=hA (par,i) (List.mem_cons_self ..) h7;simp only at this ⊢;omega
    ·have:=hA y (List.mem_cons_of_mem _ hy) h7;omega)) k1
  rw [bJ,dS,<- Nat.add_assoc]
  exact⟨r1.append r2,e2,k2,i2.turn _⟩
 | y :: l,[],_,_,_,_,_,_,h,_,_,_,_,_,_=>by simp at h
theorem wE{x:Ps}(h:xB x=true)(hw:wf x):cW x.kd=true/\x.kd≠6:=by
 cases x with
 | lf k n rs=>
  rw [wf] at hw
  rcases hw with rfl | rfl | rfl | rfl <;> simp [Ps.kd,cW]
 | grp=>simp [Ps.kd,cW]
 | rep=>simp [Ps.kd,cW]
 | row l=>simp only [Ps.kd];split <;> simp [cW]
 | alt=>simp [xB] at h
theorem tA{x:Ps}(hw:wf x):cW x.kd=true:=by
 cases x with
 | alt=>simp [Ps.kd,cW]
 | _=>exact(wE rfl hw).1
theorem xA{x:Ps}(h:kR x=true):cE x.kd=true:=by
 cases x with
 | lf k n rs=>
  simp [kR] at h
  rcases h with rfl | rfl <;> simp [Ps.kd,cE]
 | grp=>simp [Ps.kd,cE]
 | rep=>simp [Ps.kd,cE]
 | row=>simp [kR] at h
 | alt=>simp [kR] at h
theorem xQ(c f:Bool)(x:Ps):RtP c f x:=by
 refine Ps.ind (P:=RtP c f) (fun x ih=>?_) x
 intro t wy gr o e rest h hw hs hst hI hA hh
 have hft:t.f.k=x.kd:=by rw [<- yK,h,yI]
 rw [dP]
 cases x with
 | lf k n rs=>
  rw [te] at h
  obtain⟨f1,f2,f3,f4,f5,f6⟩:=fE h
  rw [show t.ks=[] by simpa using f6,bI]
  have hs:=hs (.lf k n rs) (by rw [pfl];simp)
  rw [pfl,List.singleton_append,hk] at hh
  rw [wf] at hw
  have g0:aS [(wy,t)]=0:=by
   simp only [aS,f1]
   rcases hw with rfl | rfl | rfl | rfl <;> simp
  rw [g0,Nat.add_zero]
  refine⟨RTr.one ⟨by rw [hft];exact hst,?_,?_,fun z=>?_,fun z=>?_⟩,e,hh.2,hI⟩
  ·simp only
   unfold aN
   rw [f1,f2,f3,f4,f5]
   rcases hw with rfl | rfl | rfl | rfl
   ·rw [if_pos rfl];exact⟨(hs.1 rfl).1,(hs.1 rfl).2,rfl,rfl⟩
   ·rw [if_neg (by decide),if_neg (by decide),if_neg (by decide),if_neg (by decide),hs.2.1 (by decide),hs.2.2.2 (by decide)];simp
   ·rw [if_neg (by decide),if_neg (by decide),if_neg (by decide),if_neg (by decide),hs.2.1 (by decide),hs.2.2.2 (by decide)];simp
   ·rw [if_neg (by decide),if_neg (by decide),if_pos rfl,hs.2.1 (by decide)];exact⟨hs.2.2.1 rfl,rfl,rfl,rfl⟩
  ·simp only
   rw [show t.ks=[] by simpa using f6,f1]
   rcases hw with rfl | rfl | rfl | rfl <;> simp [fL]
  ·simp only at z
   rcases hw with rfl | rfl | rfl | rfl <;> (rw [f1] at z;cases z)
  ·simp only at z ⊢
   obtain⟨i,hi,e1⟩:=hh.1 (f1.symm.trans z)
   have:=hI i hi
   rw [f2,e1]
   exact⟨this.2,by omega⟩
 | grp n k=>
  rw [te] at h
  obtain⟨f1,f2,f3,f4,f5,f6⟩:=fE h
  obtain⟨u,e1,hu⟩:=pQ f6
  rw [wf] at hw
  rw [pfl] at hh hs
  rw [List.cons_append,hk] at hh
  obtain⟨rfl,hg,hh⟩:=hh
  rw [List.append_assoc] at hh
  have hA':Av (gr+1) ((t,0) :: wy):=(hA.mono (by omega)).down 0 (fun _=>by rw [f2];omega)
  have hI':Iv (gr+1) e ((t,0) :: wy):=fun m hm=>⟨by have:=(hI m hm).1;omega,by
   rw [fF,(hI m hm).2,f2]
   have:=(hI m hm).1
   have e2:(((gr+1:Nat):Int)==(m:Int))=false:=by rw [beq_eq_false_iff_ne];omega
   rw [e2];simp⟩
  have hst':cB ((t,0) :: wy) k.kd=true:=by
   simp only [cB,cP]
   rw [f1,if_neg (by decide),if_neg (by decide),if_neg (by decide)]
   exact tA hw
  obtain⟨r1,e',k1,i1⟩:=ih k (by simp [Ps.kids]) u ((t,0) :: wy) (gr+1) ((gr+1) :: o) e ([.cl] ++ rest) hu hw (fun s hs'=>hs s (List.mem_cons_of_mem _ (List.mem_append_left _ hs'))) hst' hI' hA' hh
  rw [List.singleton_append,hk] at k1
  obtain⟨n2,o2,eo,k2⟩:=k1
  injection eo with eo1 eo2
  subst eo1 eo2
  rw [e1,bJ,bI,List.append_nil]
  have g1:aS ((wy,t) :: pp ((t,0) :: wy) u)=1+aS (pp ((t,0) :: wy) u):=by simp only [aS,f1,if_pos]
  rw [g1,show gr+(1+aS (pp ((t,0) :: wy) u))=gr+1+aS (pp ((t,0) :: wy) u) by omega]
  refine⟨?_,(gr+1) :: e',k2,?_⟩
  ·refine RTr.append (A:=[(wy,t)]) (RTr.one ⟨by rw [hft];exact hst,?_,?_,fun _=>by rw [f2];omega,fun z=>by simp only at z;rw [f1] at z;cases z⟩) ?_
   ·simp only
    unfold aN
    rw [f1,f2,f3,f4,f5,if_neg (by decide),if_pos rfl]
    exact⟨by omega,rfl,rfl,rfl⟩
   ·simp only
    rw [e1,f1]
    rfl
   ·have g2:aS [(wy,t)]=1:=by simp [aS,f1]
    rw [g2]
    exact r1
  ·intro m hm
   rcases List.mem_cons.1 hm with rfl | hm
   ·exact⟨by omega,hA.end_ (by omega)⟩
   ·exact i1.up m hm
 | rep a b k=>
  rw [te] at h
  obtain⟨f1,f2,f3,f4,f5,f6⟩:=fE h
  obtain⟨u,e1,hu⟩:=pQ f6
  rw [wf] at hw
  rw [pfl] at hh hs
  rw [List.append_assoc] at hh
  have hb:gU a b=true:=hs (.rp a b) (by simp)
  have hst':cB ((t,0) :: wy) k.kd=true:=by
   simp only [cB,cP]
   rw [f1,if_neg (by decide),if_pos rfl]
   exact xA hw.1
  obtain⟨r1,e',k1,i1⟩:=ih k (by simp [Ps.kids]) u ((t,0) :: wy) gr o e ([.rp a b] ++ rest) hu hw.2 (fun s hs'=>hs s (List.mem_append_left _ hs')) hst' (hI.down 0 (by rw [f1];decide)) (hA.down 0 (fun z=>by rw [f1] at z;cases z)) hh
  rw [List.singleton_append,xV] at k1
  rw [e1,bJ,bI,List.append_nil]
  have g1:aS ((wy,t) :: pp ((t,0) :: wy) u)=aS (pp ((t,0) :: wy) u):=by simp [aS,f1]
  rw [g1]
  refine⟨?_,e',k1,i1.up⟩
  refine RTr.append (A:=[(wy,t)]) (RTr.one ⟨by rw [hft];exact hst,?_,?_,fun z=>(by simp only at z;rw [f1] at z;cases z),fun z=>(by simp only at z;rw [f1] at z;cases z)⟩) ?_
  ·simp only
   unfold aN
   rw [f1,f2,f3,f4,f5,if_neg (by decide),if_neg (by decide),if_neg (by decide),if_pos rfl]
   exact⟨hb,rfl,rfl⟩
  ·simp only
   rw [e1,f1]
   rfl
  ·have g2:aS [(wy,t)]=0:=by simp [aS,f1]
   rw [g2]
   exact r1
 | row l=>
  rw [wf] at hw
  obtain⟨hw1,hw2,hw3⟩:=hw
  rw [pfl] at hh hs
  rw [te] at h
  by_cases hl:l=[]
  ·subst hl
   rw [if_pos (show ([]:List Ps).isEmpty=true from rfl)] at h
   obtain⟨f1,f2,f3,f4,f5,f6⟩:=fE h
   rw [show t.ks=[] by simpa using f6,bI]
   rw [kB] at hh
   have g0:aS [(wy,t)]=0:=by simp [aS,f1]
   rw [g0,Nat.add_zero]
   refine⟨RTr.one ⟨by rw [hft];exact hst,?_,?_,fun z=>(by simp only at z;rw [f1] at z;cases z),fun z=>(by simp only at z;rw [f1] at z;cases z)⟩,e,hh,hI⟩
   ·simp only
    unfold aN
    rw [f1,f2,f3,f4,f5,if_neg (by decide),if_neg (by decide),if_neg (by decide),if_neg (by decide)]
    exact⟨rfl,rfl,rfl,rfl⟩
   ·simp only
    rw [show t.ks=[] by simpa using f6,f1]
    rfl
  ·rw [if_neg (by simpa using hl)] at h
   obtain⟨f1,f2,f3,f4,f5,f6⟩:=fE h
   rw [iR] at f6
   have hlen:t.ks.length=l.length:=by have:=congrArg List.length f6;simpa using this
   have h2:2<=l.length:=by
    have:l.length≠0:=fun z=>hl (List.eq_nil_of_length_eq_zero z)
    omega
   obtain⟨r1,e',k1,i1⟩:=rY (par:=t) (wy:=wy) l t.ks 0 gr o e rest ih f6 hw3 hs (fun j y hy=>by
    have hy':=hw2 j y hy
    rw [Nat.zero_add]
    simp only [cB,cP]
    rw [f1,if_pos rfl,hlen]
    have hwy:=(pE l).1 hw3 y (List.mem_of_getElem? hy)
    have hj:=(List.getElem?_eq_some_iff.1 hy).1
    cases y with
    | lf k n rs=>
     rw [wf] at hwy
     rcases hwy with rfl | rfl | rfl | rfl
     ·simp [Ps.kd,cE]
     ·have:=hy'.2.1 rfl
      subst this
      simp [Ps.kd]
     ·have:=hy'.2.2 rfl
      have e3:((j:Int)==(l.length:Int) - 1)=true:=by rw [beq_iff_eq];omega
      rw [e3]
      simp [Ps.kd]
     ·simp [Ps.kd,cE]
    | grp=>simp [Ps.kd,cE]
    | rep=>simp [Ps.kd,cE]
    | row=>simp [mV] at hy'
    | alt=>simp [mV] at hy') (hI.down 0 (by rw [f1];decide)) (hA.down 0 (fun z=>by rw [f1] at z;cases z)) hh
   have g1:aS ((wy,t) :: pps t wy 0 t.ks)=aS (pps t wy 0 t.ks):=by simp [aS,f1]
   rw [g1]
   refine⟨?_,e',k1,i1.up⟩
   refine RTr.append (A:=[(wy,t)]) (RTr.one ⟨by rw [hft];exact hst,?_,?_,fun z=>(by simp only at z;rw [f1] at z;cases z),fun z=>(by simp only at z;rw [f1] at z;cases z)⟩) ?_
   ·simp only
    unfold aN
    rw [f1,f2,f3,f4,f5,if_neg (by decide),if_neg (by decide),if_neg (by decide),if_neg (by decide)]
    exact⟨rfl,rfl,rfl,rfl⟩
   ·simp only
    rw [f1,hlen]
    simp [fL,h2]
   ·have g2:aS [(wy,t)]=0:=by simp [aS,f1]
    rw [g2]
    exact r1
 | alt l=>
  rw [wf] at hw
  obtain⟨hw1,hw2,hw3⟩:=hw
  rw [pfl] at hh hs
  rw [te] at h
  obtain⟨f1,f2,f3,f4,f5,f6⟩:=fE h
  rw [iR] at f6
  have hlen:t.ks.length=l.length:=by have:=congrArg List.length f6;simpa using this
  have hh2:hk gr o e (jF l ++ rest):=by
   cases l with
   | nil=>simp at hw1
   | cons y l=>rw [wT] at hh;rw [jF,List.cons_append,wF];exact hh
  have hs2:∀ s∈jF l,rW c f s:=by
   cases l with
   | nil=>simp at hw1
   | cons y l=>
    rw [wT] at hs
    rw [jF]
    intro s hs'
    rcases List.mem_cons.1 hs' with rfl | hs'
    ·trivial
    ·exact hs s hs'
  obtain⟨r1,e',k1,i1⟩:=rX (par:=t) (wy:=wy) l t.ks 0 gr o e rest ih f6 hw3 hs2 (fun j y hy=>by
   have hy':=wE (hw2 y (List.mem_of_getElem? hy)) ((pE l).1 hw3 y (List.mem_of_getElem? hy))
   simp only [cB,cP]
   rw [f1,if_neg (by decide),if_neg (by decide),if_pos rfl,hy'.1]
   simpa using hy'.2) (hI.down 0 (by rw [f1];decide)) (hA.down 0 (fun z=>by rw [f1] at z;cases z)) hh2
  have g1:aS ((wy,t) :: pps t wy 0 t.ks)=aS (pps t wy 0 t.ks):=by simp [aS,f1]
  rw [g1]
  refine⟨?_,e',k1,i1.up⟩
  refine RTr.append (A:=[(wy,t)]) (RTr.one ⟨by rw [hft];exact hst,?_,?_,fun z=>(by simp only at z;rw [f1] at z;cases z),fun z=>(by simp only at z;rw [f1] at z;cases z)⟩) ?_
  ·simp only
   unfold aN
   rw [f1,f2,f3,f4,f5,if_neg (by decide),if_neg (by decide),if_neg (by decide),if_neg (by decide)]
   exact⟨rfl,rfl,rfl,rfl⟩
  ·simp only
   rw [f1,hlen]
   simp [fL,hw1]
  ·have g2:aS [(wy,t)]=0:=by simp [aS,f1]
   rw [g2]
   exact r1
theorem sG{c f:Bool}{x:Ps}{t:Tr}(h:er t=te x)(hw:wf x)(hs:∀ s∈pfl x,rW c f s)(hh:hk 0 [] [] (pfl x))(h1:x.dp<=40)(h2:x.sz<=2000):aW c f 0 0 (pp [] t)=0:=by
 have hr:=(xQ c f x t [] 0 [] [] [] h hw hs (tA hw) (fun n hn=>by cases hn) (fun y hy=>by cases hy) (by simpa using hh)).1
 have hd:=vQ x t [] h
 have hl:(pp [] t).length<=2000:=by rw [sK,<- xZ,h,xO];exact h2
 refine kY _ 0 0 fun pre y post e=>?_
 obtain⟨l1,l2,l3,l4,l5⟩:=hr pre y post e
 rw [Nat.zero_add] at l2 l5
 rw [Nat.zero_add,Nat.zero_add]
 have hpl:pre.length < 2000:=by rw [e] at hl;simp at hl;omega
 have hdp:y.1.length+1<=40:=by
  have:dL (pp [] t)<=40:=by rw [hd];simpa using h1
  rw [e,gP] at this
  simp only [dL] at this
  omega
 unfold dI
 rw [if_neg (by omega),if_neg (by omega),if_neg (fun z=>z ⟨l1,l2,l3⟩),if_neg (fun z=>by have:=l4 z.1;omega),if_neg (fun z=>z.2 (l5 z.1))]
end Go.Proofs.YticfnglebbakkaaGreatDoor
