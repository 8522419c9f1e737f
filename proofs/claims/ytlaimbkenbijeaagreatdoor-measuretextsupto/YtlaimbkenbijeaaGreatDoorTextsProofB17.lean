/-
  Parts of the proof.
-/
import Derived.Test.YtlaimbkenbijeaaGreatDoorTextsProofA0
import Derived.Test.YtlaimbkenbijeaaGreatDoorTextsProofB16
import Derived.Deep.WholeRow
import Derived.Test.YtlaimbkenbijeaaGreatDoorTextsProofB3
import Derived.Test.YtlaimbkenbijeaaGreatDoorTextsProofB7
import Derived.Test.YtlaimbkenbijeaaGreatDoorTextsProofB8
set_option maxRecDepth 100000
set_option maxHeartbeats 8000000
namespace Go.Proofs.YtlaimbkenbijeaaGreatDoor
open Go Go.RowKit
section
open Go Go.RowKit Go.Shelf
attribute [local go_sem] Oper.semAt_some
def noL:List Value:=[.int .i64 0,.int .i64 0,.int .i64 0,.int .i64 0,.slice none 0 0,.slice none 0 0,.int .i64 0]
def oZ(c f:Bool):List Value:=.bool c :: .bool f :: .int .i64 0 :: .int .i64 0 :: (List.replicate 41 noL).flatten
theorem bN8(j:Nat)(hj:j < 7):∀ (n d:Nat),d < n->((List.replicate n noL).flatten)[d * 7+j]?=noL[j]?
 | 0,d,h=>absurd h (by omega)
 | n+1,0,_=>by rw [List.replicate_succ,List.flatten_cons,aAK,g8,o4 (by simpa [noL] using hj)]
 | n+1,d+1,h=>by
  rw [List.replicate_succ,List.flatten_cons,aAB (by simp [noL];omega),show (d+1) * 7+j - noL.length=d * 7+j by simp [noL];omega]
  exact bN8 j hj n d (by omega)
theorem kY(c f:Bool){d j:Nat}(hd:d < 41)(hj:j < 7):(oZ c f)[4+d * 7+j]?=noL[j]?:=by
 rw [show 4+d * 7+j=d * 7+j+1+1+1+1 by omega]
 exact bN8 j hj 41 d hd
theorem aQ9:Tryz.zeroCells159.toList=oZ false false:=by kernel_rfl
theorem aM6(w1:World)(c f:Bool):Sem.run Tryz.prog (storeCells ⟨w1.heap.size,0,none⟩ ((Tryz.zeroCells159.toList.set 0 (.bool c)).set 1 (.bool f))) (w1.alloc (.cells Tryz.zeroCells159 159))=.ok () (w1.alloc (.cells (oZ c f).toArray 159)):=by
 have e:(Tryz.zeroCells159.toList.set 0 (.bool c)).set 1 (.bool f)=(oZ c f).toArray.toList:=by rw [aQ9];rfl
 rw [e]
 exact run_storeCells_new w1 _ _ _ (by kernel_rfl) (by kernel_rfl) (by cases c <;> cases f <;> kernel_rfl)
theorem bD7(w1:World)(c f:Bool):CB (w1.alloc (.cells (oZ c f).toArray 159)) w1.heap.size c f 0 0 (fun _=>⟨wO,0⟩):=by
 have N:=aE w1 (.cells (oZ c f).toArray 159)
 have at':∀ (i:Nat) (v:Value),(oZ c f)[i]?=some v->(w1.alloc (.cells (oZ c f).toArray 159)).cell? ⟨w1.heap.size,i,none⟩=some v:=fun i v hv=>aA N (i:=i) (by simpa using hv)
 refine⟨⟨_,N⟩,at' 0 _ rfl,at' 1 _ rfl,at' 2 _ rfl,at' 3 _ rfl,fun d hd=>⟨⟨?_,?_,?_,?_,?_,?_⟩,?_⟩⟩
 ·exact at' _ _ ((kY c f hd (j:=0) (by omega)).trans rfl)
 ·exact at' _ _ ((kY c f hd (j:=1) (by omega)).trans rfl)
 ·exact at' _ _ ((kY c f hd (j:=2) (by omega)).trans rfl)
 ·exact at' _ _ ((kY c f hd (j:=3) (by omega)).trans rfl)
 ·exact at' _ _ ((kY c f hd (j:=4) (by omega)).trans rfl)
 ·exact at' _ _ ((kY c f hd (j:=5) (by omega)).trans rfl)
 ·exact at' _ _ ((kY c f hd (j:=6) (by omega)).trans rfl)
noncomputable def aY (c f:Bool):Nat->Nat->List El->Int
 | _,_,[]=>0
 | ah,gr,x :: r=>if cG c f x.1 x.2 ah gr≠0 then cG c f x.1 x.2 ah gr else aY c f (ah+1) (gr+(if x.2.f.k=7 then 1 else 0)) r
theorem aP7{P:Tr->Prop}(t:Tr):∀ p,bY P t->(∀ x∈p,P x.1)->∀ z∈pp p t,∀ x∈z.1,P x.1:=by
 refine Tr.ind (P:=fun t=>∀ p,bY P t->(∀ x∈p,P x.1)->∀ z∈pp p t,∀ x∈z.1,P x.1) (fun t ih p he hp z hz=>?_) t
 rw [cF] at hz
 rcases aAW.1 hz with q | q
 ·subst q;exact hp
 ·have:∀ (ks:List Tr) (i:Nat),(∀ u∈ks,u∈t.ks)->z∈pps t p i ks->∀ x∈z.1,P x.1:=by
   intro ks
   induction ks with
   | nil=>intro i _ h;rw [cA] at h;cases h
   | cons u us ih2=>
    intro i hs h
    rw [bL] at h
    rcases n9.1 h with g | g
    ·exact ih u (hs u (m8 ..)) _ (bI he (hs u (m8 ..))) (fun x hx=>by
      rcases aAW.1 hx with e | e
      ·rw [e];exact((bE t).1 he).1
      ·exact hp x e) z g
    ·exact ih2 (i+1) (fun v hv=>hs v (n6 _ hv)) g
  exact this t.ks 0 (fun _ h=>h) q
structure Inv(A:Nat->eC)(pre:List El):Prop where
 bd:∀ d,0<=(A d).s/\(A d).s<=(pre.length:Int)
 nx:∀ t x,pre ++ [x] <+: pp [] t->BA A x.1
theorem Inv.nil:Inv (fun _=>⟨wO,0⟩) []:=⟨fun d=>by simp,fun t x h=>by
 rw [aAG] at h
 rw [rU h]
 exact rfl⟩
theorem Inv.step{A:Nat->eC}{pre:List El}{x:El}(h:Inv A pre)(hb:BA A x.1):Inv (iB A x.1.length x.2.f) (pre ++ [x]):=
 ⟨fun d=>by
  have h1:=h.bd d
  have h2:=h.bd x.1.length
  simp only [iB,pQ,m7,j8,List.length_nil]
  split
  ·simp;omega
  ·split
   ·simp;omega
   ·omega,fun t y hy=>BA.next (uM hy) (SA.enter hb).1 (SA.enter hb).2⟩
structure RI(w:World)(t:Tr)(c f:Bool)(b be:Nat)(pre:List El)(V:World):Prop where
 chk:∃ A,CB V b c f (pre.length:Int) (cL pre:Int) A/\Inv A pre
 pfx:pre <+: pp [] t
 len:pre.length<=2000
 res:V.heap[be]?=some (.cells #[.int .i64 0] 94 (0,0))
 bel:Below w.heap.size w V
 ans:∀ rest,pp [] t=pre ++ rest->aY c f 0 0 (pp [] t)=aY c f pre.length (cL pre) rest
def Ax2(r s B:Nat)(y:Act)(x:El)(a':Act)(W:World):Prop:=∃ bx,BoxN W bx x.2.f/\B<=bx/\a'={ y with tmps:=(y.tmps.setIfInBounds r (.int .i64 ((x.1.length:Int)+1))).setIfInBounds s (.pointer (some ⟨bx,0,none⟩)) }
theorem bG8(r s B:Nat)(y:Act)(x:El)(a':Act):OwnFrom B (fun (_:Unit) W=>Ax2 r s B y x a' W):=fun _ _ _ _ h hg hr=>by
 obtain⟨bx,h1,h2,h3⟩:=h
 exact⟨bx,dA hg hr h1,h2,h3⟩
theorem aU2(n:Nat)(hn:3<=n){w:World}{t:Tr}(c f:Bool)(hta:TB w t) :
  CallsIn Fence.wide n Tryz.prog 53 #[.agg #[.int .i64 t.f.k,.int .i64 t.f.n,.int .i64 t.f.mn,.int .i64 t.f.mx,.slice t.f.rq t.f.rs.length t.f.rc,.slice t.f.kq t.f.kl t.f.kc],.agg #[.bool c,.bool f]] w fun e w'=>e=.returned (.int .i64 (aY c f 0 0 (pp [] t)))/\Below w.heap.size w w':=by
 have hfn:∀ f,Fence.wide.fn f:=fun _=>trivial
 refine callsIn_of_wp_marks Tryz.func53 rfl trivial ?_ rfl
 simp only [Tryz.ntmps53,aBB,j8,List.length_nil,Nat.reduceAdd,Nat.reduceSub,aAY,aBI,aBQ,aBK,aAG,r9]
 refine wpIn_wide.2 ?_
 have HTA:=aD hta
 go_upto_region 1 with fail
 have N0:Hid (BoxN (((w.alloc (.cells #[.int .i64 t.f.k,.int .i64 t.f.n,.int .i64 t.f.mn,.int .i64 t.f.mx,.slice t.f.rq t.f.rs.length t.f.rc,.slice t.f.kq t.f.kl t.f.kc] 25)).alloc (.cells #[.bool c,.bool f] 27)).alloc (.cells #[.int .i64 0] 94)) w.heap.size t.f):=(Below.heap_alloc _ _ _ (by simp;omega)).trans ((Below.heap_alloc _ _ _ (by simp)).trans (aE w _))
 have M0:Hid ((((w.alloc (.cells #[.int .i64 t.f.k,.int .i64 t.f.n,.int .i64 t.f.mn,.int .i64 t.f.mx,.slice t.f.rq t.f.rs.length t.f.rc,.slice t.f.kq t.f.kl t.f.kc] 25)).alloc (.cells #[.bool c,.bool f] 27)).alloc (.cells #[.int .i64 0] 94)).heap[w.heap.size+1]?=some (.cells #[.bool c,.bool f] 27 (0,0))):=(Below.heap_alloc _ _ _ (by simp)).trans (by have:=aE (w.alloc (.cells #[.int .i64 t.f.k,.int .i64 t.f.n,.int .i64 t.f.mn,.int .i64 t.f.mx,.slice t.f.rq t.f.rs.length t.f.rc,.slice t.f.kq t.f.kl t.f.kc] 25)) (.cells #[.bool c,.bool f] 27);rwa [a7] at this)
 have E0:Hid ((((w.alloc (.cells #[.int .i64 t.f.k,.int .i64 t.f.n,.int .i64 t.f.mn,.int .i64 t.f.mx,.slice t.f.rq t.f.rs.length t.f.rc,.slice t.f.kq t.f.kl t.f.kc] 25)).alloc (.cells #[.bool c,.bool f] 27)).alloc (.cells #[.int .i64 0] 94)).heap[w.heap.size+1+1]?=some (.cells #[.int .i64 0] 94 (0,0))):=(by have:=aE ((w.alloc (.cells #[.int .i64 t.f.k,.int .i64 t.f.n,.int .i64 t.f.mn,.int .i64 t.f.mx,.slice t.f.rq t.f.rs.length t.f.rc,.slice t.f.kq t.f.kl t.f.kc] 25)).alloc (.cells #[.bool c,.bool f] 27)) (.cells #[.int .i64 0] 94);rwa [a7,a7] at this)
 have B0:Hid (Below w.heap.size w (((w.alloc (.cells #[.int .i64 t.f.k,.int .i64 t.f.n,.int .i64 t.f.mn,.int .i64 t.f.mx,.slice t.f.rq t.f.rs.length t.f.rc,.slice t.f.kq t.f.kl t.f.kc] 25)).alloc (.cells #[.bool c,.bool f] 27)).alloc (.cells #[.int .i64 0] 94))):=((bz9).alloc (by simp) _).alloc (by simp;omega) _
 generalize (((w.alloc (.cells #[.int .i64 t.f.k,.int .i64 t.f.n,.int .i64 t.f.mn,.int .i64 t.f.mx,.slice t.f.rq t.f.rs.length t.f.rc,.slice t.f.kq t.f.kl t.f.kc] 25)).alloc (.cells #[.bool c,.bool f] 27)).alloc (.cells #[.int .i64 0] 94))=w1 at N0 M0 E0 B0 ⊢
 generalize hbm:w.heap.size+1=bm at M0 E0 ⊢
 generalize hbe:bm+1=be at E0 ⊢
 have m0:w1.cell? ⟨bm,0,none⟩=some (.bool c):=aA M0.out (i:=0) rfl
 have m1:w1.cell? ⟨bm,1,none⟩=some (.bool f):=aA M0.out (i:=1) rfl
 have hst:=aM6 w1 c f
 go_upto_region 2 with fail
 have C2:Hid (CB (w1.alloc (.cells (oZ c f).toArray 159)) w1.heap.size c f 0 0 (fun _=>⟨wO,0⟩)):=bD7 w1 c f
 have K2:Below w1.heap.size w1 (w1.alloc (.cells (oZ c f).toArray 159)):=bz9
 have N2:Hid (BoxN (w1.alloc (.cells (oZ c f).toArray 159)) w.heap.size t.f):=(K2.block _ (aB N0.out)).trans N0.out
 have E2:Hid ((w1.alloc (.cells (oZ c f).toArray 159)).heap[be]?=some (.cells #[.int .i64 0] 94 (0,0))):=(K2.block _ (aB E0.out)).trans E0.out
 have B2:Hid (Below w.heap.size w (w1.alloc (.cells (oZ c f).toArray 159))):=aJ B0.out K2 lz9
 have hbb:w.heap.size<=w1.heap.size:=B0.out.size
 have hbe2:w.heap.size<=be:=by omega
 have hbl:=aB E0.out
 generalize (w1.alloc (.cells (oZ c f).toArray 159))=w2 at C2 K2 N2 E2 B2 ⊢
 clear hst m0 m1 N0 M0 E0 K2
 generalize w1.heap.size=b at C2 hbb hbl ⊢
 obtain⟨c0,c1,c2,c3,c4,c5⟩:=N2.out.six
 simp only [g8] at c1 c2 c3 c4 c5
 go_wp2_with (go_at_call 99;(with_reducible refine(aJ0 _ _).mono ?_);rintro e w3 ⟨rfl,rfl⟩)
 have K3:Below w2.heap.size w2 (w2.alloc (.cells #[.int .i64 t.f.k,.int .i64 t.f.n,.int .i64 t.f.mn,.int .i64 t.f.mx,.slice t.f.rq t.f.rs.length t.f.rc,.slice t.f.kq t.f.kl t.f.kc] 25)):=bz9
 have N3:BoxN (w2.alloc (.cells #[.int .i64 t.f.k,.int .i64 t.f.n,.int .i64 t.f.mn,.int .i64 t.f.mx,.slice t.f.rq t.f.rs.length t.f.rc,.slice t.f.kq t.f.kl t.f.kc] 25)) w2.heap.size t.f:=aE w2 _
 have C3:=C2.out.kept K3
 have E3:=(K3.block _ (aB E2.out)).trans E2.out
 have B3:=aJ B2.out K3 lz9
 generalize (w2.alloc (.cells #[.int .i64 t.f.k,.int .i64 t.f.n,.int .i64 t.f.mn,.int .i64 t.f.mx,.slice t.f.rq t.f.rs.length t.f.rc,.slice t.f.kq t.f.kl t.f.kc] 25))=w4 at K3 N3 C3 E3 B3 ⊢
 generalize w2.heap.size=bn at N3 ⊢
 clear c0 c1 c2 c3 c4 c5 C2 N2 E2 B2 K3
 have L4:=C3.lt
 have L5:=aB E3
 refine(wpIn_wide (n:=n)).1 ?_
 refine bL0 (by omega) 13 14 bn rfl rfl N3 HTA.out (CK.of_below B3) (RI w t c f b be) (fun k pre V=>k=.ret/\V.heap[be]?=some (.cells #[.int .i64 (aY c f 0 0 (pp [] t))] 94 (0,0))/\Below w.heap.size w V)
  ?_ ?_ (fun pre W h=>by have:=h.len;omega) ⟨⟨_,C3,Inv.nil⟩,aCA,by simp,E3,B3,fun rest hr=>by rw [hr];rfl⟩ (Ax2 6 7 w4.heap.size) (bG8 _ _ _) ?_ ?_ ?_ ?_
 ·rintro pre V V' row h hg hr
  obtain⟨A,hA,hI⟩:=h.chk
  exact⟨⟨A,hA.row hg hr,hI⟩,h.pfx,h.len,dA hg hr h.res,nC h.bel lz9 B3.size hg hr,h.ans⟩
 ·rintro k pre V V' row ⟨h0,h1,h2⟩ hg hr
  exact⟨h0,dA hg hr h1,nC h2 lz9 B3.size hg hr⟩
 ·intro l pre x V K _ _ hs _ hK
  have HS:=aD hs
  simp only [gB]
  gi_wp2
  exact hK _ _ (bz9) ⟨_,aE V _,HS.out,rfl⟩
 ·rintro l pre x a' V h hck hsz ht ⟨bx,hbx,hbl2,rfl⟩
  obtain⟨A,hA,hI⟩:=h.chk
  have hba:=hI.nx t x ht
  obtain⟨rest,hrest⟩:=ht
  have hin:x∈pp [] t:=by rw [<- hrest];simp
  have hway:∀ y∈x.1,NB w y.1:=aP7 t [] HTA.out (fun _ z=>by cases z) x hin
  have hkl:(A x.1.length).f.kl<=9223372036854775807:=by
   cases hx:x.1 with
   | nil=>
    rw [hx] at hba
    have:(A 0).f=wO:=hba
    rw [List.length_nil,this]
    simp [wO]
   | cons y ys=>
    rw [hx] at hba hway
    have e:=hba.1
    rw [j8,e]
    have hy:=hway y (m8 ..)
    obtain⟨q,cap,-,hm,-⟩:=hy.k.slice
    show y.1.f.kl<=_
    rw [hy.kl]
    exact hm
  have hbd:=hI.bd x.1.length
  have hdp:=uN (t:=t) (pre:=pre) (x:=x) ⟨rest,hrest⟩
  have hlen:=h.len
  have hgl:=aJ8 pre
  have LK:=aD (bL6 (t:=x.2) hA hba (fun y hy=>(hway y hy).kl) hkl ⟨hbd.1,by omega⟩ ((HTA.out.at hin).node.ck hck) hlen (by omega) (by omega))
  have HE:=aD (show pp [] t=pre ++ x :: rest by rw [<- hrest];simp)
  have HA2:=aD (h.ans (x :: rest) HE.out)
  have HH:=aD h
  have HBA:=aD hba
  have HI:=aD hI
  obtain⟨k0,k1,k2,k3,k4,k5⟩:=hbx.six
  simp only [g8] at k1 k2 k3 k4 k5
  obtain⟨m,hm⟩:∃ m,cG c f x.1 x.2 pre.length (cL pre)=m:=⟨_,rfl⟩
  have HM:=aD hm
  have HBX:=aD hbx
  clear h hck hsz hbx hba hrest hin hway hkl hbd hm hI hgl
  simp only [gB]
  by_cases hm0:m=0
  ·have e0:(m != 0)=false:=by simpa using hm0
   gi_wp2
   refine⟨(fun z=>by cases z),(CallsIn.inRound l (callsIn_wide.2 (LK.out))).mono ?_⟩
   rintro e V5 ⟨he5,h51,h52⟩
   rw [HM.out] at he5 h51
   subst he5
   have X5:=aD (h51 hm0)
   have F5:=aD h52
   clear h51 h52
   gi_wp2
   subst hm0
   have hl2:pre.length < 2000:=by
    rcases Nat.lt_or_ge pre.length 2000 with z | z
    ·exact z
    ·have:=HM.out
     unfold cG at this
     rw [if_pos (by omega)] at this
     cases this
   refine⟨F5.out.keepsFrom (fun k hk=>by omega),F5.out.ckeep (fun k hk=>by rintro (z | z) <;> omega),⟨⟨_,?_,HI.out.step HBA.out⟩,?_,by simp;omega,(F5.out.block _ (aB HH.out.res) (by omega)).trans HH.out.res,bC HH.out.bel F5.out lz9 (fun k e=>by omega),fun rest' hr'=>?_⟩⟩
   ·have:=X5.out
    rw [kA,Int.natCast_add,show (((if x.2.f.k=7 then 1 else 0:Nat)):Int)=(if x.2.f.k=7 then 1 else 0) by split <;> rfl]
    simpa using this
   ·exact⟨rest,by rw [HE.out];simp⟩
   ·rw [HE.out,t9,List.append_cancel_left_eq] at hr'
    simp at hr'
    subst hr'
    rw [HA2.out]
    simp only [aY,HM.out,ne_eq,not_true,if_false,m7,j8,List.length_nil,kA]
  ·have e0:(m != 0)=true:=by simpa using hm0
   have HR:=aD (show m=aY c f 0 0 (pp [] t) by rw [HA2.out];simp only [aY,HM.out,ne_eq,hm0,not_false_eq_true,if_true])
   gi_wp2
   refine⟨(fun z=>by cases z),(CallsIn.inRound l (callsIn_wide.2 (LK.out))).mono ?_⟩
   rintro e V5 ⟨he5,h51,h52⟩
   rw [HM.out] at he5
   subst he5
   have F5:=aD h52
   have E5:V5.heap[be]?=some (.cells #[.int .i64 0] 94 (0,0)):=(h52.block _ (aB HH.out.res) (by omega)).trans HH.out.res
   have fz:=aG E5 0
   have cz:=aA E5 (i:=0) rfl
   have E6:=aD (aO E5 0 (.int .i64 m))
   have F6:=aD ((Fr.refl (fun z=>z=be) V5).setCell (p:=⟨be,0,none⟩) rfl (.int .i64 m))
   clear h51 h52 E5
   gi_wp2
   refine⟨(F5.out.keepsFrom (fun k hk=>by omega)).trans (F6.out.keepsFrom (fun k hk=>by omega)),rfl,by rw [<- HR.out];exact E6.out,bC (bC HH.out.bel F5.out lz9 (fun k e=>by omega)) F6.out lz9 (fun k e=>by omega)⟩
 ·rintro D V hD h hck hK
  have e1:aY c f 0 0 (pp [] t)=0:=by rw [h.ans [] (by simp)];rfl
  have HH:=aD h
  have HK:=aD hK
  have HD:=aD hD
  have fz:=aG h.res 0
  have cz:=aA h.res (i:=0) rfl
  have E6:=aD (aO h.res 0 (.int .i64 0))
  have F6:=aD ((Fr.refl (fun z=>z=be) V).setCell (p:=⟨be,0,none⟩) rfl (.int .i64 0))
  clear h hck hK hD
  simp only [gM]
  go_wp2
  have hDb:be≠D:=by have:=HD.out;omega
  have cw:((V.setCell ⟨be,0,none⟩ (.int .i64 0)).putObj D (.deferred none)).cell? ⟨be,0,none⟩=some (.int .i64 0):=aA ((World.putObj_heap_other hDb).trans E6.out) (i:=0) rfl
  refine⟨by simp,.inl ⟨_,_,rfl,run_takeDeferred ((F6.out.block _ (aB HK.out) (by have:=HD.out;omega)).trans HK.out),?_⟩⟩
  exact⟨.int .i64 (aY c f 0 0 (pp [] t)),by simp [results,Tryz.results53,go_sem,cw,e1],rfl,pF _ (bC HH.out.bel F6.out lz9 (fun k e=>by omega)) (i8 B3.size HD.out)⟩
 ·rintro D k pre V hD hpre ⟨rfl,h1,h2⟩ hK
  refine(wpIn_wide (n:=n)).2 ?_
  have H1:=aD h1
  have H2:=aD h2
  have HK:=aD hK
  have hDb:be≠D:=by omega
  have cw:(V.putObj D (.deferred none)).cell? ⟨be,0,none⟩=some (.int .i64 (aY c f 0 0 (pp [] t))):=aA ((World.putObj_heap_other hDb).trans H1.out) (i:=0) rfl
  clear h1 h2 hK
  simp only [gM]
  go_wp2
  refine⟨by simp,.inl ⟨_,_,rfl,run_takeDeferred HK.out,?_⟩⟩
  exact⟨.int .i64 (aY c f 0 0 (pp [] t)),by simp [results,Tryz.results53,go_sem,cw],rfl,pF _ H2.out (i8 B3.size hD)⟩
theorem eE{w:World}{t:Tr}(c f:Bool)(hta:TB w t):Calls Tryz.prog 53 #[.agg #[.int .i64 t.f.k,.int .i64 t.f.n,.int .i64 t.f.mn,.int .i64 t.f.mx,.slice t.f.rq t.f.rs.length t.f.rc,.slice t.f.kq t.f.kl t.f.kc],.agg #[.bool c,.bool f]] w fun e w'=>e=.returned (.int .i64 (aY c f 0 0 (pp [] t)))/\Below w.heap.size w w':=callsIn_wide.1 (aU2 3 (by decide) c f hta)
end
theorem mS{c f:Bool}:∀ (L:List El) (ah gr:Nat),aY c f ah gr L=0->∀ pre x post,L=pre ++ x :: post->cG c f x.1 x.2 (ah+pre.length) (gr+cL pre)=0
 | [],_,_,_,pre,x,post,h=>by cases pre <;> cases h
 | y :: L,ah,gr,hr,pre,x,post,h=>by
  unfold aY at hr
  by_cases hy:cG c f y.1 y.2 ah gr=0
  ·rw [if_neg (by simpa using hy)] at hr
   cases pre with
   | nil=>
    simp at h
    obtain⟨rfl,rfl⟩:=h
    simpa [cL] using hy
   | cons z pre=>
    simp at h
    obtain⟨rfl,rfl⟩:=h
    have:=mS (pre ++ x :: post) (ah+1) (gr+(if y.2.f.k=7 then 1 else 0)) hr pre x post rfl
    simp only [j8,cL]
    rw [show ah+(pre.length+1)=ah+1+pre.length by omega,show gr+((if y.2.f.k=7 then 1 else 0)+cL pre)=gr+(if y.2.f.k=7 then 1 else 0)+cL pre by omega]
    exact this
  ·rw [if_pos hy] at hr
   exact absurd hr hy
theorem bD5{ks:List Tr}(s:Way)(h:∀ t∈ks,∀ p,pp (p ++ s) t=(pp p t).map fun z=>(z.1 ++ s,z.2))(par:Tr)(p:Way)(i:Nat):pps par (p ++ s) i ks=(pps par p i ks).map fun z=>(z.1 ++ s,z.2):=by
 induction ks generalizing i with
 | nil=>rw [cA,cA];rfl
 | cons t ts ih=>rw [bL,bL,aAR,<- ih (fun u hu=>h u (n6 _ hu)),<- h t (m8 ..)];rfl
theorem bL3(s:Way)(t:Tr):∀ p,pp (p ++ s) t=(pp p t).map fun z=>(z.1 ++ s,z.2):=by
 refine Tr.ind (P:=fun t=>∀ p,pp (p ++ s) t=(pp p t).map fun z=>(z.1 ++ s,z.2)) (fun t ih p=>?_) t
 rw [cF,cF,r7,bD5 s ih]
theorem rY{pk seen k:Int}{kl:Nat}(h:eW pk seen kl k=true):eX k=true:=by
 have ht:cK k=true->eX k=true:=by
  intro z
  simp [cK] at z
  simp [eX]
  omega
 unfold eW at h
 split at h
 ·simp at h
  rcases h with (z | z) | z
  ·exact ht z
  ·obtain⟨rfl,-⟩:=z;rfl
  ·obtain⟨rfl,-⟩:=z;rfl
 ·split at h
  ·exact ht h
  ·split at h
   ·simp at h;exact h.1
   ·exact h
theorem mR{c f:Bool}{L:List El}(hr:aY c f 0 0 L=0):L.length<=2000:=by
 rcases Nat.lt_or_ge 2000 L.length with h | h
 ·exfalso
  have e:L=L.take 2000 ++ L[2000] :: L.drop 2001:=by
   have:=aBG 2000 L
   rw [aAH h] at this
   exact this.symm
  have:=mS L 0 0 hr _ _ _ e
  rw [show 0+(L.take 2000).length=2000 by rw [o9];omega] at this
  unfold cG at this
  rw [if_pos rfl] at this
  cases this
 ·exact h
theorem yZ{c f:Bool}{p:Way}{t:Tr}{ah gr:Nat}(h:cG c f p t ah gr=0)(hk:t.f.k=7):t.f.n=(gr:Int)+1/\t.f.n<=30:=by
 unfold cG at h
 split at h
 ·cases h
 ·split at h
  ·cases h
  ·split at h
   ·cases h
   ·rename_i n3
    have hf:=(Classical.not_not.1 n3).2.1
    split at h
    ·cases h
    ·rename_i n4
     refine⟨?_,Int.not_lt.1 fun z=>n4 ⟨hk,z⟩⟩
     unfold bG at hf
     rw [if_neg (by omega),if_pos hk] at hf
     exact hf.1
section
variable {T:Type} {ρ:dH T}
def GpL(c:Nat)(L:List El):Prop:=∀ pre x post,L=pre ++ x :: post->(x.2.f.k=7->x.2.f.n=((c+cL pre:Nat):Int)+1)/\(x.2.f.k=8->1<=x.2.f.n/\x.2.f.n<=((c+cL pre:Nat):Int)/\eO x.1 x.2.f.n=false)
theorem pY(x:El)(l:List El):cL (x :: l)=(if x.2.f.k=7 then 1 else 0)+cL l:=by
 rw [show x :: l=[x] ++ l from rfl,fS,show [x]=[] ++ [x] from rfl,kA]
 simp [cL]
theorem GpL.left{c:Nat}{a b:List El}(h:GpL c (a ++ b)):GpL c a:=fun pre x post e=>h pre x (post ++ b) (by rw [e];simp)
theorem GpL.right{c:Nat}{a b:List El}(h:GpL c (a ++ b)):GpL (c+cL a) b:=fun pre x post e=>by
 have:=h (a ++ pre) x post (by rw [e];simp)
 rw [fS,<- aAI] at this
 exact this
theorem GpL.head{c:Nat}{x:El}{b:List El}(h:GpL c (x :: b)):(x.2.f.k=7->x.2.f.n=((c:Nat):Int)+1)/\(x.2.f.k=8->1<=x.2.f.n/\x.2.f.n<=((c:Nat):Int)/\eO x.1 x.2.f.n=false):=by
 have:=h [] x b rfl
 rw [show cL []=0 from rfl,aBP] at this
 exact this
theorem GpL.kids{c:Nat}{p:Way}{t:Tr}(h:GpL c (pp p t)):GpL (c+(if t.f.k=7 then 1 else 0)) (pps t p 0 t.ks):=by
 rw [cF,show (p,t) :: pps t p 0 t.ks=[(p,t)] ++ pps t p 0 t.ks from rfl] at h
 have:=h.right
 rwa [pY,show cL []=0 from rfl,aBP] at this
theorem aW8(p:Way)(t:Tr):cL (pp p t)=(if t.f.k=7 then 1 else 0)+cL (pps t p 0 t.ks):=by rw [cF,pY]
theorem aU3{c f:Bool}{t:Tr}(h:aY c f 0 0 (pp [] t)=0)(h1:∀ x∈pp [] t,x.2.f.k=8->1<=x.2.f.n):GpL 0 (pp [] t):=by
 intro pre x post e
 have q:=mS _ 0 0 h pre x post e
 refine⟨fun hk=>?_,fun hk=>?_⟩
 ·have:=(yZ q hk).1
  simpa using this
 ·refine⟨h1 x (by rw [e];simp) hk,?_⟩
  unfold cG at q
  split at q
  ·cases q
  ·split at q
   ·cases q
   ·split at q
    ·cases q
    ·split at q
     ·cases q
     ·split at q
      ·cases q
      ·rename_i n5
       have:=Classical.not_not.1 (fun z=>n5 ⟨hk,z⟩)
       exact⟨by simpa using this.2,this.1⟩
theorem aF3(t:Tr):∀ (p:Way) (c:Nat) (g:Int->T),GpL c (pp p t)->∀ n:Int,(n<=c\/((c+cL (pp p t):Nat):Int) < n)->(ev ρ g t).2 n=g n:=by
 refine Tr.ind (P:=fun t=>∀ (p:Way) (c:Nat) (g:Int->T),GpL c (pp p t)->∀ n:Int,(n<=c\/((c+cL (pp p t):Nat):Int) < n)->(ev ρ g t).2 n=g n) (fun t ih p c g hg n hn=>?_) t
 have hl:∀ (ks:List Tr) (i c:Nat) (g:Int->T),(∀ u∈ks,u∈t.ks)->GpL c (pps t p i ks)->∀ n:Int,(n<=c\/((c+cL (pps t p i ks):Nat):Int) < n)->(evs ρ g ks).2 n=g n:=by
  intro ks
  induction ks with
  | nil=>intro i c g _ _ n _;rw [cX]
  | cons u us ih2=>
   intro i c g hs hg n hn
   rw [bL] at hg hn
   rw [fS] at hn
   rw [dX]
   show (evs ρ (ev ρ g u).2 us).2 n=g n
   rw [ih2 (i+1) _ _ (fun v hv=>hs v (n6 _ hv)) hg.right n (by omega)]
   exact ih u (hs u (m8 ..)) _ c g hg.left n (by omega)
 have hd:=(show GpL c ((p,t) :: pps t p 0 t.ks) by rw [<- cF];exact hg).head.1
 rw [aW8] at hn
 rw [jN]
 by_cases hk:t.f.k=7
 ·rw [if_pos hk] at hn ⊢
  have hd:=hd hk
  rw [nM _ _ (by intro e;rw [e] at hn;simp only at hd;omega)]
  have hks:=hg.kids
  rw [if_pos hk] at hks
  exact hl t.ks 0 _ g (fun _ h=>h) hks n (by omega)
 ·rw [if_neg hk] at hn ⊢
  have hks:=hg.kids
  rw [if_neg hk] at hks
  exact hl t.ks 0 _ g (fun _ h=>h) hks n (by omega)
def bA0(ρ:dH T):Prop:=∀ f ks xs g g',(f.k=8->g f.n=g' f.n)->ρ f ks xs g=ρ f ks xs g'
theorem vE(par:Tr)(i:Nat)(p:Way)(n:Int):eO ((par,i) :: p) n=((par.f.k==7 && par.f.n==n) || eO p n):=rfl
theorem bN0(hρ:bA0 ρ)(G:Int->T)(t:Tr):∀ (p:Way) (c:Nat) (g:Int->T),GpL c (pp p t)->(∀ n:Int,1<=n->n<=c->eO p n=false->g n=G n)->(∀ n:Int,c < n->n<=((c+cL (pp p t):Nat):Int)->G n=(ev ρ g t).2 n) ->
  (ev ρ g t).1=evG ρ G t/\∀ z∈pp p t,z.2.f.k=7->G z.2.f.n=evG ρ G z.2:=by
 refine Tr.ind (P:=fun t=>∀ (p:Way) (c:Nat) (g:Int->T),GpL c (pp p t)->(∀ n:Int,1<=n->n<=c->eO p n=false->g n=G n)->(∀ n:Int,c < n->n<=((c+cL (pp p t):Nat):Int)->G n=(ev ρ g t).2 n) ->
  (ev ρ g t).1=evG ρ G t/\∀ z∈pp p t,z.2.f.k=7->G z.2.f.n=evG ρ G z.2) (fun t ih p c g hg h1 h2=>?_) t
 have hl:∀ (ks:List Tr) (i c:Nat) (g:Int->T),(∀ u∈ks,u∈t.ks)->GpL c (pps t p i ks)->(∀ n:Int,1<=n->n<=c->eO ((t,0) :: p) n=false->g n=G n) ->
   (∀ n:Int,c < n->n<=((c+cL (pps t p i ks):Nat):Int)->G n=(evs ρ g ks).2 n)->(evs ρ g ks).1=qX ρ G ks/\∀ z∈pps t p i ks,z.2.f.k=7->G z.2.f.n=evG ρ G z.2:=by
  intro ks
  induction ks with
  | nil=>intro i c g _ _ _ _;rw [cX,cA,qX];exact⟨rfl,fun z hz=>by cases hz⟩
  | cons u us ih2=>
   intro i c g hs hg h1 h2
   rw [bL] at hg h2 ⊢
   rw [fS] at h2
   rw [dX] at h2 ⊢
   simp only at h2
   have hus:=fun v hv=>hs v (n6 u hv)
   have hout:∀ n:Int,n<=((c+cL (pp ((t,i) :: p) u):Nat):Int)->(evs ρ (ev ρ g u).2 us).2 n=(ev ρ g u).2 n:=by
    intro n hn
    have:∀ (ks:List Tr) (i c:Nat) (g:Int->T),GpL c (pps t p i ks)->∀ n:Int,n<=c->(evs ρ g ks).2 n=g n:=by
     intro ks
     induction ks with
     | nil=>intro i c g _ n _;rw [cX]
     | cons v vs ih3=>
      intro i c g hg n hn
      rw [bL] at hg
      rw [dX]
      show (evs ρ (ev ρ g v).2 vs).2 n=g n
      rw [ih3 (i+1) _ _ hg.right n (by omega)]
      exact aF3 v _ c g hg.left n (.inl hn)
    exact this us (i+1) _ _ hg.right n hn
   obtain⟨q1,q2⟩:=ih u (hs u (m8 ..)) ((t,i) :: p) c g hg.left h1 (fun n a b=>by rw [h2 n a (by omega)];exact hout n b)
   obtain⟨r1,r2⟩:=ih2 (i+1) (c+cL (pp ((t,i) :: p) u)) (ev ρ g u).2 hus hg.right (fun n a b e=>by
    by_cases hc:n<=c
    ·rw [aF3 u _ c g hg.left n (.inl hc)];exact h1 n a hc e
    ·rw [h2 n (by omega) (by omega),hout n b]) (fun n a b=>h2 n (by omega) (by omega))
   refine⟨?_,fun z hz hk=>?_⟩
   ·show (ev ρ g u).1 :: (evs ρ (ev ρ g u).2 us).1=_
    rw [q1,r1,qX]
   ·rcases n9.1 hz with e | e
    ·exact q2 z e hk
    ·exact r2 z e hk
 have hd:=(show GpL c ((p,t) :: pps t p 0 t.ks) by rw [<- cF];exact hg).head
 rw [aW8] at h2
 rw [jN] at h2
 have hks:=hg.kids
 by_cases hk:t.f.k=7
 ·rw [if_pos hk] at h2 hks
  have hn:=hd.1 hk
  simp only at hn
  obtain⟨q1,q2⟩:=hl t.ks 0 (c+1) g (fun _ h=>h) hks (fun n a b e=>by
   rw [vE,hk] at e
   have hne:t.f.n≠n:=by intro z;rw [z] at e;simp at e
   have he:eO p n=false:=by cases h:eO p n with | false=>rfl | true=>rw [h] at e;simp at e
   exact h1 n a (by omega) he) (fun n a b=>by
    rw [h2 n (by omega) (by omega),if_pos hk,nM _ _ (by omega)])
  have hx:(ev ρ g t).1=evG ρ G t:=by
   rw [iV,qB,q1]
   exact hρ _ _ _ _ _ (fun z=>by omega)
  refine⟨hx,fun z hz hz7=>?_⟩
  rw [cF] at hz
  rcases aAW.1 hz with e | e
  ·subst e
   show G t.f.n=evG ρ G t
   rw [<- hx,h2 t.f.n (by omega) (by omega),if_pos hk,uK]
  ·exact q2 z e hz7
 ·rw [if_neg hk] at h2 hks
  obtain⟨q1,q2⟩:=hl t.ks 0 (c+0) g (fun _ h=>h) hks (fun n a b e=>by
   rw [vE] at e
   have he:eO p n=false:=by cases h:eO p n with | false=>rfl | true=>rw [h] at e;simp at e
   exact h1 n a (by omega) he) (fun n a b=>by
    rw [h2 n (by omega) (by omega),if_neg hk])
  have hx:(ev ρ g t).1=evG ρ G t:=by
   rw [iV,qB,q1]
   refine hρ _ _ _ _ _ (fun z=>?_)
   obtain⟨b1,b2,b3⟩:=hd.2 z
   simp only at b1 b2 b3
   have:∀ (ks:List Tr) (i c:Nat) (g:Int->T),GpL c (pps t p i ks)->∀ n:Int,n<=c->(evs ρ g ks).2 n=g n:=by
    intro ks
    induction ks with
    | nil=>intro i c g _ n _;rw [cX]
    | cons v vs ih3=>
     intro i c g hg n hn
     rw [bL] at hg
     rw [dX]
     show (evs ρ (ev ρ g v).2 vs).2 n=g n
     rw [ih3 (i+1) _ _ hg.right n (by omega)]
     exact aF3 v _ c g hg.left n (.inl hn)
   rw [this t.ks 0 (c+0) g hks _ (by omega)]
   exact h1 _ b1 b2 b3
  refine⟨hx,fun z hz hz7=>?_⟩
  rw [cF] at hz
  rcases aAW.1 hz with e | e
  ·subst e
   exact absurd hz7 hk
  ·exact q2 z e hz7
theorem aX9(hρ:bA0 ρ){t:Tr}(h:GpL 0 (pp [] t))(g:Int->T) :
  (ev ρ g t).1=evG ρ (ev ρ g t).2 t/\∀ z∈pp [] t,z.2.f.k=7->(ev ρ g t).2 z.2.f.n=evG ρ (ev ρ g t).2 z.2:=
 bN0 hρ _ t [] 0 g h (fun n a b _=>by omega) (fun n _ _=>rfl)
end
abbrev Zl:=El × Nat
def arP:Way->Int | []=>0 |(par,_) :: _=>par.f.k
def fiP:Way->Bool | []=>true |(_,i) :: _=>(i:Int)==0
def laP:Way->Bool | []=>true |(par,i) :: _=>(i:Int)==(par.ks.length:Int) - 1
def brP:Way->Bool | []=>true |(par,_) :: r=>if par.f.k=7\/par.f.k=6 then true else if par.f.k=5 then brP r else false
def zc(z:Zl):List Value:=z.1.2.f.cells ++ [.int .i64 ((z.1.1.length:Int)+1),.int .i64 (arP z.1.1),.bool (fiP z.1.1),.bool (laP z.1.1),.bool (brP z.1.1),.int .i64 (z.2:Int)]
theorem lI(z:Zl):(zc z).length=12:=by simp [zc,Fl.cells]
def eB(l:List Zl):List Value:=l.flatMap zc
theorem fT(z:Zl)(l:List Zl):eB (z :: l)=zc z ++ eB l:=by simp [eB]
theorem uD(a b:List Zl):eB (a ++ b)=eB a ++ eB b:=by simp [eB]
theorem kZ:∀ (l:List Zl) (i j:Nat) (z:Zl),l[i]?=some z->j < 12->(eB l)[i * 12+j]?=(zc z)[j]?
 | y :: l,0,j,z,h,hj=>by
  simp at h
  subst h
  rw [fT,aAK,g8,o4 (by rw [lI];exact hj)]
 | y :: l,i+1,j,z,h,hj=>by
  have ih:=kZ l i j z (by simpa using h) hj
  rw [fT,aAB (by rw [lI];omega),<- ih,lI]
  congr 1
  omega
theorem nS:∀ (l:List Zl) (i:Nat) (x:El) (a b:Nat),l[i]?=some (x,a)->(eB l).set (i * 12+11) (.int .i64 (b:Int))=eB (l.set i (x,b))
 | y :: l,0,x,a,b,h=>by
  simp at h
  subst h
  rw [g4,fT,fT,aAK,g8,List.set_append_left _ _ (by rw [lI];omega)]
  congr 1
 | y :: l,i+1,x,a,b,h=>by
  have ih:=nS l i x a b (by simpa using h)
  rw [g3,fT,fT,List.set_append_right _ _ (by rw [lI];omega),<- ih,lI]
  congr 2
  omega
def tl(most:Nat):Nat->List El->List Zl
 | _,[]=>[]
 | k,x :: r=>(x,min (k+x.2.sz) most) :: tl most (k+1) r
theorem pO(most:Nat):∀ (a b:List El) (k:Nat),tl most k (a ++ b)=tl most k a ++ tl most (k+a.length) b
 | [],b,k=>rfl
 | x :: a,b,k=>by
  rw [r9,tl,tl,pO most a b (k+1),r9,j8]
  congr 3
  omega
theorem jU(most:Nat):∀ (a:List El) (k:Nat),(tl most k a).length=a.length
 | [],k=>rfl
 | x :: a,k=>by rw [tl,j8,jU most a,j8]
theorem aS8(most:Nat):∀ (a:List El) (k:Nat),(tl most k a).map (·.1)=a
 | [],k=>rfl
 | x :: a,k=>by rw [tl,r7,aS8 most a]
def nE(most:Nat)(E:List Zl)(x:El):List Zl:=E ++ (tl most E.length (pp x.1 x.2)).take (most - E.length)
def dB(most:Nat)(E:List Zl)(p:Way)(t:Tr)(j:Nat):List Zl:=E ++ (((p,t),0) :: tl most (E.length+1) (pps t p 0 (t.ks.take j))).take (most - E.length)
theorem zB{most:Nat}{E:List Zl}{p:Way}{t:Tr}(h:E.length < most):dB most E p t 0=E ++ [((p,t),0)]:=by
 unfold dB
 rw [aAS,cA]
 congr 1
 rw [show most - E.length=(most - E.length - 1)+1 by omega,aBL]
 simp [tl]
theorem oP{most:Nat}{E:List Zl}{p:Way}{t:Tr}{j:Nat}(h:E.length < most):E.length < (dB most E p t j).length/\(dB most E p t j).length<=most/\(dB most E p t j).length=E.length+min (most - E.length) (1+(pps t p 0 (t.ks.take j)).length):=by
 have:(dB most E p t j).length=E.length+min (most - E.length) (1+(pps t p 0 (t.ks.take j)).length):=by
  unfold dB
  rw [m7,o9,j8,jU]
  congr 2
  omega
 refine⟨?_,?_,this⟩
 ·rw [this];omega
 ·rw [this];omega
theorem mX{most:Nat}{E:List Zl}{p:Way}{t:Tr}{j:Nat}(h:E.length < most):(dB most E p t j)[E.length]?=some ((p,t),0):=by
 unfold dB
 rw [aAB lz9,Nat.sub_self,show most - E.length=(most - E.length - 1)+1 by omega,aBL]
 rfl
theorem aC9(most:Nat)(E:List Zl)(z:Zl)(A B:List El)(hf:E.length+(1+A.length) < most) :
  (E ++ (z :: tl most (E.length+1) A)) ++ (tl most (E.length+(1+A.length)) B).take (most - (E.length+(1+A.length)))=E ++ (z :: tl most (E.length+1) (A ++ B)).take (most - E.length):=by
 rw [pO,t9,<- r9]
 congr 1
 have hl:(z :: tl most (E.length+1) A).length=1+A.length:=by rw [j8,jU];omega
 have h1:((z :: tl most (E.length+1) A) ++ tl most (E.length+1+A.length) B).take (most - E.length)=(z :: tl most (E.length+1) A) ++ (tl most (E.length+1+A.length) B).take (most - E.length - (1+A.length)):=by
  rw [List.take_append,j9 (by rw [hl];omega),hl]
 rw [h1,show E.length+1+A.length=E.length+(1+A.length) by omega,show most - E.length - (1+A.length)=most - (E.length+(1+A.length)) by omega]
theorem mW{most:Nat}{E:List Zl}{p:Way}{t u:Tr}{j:Nat}(h:E.length < most)(hu:t.ks[j]?=some u)(hl:(dB most E p t j).length < most):nE most (dB most E p t j) ((t,j) :: p,u)=dB most E p t (j+1):=by
 have hlen:=(oP (p:=p) (t:=t) (j:=j) h).2.2
 have e1:dB most E p t j=E ++ (((p,t),0) :: tl most (E.length+1) (pps t p 0 (t.ks.take j))):=by
  unfold dB
  rw [j9 (by rw [j8,jU];omega)]
 have hfull:(dB most E p t j).length=E.length+(1+(pps t p 0 (t.ks.take j)).length):=by omega
 have e2:dB most E p t (j+1)=E ++ (((p,t),0) :: tl most (E.length+1) (pps t p 0 (t.ks.take j) ++ pp ((t,j) :: p) u)).take (most - E.length):=by
  unfold dB
  rw [lS hu]
 rw [e2]
 unfold nE
 rw [hfull,<- aC9 most E _ _ _ (by omega),<- e1]
theorem aO6{most:Nat}{E:List Zl}{p:Way}{t:Tr}{j:Nat}(h:E.length < most)(hl:¬ (dB most E p t j).length < most):dB most E p t j=dB most E p t t.ks.length:=by
 have hlen:=oP (p:=p) (t:=t) (j:=j) h
 have hbig:most - E.length<=1+(pps t p 0 (t.ks.take j)).length:=by omega
 unfold dB
 congr 1
 have hp:pps t p 0 (t.ks.take j) <+: pps t p 0 (t.ks.take t.ks.length):=by
  rw [aAQ]
  exact wK j
 obtain⟨r,hr⟩:=hp
 rw [<- hr,pO,<- r9,aBW (by rw [j8,jU];omega)]
theorem oQ{most:Nat}{E:List Zl}{p:Way}{t:Tr}(h:E.length < most):(dB most E p t t.ks.length).set E.length ((p,t),(dB most E p t t.ks.length).length)=nE most E (p,t):=by
 have hlen:=(oP (p:=p) (t:=t) (j:=t.ks.length) h).2.2
 have hsz:1+(pps t p 0 (t.ks.take t.ks.length)).length=t.sz:=by
  have:=eJ t p
  rw [cF,j8] at this
  rw [aAQ]
  omega
 rw [hlen,hsz]
 unfold dB nE
 rw [List.set_append_right _ _ lz9,Nat.sub_self,show most - E.length=(most - E.length - 1)+1 by omega,aBL,g4]
 congr 1
 show _=(tl most E.length (pp p t)).take _
 rw [cF,tl,aBL,aAQ]
 congr 2
 show _=min (E.length+t.sz) most
 omega
theorem seg(t:Tr):∀ (p:Way) (j:Nat) (x:El),(pp p t)[j]?=some x->∃ rest,(pp p t).drop j=pp x.1 x.2 ++ rest:=by
 refine Tr.ind (P:=fun t=>∀ (p:Way) (j:Nat) (x:El),(pp p t)[j]?=some x->∃ rest,(pp p t).drop j=pp x.1 x.2 ++ rest) (fun t ih p j x h=>?_) t
 cases j with
 | zero=>
  rw [cF] at h
  simp at h
  subst h
  exact⟨[],by simp⟩
 | succ j=>
  rw [cF] at h ⊢
  rw [aAL] at h
  rw [List.drop_succ_cons]
  have key:∀ (ks:List Tr) (i j:Nat),(∀ u∈ks,u∈t.ks)->(pps t p i ks)[j]?=some x->∃ rest,(pps t p i ks).drop j=pp x.1 x.2 ++ rest:=by
   intro ks
   induction ks with
   | nil=>intro i j _ h;rw [cA] at h;simp at h
   | cons u ks ihk=>
    intro i j hm h
    rw [bL] at h ⊢
    by_cases hj:j < (pp ((t,i) :: p) u).length
    ·rw [o4 hj] at h
     obtain⟨rest,hr⟩:=ih u (hm u m8) _ _ _ h
     refine⟨rest ++ pps t p (i+1) ks,?_⟩
     rw [List.drop_append_of_le_length (by omega),hr,t9]
    ·rw [aAB (by omega)] at h
     obtain⟨rest,hr⟩:=ihk (i+1) _ (fun v hv=>hm v (n6 _ hv)) h
     refine⟨rest,?_⟩
     rw [List.drop_append,List.drop_eq_nil_of_le (by omega),aAG,hr]
  exact key t.ks 0 j (fun _ h=>h) h
theorem aG9{t:Tr}{p:Way}{j:Nat}{x:El}(h:(pp p t)[j]?=some x):j+x.2.sz<=t.sz:=by
 obtain⟨rest,hr⟩:=seg t p j x h
 have:=congrArg List.length hr
 rw [List.length_drop,m7,eJ,eJ] at this
 have hj:=(i5.1 h).1
 rw [eJ] at hj
 omega
theorem anc(t:Tr):∀ (p:Way) (i:Nat) (x:El) (par:Tr) (k:Nat) (r:Way),(pp p t)[i]?=some x->x.1=(par,k) :: r->i=0\/∃ j,j < i/\(pp p t)[j]?=some (r,par)/\i < j+par.sz:=by
 refine Tr.ind (P:=fun t=>∀ (p:Way) (i:Nat) (x:El) (par:Tr) (k:Nat) (r:Way),(pp p t)[i]?=some x->x.1=(par,k) :: r->i=0\/∃ j,j < i/\(pp p t)[j]?=some (r,par)/\i < j+par.sz) (fun t ih p i x par k r h hx=>?_) t
 cases i with
 | zero=>exact .inl rfl
 | succ i=>
  refine .inr ?_
  have hil:=(i5.1 h).1
  rw [eJ] at hil
  rw [cF] at h ⊢
  rw [aAL] at h
  have key:∀ (ks:List Tr) (m i:Nat),(∀ u∈ks,u∈t.ks)->(pps t p m ks)[i]?=some x->(par=t/\r=p)\/∃ j,j < i/\(pps t p m ks)[j]?=some (r,par)/\i < j+par.sz:=by
   intro ks
   induction ks with
   | nil=>intro m i _ h;rw [cA] at h;simp at h
   | cons u ks ihk=>
    intro m i hm h
    rw [bL] at h ⊢
    by_cases hi:i < (pp ((t,m) :: p) u).length
    ·rw [o4 hi] at h
     rcases ih u (hm u m8) _ _ _ _ _ _ h hx with rfl | ⟨j,h1,h2,h3⟩
     ·rw [cF] at h
      simp at h
      subst h
      injection hx with e1 e2
      injection e1 with e1 _
      exact .inl ⟨e1.symm,e2.symm⟩
     ·exact .inr ⟨j,h1,by rw [o4 (by omega)];exact h2,h3⟩
    ·rw [aAB (by omega)] at h
     rcases ihk (m+1) _ (fun v hv=>hm v (n6 _ hv)) h with e | ⟨j,h1,h2,h3⟩
     ·exact .inl e
     ·exact .inr ⟨j+(pp ((t,m) :: p) u).length,by omega,by rw [aAB (by omega),Nat.add_sub_cancel];exact h2,by omega⟩
  rcases key t.ks 0 i (fun _ h=>h) h with⟨rfl,rfl⟩ | ⟨j,h1,h2,h3⟩
  ·exact⟨0,by omega,rfl,by omega⟩
  ·exact⟨j+1,by omega,by rw [aAL];exact h2,by omega⟩
theorem bG9{t:Tr}:∀ (s:Way) (i:Nat) (x:El) (par:Tr) (k:Nat) (r:Way),(pp [] t)[i]?=some x->x.1=s ++ (par,k) :: r->∃ j,j < i/\(pp [] t)[j]?=some (r,par)/\i < j+par.sz
 | [],i,x,par,k,r,h,hx=>by
  rcases anc t [] i x par k r h hx with rfl | q
  ·rw [cF] at h
   simp at h
   subst h
   cases hx
  ·exact q
 |(a,b) :: s,i,x,par,k,r,h,hx=>by
  have h0:i≠0:=fun e=>by
   subst e
   rw [cF] at h
   simp at h
   subst h
   cases hx
  rcases anc t [] i x a b (s ++ (par,k) :: r) h hx with rfl | ⟨j1,h1,h2,h3⟩
  ·exact absurd rfl h0
  ·obtain⟨j,h4,h5,h6⟩:=bG9 s j1 _ par k r h2 rfl
   refine⟨j,by omega,h5,?_⟩
   obtain⟨rest,hr⟩:=seg t [] j _ h5
   have h7:(pp r par)[j1 - j]?=some (s ++ (par,k) :: r,a):=by
    have e:((pp [] t).drop j)[j1 - j]?=some (s ++ (par,k) :: r,a):=by rw [List.getElem?_drop,show j+(j1 - j)=j1 by omega];exact h2
    rw [hr,o4 (by rw [eJ];show j1 - j < par.sz;omega)] at e
    exact e
   have:=aG9 h7
   simp only at this
   omega
theorem aR9{t:Tr}{i j:Nat}{x y:El}(hx:(pp [] t)[i]?=some x)(hy:(pp [] t)[j]?=some y)(h1:j < i)(h2:i < j+y.2.sz):∃ s k,x.1=s ++ (y.2,k) :: y.1:=by
 obtain⟨rest,hr⟩:=seg t [] j y hy
 have e:((pp [] t).drop j)[i - j]?=some x:=by rw [List.getElem?_drop,show j+(i - j)=i by omega];exact hx
 rw [hr,o4 (by rw [eJ];omega),cF,show i - j=(i - j - 1)+1 by omega,aAL] at e
 have hm:=i9 e
 have:∀ (ks:List Tr) (m:Nat),x∈pps y.2 y.1 m ks->∃ s k,x.1=s ++ (y.2,k) :: y.1:=by
  intro ks
  induction ks with
  | nil=>intro m h;rw [cA] at h;cases h
  | cons u ks ih=>
   intro m h
   rw [bL] at h
   rcases n9.1 h with h | h
   ·have hw:=bL3 ((y.2,m) :: y.1) u []
    rw [aAG] at hw
    rw [hw] at h
    obtain⟨z,-,rfl⟩:=aAM.1 h
    exact⟨z.1,m,rfl⟩
   ·exact ih (m+1) h
 exact this _ _ hm
def hU:Nat->List El->List Nat
 | _,[]=>[]
 | k,x :: r=>if x.2.f.k=7 then k :: hU (k+1) r else hU (k+1) r
theorem lX:∀ (k:Nat) (a b:List El),hU k (a ++ b)=hU k a ++ hU (k+a.length) b
 | k,[],b=>by simp [hU]
 | k,x :: a,b=>by
  rw [r9,hU,hU,lX (k+1) a b,j8,show k+1+a.length=k+(a.length+1) by omega]
  split <;> rfl
theorem lW:∀ (k:Nat) (a:List El),(hU k a).length=cL a
 | k,[]=>rfl
 | k,x :: a=>by
  rw [hU]
  simp only [cL]
  split
  ·rw [j8,lW (k+1) a];omega
  ·rw [lW (k+1) a];omega
theorem uZ(a:List El)(x:El):hU 0 (a ++ [x])=hU 0 a ++ (if x.2.f.k=7 then [a.length] else []):=by
 rw [lX,g8]
 congr 1
theorem bE7{a:List El}{j:Nat}{y:El}(h:a[j]?=some y)(hk:y.2.f.k=7):(hU 0 a)[cL (a.take j)]?=some j:=by
 have hj:=(i5.1 h).1
 have e:a=a.take j ++ y :: a.drop (j+1):=by
  have:=aBG j a
  rw [aAH hj,(i5.1 h).2] at this
  exact this.symm
 have hl:(a.take j).length=j:=by rw [o9];omega
 conv=>lhs;arg 1;rw [e]
 rw [lX,<- lW 0 (a.take j),aAB lz9,Nat.sub_self,hU,if_pos hk,hl,g8]
 rfl
theorem oU:∀ (a:List El) (k m j:Nat),(hU k a)[m]?=some j->k<=j/\∃ y,a[j - k]?=some y/\y.2.f.k=7/\cL (a.take (j - k))=m
 | [],k,m,j,h=>by simp [hU] at h
 | x :: a,k,m,j,h=>by
  rw [hU] at h
  by_cases hk:x.2.f.k=7
  ·rw [if_pos hk] at h
   cases m with
   | zero=>
    simp at h
    subst h
    refine⟨n8 _,x,?_,hk,?_⟩
    ·rw [Nat.sub_self];rfl
    ·rw [Nat.sub_self];rfl
   | succ m=>
    rw [aAL] at h
    obtain⟨h1,y,h2,h3,h4⟩:=oU a (k+1) m j h
    refine⟨by omega,y,?_,h3,?_⟩
    ·rw [show j - k=(j - (k+1))+1 by omega,aAL];exact h2
    ·rw [show j - k=(j - (k+1))+1 by omega,aBL,cL,if_pos hk,h4];omega
  ·rw [if_neg hk] at h
   obtain⟨h1,y,h2,h3,h4⟩:=oU a (k+1) m j h
   refine⟨by omega,y,?_,h3,?_⟩
   ·rw [show j - k=(j - (k+1))+1 by omega,aAL];exact h2
   ·rw [show j - k=(j - (k+1))+1 by omega,aBL,cL,if_neg hk,h4];omega
theorem bO5{t:Tr}{pre:List El}{x:El}{N:Nat}{j:Nat}(hp:pre ++ [x] <+: pp [] t)(hnum:∀ (j:Nat) (y:El),pre[j]?=some y->y.2.f.k=7->y.2.f.n=(cL (pre.take j):Int)+1)(hi:pre.length < 2000)(hj:(hU 0 pre)[N]?=some j) :
  ∃ y,pre[j]?=some y/\(eO x.1 ((N:Int)+1)=false ↔ min (j+y.2.sz) 2001<=pre.length):=by
 obtain⟨r,hr⟩:=hp
 obtain⟨-,y,h2,h3,h4⟩:=oU pre 0 N j hj
 rw [Nat.sub_zero] at h2 h4
 have hjl:=(i5.1 h2).1
 have hx:(pp [] t)[pre.length]?=some x:=by rw [<- hr,t9,aAB lz9,Nat.sub_self];rfl
 have hin:∀ (k:Nat) (z:El),k < pre.length->(pp [] t)[k]?=some z->pre[k]?=some z:=fun k z hk hz=>by
  rw [<- hr,t9,o4 hk] at hz
  exact hz
 have hy:(pp [] t)[j]?=some y:=by rw [<- hr,t9,o4 hjl];exact h2
 refine⟨y,h2,?_⟩
 have hny:=hnum j y h2 h3
 rw [h4] at hny
 constructor
 ·intro he
  rcases Nat.lt_or_ge pre.length (min (j+y.2.sz) 2001) with q | q
  ·exfalso
   obtain⟨s,k,e⟩:=aR9 hx hy hjl (by omega)
   have:eO x.1 ((N:Int)+1)=true:=by
    unfold eO
    rw [e,List.any_append,List.any_cons]
    simp [h3,hny]
   rw [he] at this
   cases this
  ·exact q
 ·intro hm
  cases he:eO x.1 ((N:Int)+1) with
  | false=>rfl
  | true=>
   exfalso
   unfold eO at he
   rw [List.any_eq_true] at he
   obtain⟨⟨par,k⟩,hmem,hh⟩:=he
   simp at hh
   obtain⟨s,r',e⟩:=List.append_of_mem hmem
   obtain⟨j',a1,a2,a3⟩:=bG9 s pre.length x par k r' hx e
   have b1:=hin j' _ a1 a2
   have b2:=hnum j' _ b1 hh.1
   have b3:cL (pre.take j')=N:=by
    have:(N:Int)+1=(cL (pre.take j'):Int)+1:=by rw [<- b2];exact hh.2.symm
    omega
   have b4:=bE7 b1 hh.1
   rw [b3,hj] at b4
   injection b4 with b4
   subst b4
   rw [h2] at b1
   injection b1 with b1
   subst b1
   simp only at hm
   omega
theorem kT{c f:Bool}{p:Way}{t:Tr}{ah gr:Nat}(h:cG c f p t ah gr=0):dW p t.f.k=true/\bG c f ((gr:Int)+1) t.f/\iT t.f.k t.ks.length=true:=by
 unfold cG at h
 split at h
 ·cases h
 ·split at h
  ·cases h
  ·split at h
   ·cases h
   ·rename_i n3
    exact Classical.not_not.1 n3
def mP(p:Way)(k:Int):Bool:=
 if arP p=5 then (if k=3 then brP p && fiP p else if k=4 then brP p && laP p else cK k)
 else if arP p=9 then cK k else if arP p=6 then k != 6 else true
def fO(c f:Bool)(t:Tr):Prop:=
 if t.f.k=1\/t.f.k=3\/t.f.k=4 then t.f.n=0/\t.f.mn=0/\t.f.mx=0/\t.f.rs.length=0/\t.ks.length=0
 else if t.f.k=2 then oE c f t.f.rs/\t.f.n=0/\t.f.mn=0/\t.f.mx=0/\t.ks.length=0
 else if t.f.k=5\/t.f.k=6 then 1 < t.ks.length/\t.f.n=0/\t.f.mn=0/\t.f.mx=0/\t.f.rs.length=0
 else if t.f.k=7 then t.ks.length=1/\t.f.mn=0/\t.f.mx=0/\t.f.rs.length=0
 else if t.f.k=8 then (1<=t.f.n/\t.f.n<=9)/\t.f.mn=0/\t.f.mx=0/\t.f.rs.length=0/\t.ks.length=0
 else if t.f.k=9 then fU t.f.mn t.f.mx=true/\t.ks.length=1/\t.f.n=0/\t.f.rs.length=0
 else False
theorem jV{c f:Bool}{t:Tr}{g:Int}:(eX t.f.k=true/\bG c f g t.f/\iT t.f.k t.ks.length=true) ↔ (fO c f t/\(t.f.k=7->t.f.n=g)):=by
 obtain⟨F,ks⟩:=t
 obtain⟨k,n,mn,mx,rs,rq,rc,kq,kl,kc⟩:=F
 simp only [Tr.f,Tr.ks]
 unfold fO bG iT eX
 simp only [Tr.f,Tr.ks]
 generalize oE c f rs=S
 generalize rs.length=rl
 generalize ks.length=kk
 by_cases h1:k=1
 ·subst h1;simp;constructor <;> (intro h;omega)
 by_cases h3:k=3
 ·subst h3;simp;constructor <;> (intro h;omega)
 by_cases h4:k=4
 ·subst h4;simp;constructor <;> (intro h;omega)
 by_cases h2:k=2
 ·subst h2;simp
  constructor
  ·rintro ⟨⟨a,b,c,d⟩,e⟩;exact⟨a,b,c,d,e⟩
  ·rintro ⟨a,b,c,d,e⟩;exact⟨⟨a,b,c,d⟩,e⟩
 by_cases h5:k=5
 ·subst h5;simp;constructor <;> (intro h;omega)
 by_cases h6:k=6
 ·subst h6;simp;constructor <;> (intro h;omega)
 by_cases h7:k=7
 ·subst h7;simp;constructor <;> (intro h;omega)
 by_cases h8:k=8
 ·subst h8;simp;constructor <;> (intro h;omega)
 by_cases h9:k=9
 ·subst h9;simp
  constructor
  ·rintro ⟨⟨a,b,c⟩,e⟩;exact⟨a,e,b,c⟩
  ·rintro ⟨a,e,b,c⟩;exact⟨⟨a,b,c⟩,e⟩
 ·simp [h1,h2,h3,h4,h5,h6,h7,h8,h9]
  intro a b
  omega
theorem rX{p:Way}{k:Int}(hbr:∀ par i r,p=(par,i) :: r->par.f.k=5->brP r=true)(hk:eX k=true):dW p k=mP p k:=by
 cases p with
 | nil=>
  unfold dW mP
  simp [arP,hk]
 | cons y r=>
  obtain⟨par,i⟩:=y
  have e:mP ((par,i) :: r) k=(if par.f.k=5 then (if k=3 then brP ((par,i) :: r) && ((i:Int)==0) else if k=4 then brP ((par,i) :: r) && ((i:Int)==(par.ks.length:Int) - 1) else cK k) else if par.f.k=9 then cK k else if par.f.k=6 then k != 6 else true):=rfl
  rw [e]
  unfold dW eW
  simp only
  by_cases h5:par.f.k=5
  ·rw [if_pos h5,if_pos h5]
   have hb:brP ((par,i) :: r)=true:=by
    have:=hbr par i r rfl h5
    simp [brP,h5,this]
   rw [hb,aCC,aCC]
   by_cases k3:k=3
   ·subst k3
    rw [if_pos rfl]
    simp [cK]
   ·rw [if_neg k3]
    by_cases k4:k=4
    ·subst k4
     rw [if_pos rfl]
     simp [cK]
    ·rw [if_neg k4]
     have e3:(k==3)=false:=by simpa using k3
     have e4:(k==4)=false:=by simpa using k4
     rw [e3,e4,Bool.false_and,Bool.false_and,Bool.or_false,Bool.or_false]
  ·rw [if_neg h5,if_neg h5]
   by_cases h9:par.f.k=9
   ·rw [if_pos h9,if_pos h9]
   ·rw [if_neg h9,if_neg h9]
    by_cases h6:par.f.k=6
    ·rw [if_pos h6,if_pos h6,hk,aCC]
    ·rw [if_neg h6,if_neg h6,hk]
theorem bO7{c f:Bool}{t:Tr}{pre:List El}{x:El}(hp:pre ++ [x] <+: pp [] t)(hr:∀ (j:Nat) (y:El),pre[j]?=some y->cG c f y.1 y.2 j (cL (pre.take j))=0):∀ par i r,x.1=(par,i) :: r->par.f.k=5->brP r=true:=by
 intro par i r hx h5
 obtain⟨rest,he⟩:=hp
 have hxi:(pp [] t)[pre.length]?=some x:=by rw [<- he,t9,aAB lz9,Nat.sub_self];rfl
 have hin:∀ (k:Nat) (z:El),k < pre.length->(pp [] t)[k]?=some z->pre[k]?=some z:=fun k z hk hz=>by
  rw [<- he,t9,o4 hk] at hz
  exact hz
 cases r with
 | nil=>rfl
 | cons y r'=>
  obtain⟨qq,m⟩:=y
  obtain⟨j,a1,a2,a3⟩:=bG9 [] pre.length x par i ((qq,m) :: r') hxi hx
  have l1:=(kT (hr j _ (hin j _ a1 a2))).1
  obtain⟨j0,b1,b2,b3⟩:=bG9 [] j _ qq m r' a2 rfl
  have l2:=(kT (hr j0 _ (hin j0 _ (by omega) b2))).2.2
  have hks:1<=qq.ks.length:=by
   have h1:2<=qq.sz:=by omega
   rw [jG] at h1
   cases hk:qq.ks with
   | nil=>rw [hk,fZ] at h1;omega
   | cons a l=>simp
  have l1':eW qq.f.k (m:Int) qq.ks.length 5=true:=by
   have:dW ((qq,m) :: r') par.f.k=true:=l1
   rw [h5] at this
   exact this
  have l2':iT qq.f.k qq.ks.length=true:=l2
  unfold eW at l1'
  simp only [brP]
  by_cases k5:qq.f.k=5
  ·rw [if_pos k5] at l1';simp [cK] at l1'
  ·rw [if_neg k5] at l1'
   by_cases k9:qq.f.k=9
   ·rw [if_pos k9] at l1';simp [cK] at l1'
   ·by_cases k67:qq.f.k=7\/qq.f.k=6
    ·rw [if_pos k67]
    ·exfalso
     unfold iT at l2'
     rw [if_neg (by omega),if_neg (by omega)] at l2'
     have h0:=eq_of_beq l2'
     omega
def cB(c f:Bool)(p:Way)(t:Tr):Prop:=mP p t.f.k=true/\fO c f t
theorem rW{c f:Bool}{t:Tr}(h:fO c f t):eX t.f.k=true:=(jV (g:=t.f.n)).2 ⟨h,fun _=>rfl⟩ |>.1
theorem aF1{c f:Bool}{p:Way}{t:Tr}{g:Int}(hbr:∀ par i r,p=(par,i) :: r->par.f.k=5->brP r=true):(dW p t.f.k=true/\bG c f g t.f/\iT t.f.k t.ks.length=true) ↔ (cB c f p t/\(t.f.k=7->t.f.n=g)):=by
 constructor
 ·rintro ⟨h1,h2,h3⟩
  have hk:eX t.f.k=true:=by
   cases p with
   | nil=>exact h1
   | cons y r=>exact rY h1
  have:=jV.1 ⟨hk,h2,h3⟩
  exact⟨⟨by rw [<- rX hbr hk];exact h1,this.1⟩,this.2⟩
 ·rintro ⟨⟨h1,h2⟩,h3⟩
  have hk:=rW h2
  have:=jV.2 ⟨h2,h3⟩
  exact⟨by rw [rX hbr hk];exact h1,this.2⟩
def NP(c o:Bool)(t:Tr):Prop:=fO c o t/\(t.f.k=7->1<=t.f.n/\t.f.n<=30)
theorem NP.wf{c o:Bool}{t:Tr}(h:NP c o t)(hk:t.f.k=7):(Lit.int .i64 t.f.n).wf=true:=by
 have:=h.2 hk
 simp [Lit.wf,IntKind.min,IntKind.max,IntKind.signed,IntKind.bits]
 omega
theorem aX8{P:Tr->Prop}(t:Tr):∀ p,(∀ z∈pp p t,P z.2)->bY P t:=by
 refine Tr.ind (P:=fun t=>∀ p,(∀ z∈pp p t,P z.2)->bY P t) (fun t ih p h=>?_) t
 rw [cF] at h
 refine(bE t).2 ⟨h (p,t) (m8 ..),(bX _).2 ?_⟩
 have:∀ (ks:List Tr) (i:Nat),(∀ u∈ks,u∈t.ks)->(∀ z∈pps t p i ks,P z.2)->∀ u∈ks,bY P u:=by
  intro ks
  induction ks with
  | nil=>intro i _ _ u hu;cases hu
  | cons v vs ih2=>
   intro i hs hz u hu
   rw [bL] at hz
   rcases aAW.1 hu with e | e
   ·subst e
    exact ih u (hs u (m8 ..)) _ (fun z q=>hz z (n9.2 (.inl q)))
   ·exact ih2 (i+1) (fun x hx=>hs x (n6 _ hx)) (fun z q=>hz z (n9.2 (.inr q))) u e
 exact this t.ks 0 (fun _ h=>h) (fun z hz=>h z (n6 _ hz))
theorem aT0{p:Way}{k:Int}(h:dW p k=true):eX k=true:=by
 unfold dW at h
 split at h
 ·exact h
 ·exact rY h
theorem gC{c o:Bool}{t:Tr}(h:aY c o 0 0 (pp [] t)=0):bY (NP c o) t:=by
 refine aX8 t [] fun z hz=>?_
 obtain⟨pre,post,e⟩:=List.append_of_mem hz
 have q:=mS _ 0 0 h pre z post e
 obtain⟨h1,h2,h3⟩:=kT q
 have:=(jV (g:=((0+cL pre:Nat):Int)+1)).1 ⟨aT0 h1,by simpa using h2,h3⟩
 refine⟨this.1,fun hk=>?_⟩
 have g:=yZ q hk
 omega
theorem iQ{c o:Bool}{t:Tr}(h:aY c o 0 0 (pp [] t)=0):t.sz<=2000:=by
 rw [<- eJ t []]
 exact mR h
theorem uS{c o:Bool}{t:Tr}(h:aY c o 0 0 (pp [] t)=0):GpL 0 (pp [] t):=by
 refine aU3 h fun x hx hk=>?_
 have:=(((bE x.2).1 (oY t [] (gC h) x hx)).1).1
 unfold fO at this
 rw [hk] at this
 simp at this
 exact this.1.1
section
open Go Go.RowKit Go.Shelf
attribute [local go_sem] Oper.semAt_some
def bks(L:List El):List Int:=L.flatMap fun x=>if x.2.f.k=8 then [x.2.f.n] else []
theorem tC(L:List El)(x:El):bks (L ++ [x])=bks L ++ (if x.2.f.k=8 then [x.2.f.n] else []):=by simp [bks]
theorem aL1(L:List El):(bks L).length<=L.length:=by
 induction L with
 | nil=>simp [bks]
 | cons x L ih=>
  rw [show bks (x :: L)=(if x.2.f.k=8 then [x.2.f.n] else []) ++ bks L from rfl,m7]
  split <;> simp <;> omega
def usd(t:Tr):List Int:=Lib.compact (srt (bks (pp [] t)))
structure UI(w:World)(t:Tr)(bl:Nat)(pre:List (El × Fl))(V:World):Prop where
 ls:∃ (q:Option Addr) (c:Nat),V.heap[bl]?=some (.cells #[.slice q (bks (pre.map (·.1))).length c] 44 (0,0))/\tG w.heap.size V q c (bks (pre.map (·.1)))
 pfx:pre.map (·.1) <+: (pp [] t).take 2000
 bel:Below w.heap.size w V
theorem aV1{V V':World}{row:Option Nat}{B b:Nat}{e:TypeId}{size n:Nat}{v:Value}{xs:List Value}(h:V.ownsRow b e size v n xs)(hg:V.grownBy V' row)(hr:∀ r,row=some r->B<=r/\∃ o:Obj,V.heap[r]?=some o/\o.isCells=false):V'.ownsRow b e size v n xs:=by
 refine⟨h.1,?_⟩
 rcases h.2 with z | ⟨g,cap,cur,z1,z2,z3,z4⟩
 ·exact .inl z
 ·exact .inr ⟨g,cap,cur,z1,z2,dA hg hr z3,z4⟩
theorem UI.row{w:World}{t:Tr}{bl B:Nat}{pre:List (El × Fl)}{V V':World}{row:Option Nat}(h:UI w t bl pre V)(hn:w.heap.size<=B)(hg:V.grownBy V' row)(hr:∀ r,row=some r->B<=r/\∃ o:Obj,V.heap[r]?=some o/\o.isCells=false):UI w t bl pre V':=by
 obtain⟨⟨q,c,h1,h2⟩,h3,h4⟩:=h
 exact⟨⟨q,c,dA hg hr h1,aV1 h2 hg hr⟩,h3,nC h4 lz9 hn hg hr⟩
theorem UI.len{w:World}{t:Tr}{bl:Nat}{pre:List (El × Fl)}{V:World}(h:UI w t bl pre V):pre.length<=2000:=by
 have:=h.pfx.length_le
 rw [o8,o9] at this
 omega
theorem bI9{w V w6:World}{t:Tr}{B bl:Nat}{pre:List (El × Fl)}{x:El × Fl}{V0:World}{q q6:Option Addr}{c c6:Nat}{ob:Obj}(hn:w.heap.size<=bl)(hblB:bl < B)(hk8:x.1.2.f.k=8)
  (h2:V.heap[bl]?=some (.cells #[.slice q (bks (pre.map (·.1))).length c] 44 (0,0))) (h3:tG w.heap.size V q c (bks (pre.map (·.1)))) (hpfx:(pre ++ [x]).map (·.1) <+: (pp [] t).take 2000) (hbel:Below w.heap.size w V) (hk0:KXi B x V0 V)
  (o6:w6.ownsRow w.heap.size 3 1 (.slice q6 ((bks (pre.map (·.1))).length+1) c6) ((bks (pre.map (·.1))).length+1) ((bks (pre.map (·.1))).map (Value.int .i64) ++ [.int .i64 x.1.2.f.n])) (hg:(V.alloc ob).grownBy w6 (Value.slice q (bks (pre.map (·.1))).length c).ownBlock) :
  KeepsFrom B V (w6.setCell ⟨bl,0,none⟩ (.slice q6 ((bks (pre.map (·.1))).length+1) c6))/\KXi B x V0 (w6.setCell ⟨bl,0,none⟩ (.slice q6 ((bks (pre.map (·.1))).length+1) c6))/\UI w t bl (pre ++ [x]) (w6.setCell ⟨bl,0,none⟩ (.slice q6 ((bks (pre.map (·.1))).length+1) c6)):=by
 have F6:Fr (fun z=>(Value.slice q (bks (pre.map (·.1))).length c).ownBlock=some z) V w6:=((Fr.refl _ V).alloc ob).grown hg fun k hk=>hk
 have FV:Fr (fun z=>z=bl\/(Value.slice q (bks (pre.map (·.1))).length c).ownBlock=some z) V (w6.setCell ⟨bl,0,none⟩ (.slice q6 ((bks (pre.map (·.1))).length+1) c6)):=(F6.mono fun k hk=>.inr hk).setCell (p:=⟨bl,0,none⟩) (.inl rfl) _
 have lo:∀ k,(k=bl\/(Value.slice q (bks (pre.map (·.1))).length c).ownBlock=some k)->w.heap.size<=k:=fun k hk=>by
  rcases hk with rfl | hk
  ·exact hn
  ·exact(aH h3 hk).1
 have bl6:w6.heap[bl]?=some (.cells #[.slice q (bks (pre.map (·.1))).length c] 44 (0,0)):=cO F6 h2 (fun hk=>aP h3 h2 (by decide) hk)
 have bl8:=aO bl6 0 (.slice q6 ((bks (pre.map (·.1))).length+1) c6)
 have hbk:bks ((pre ++ [x]).map (·.1))=bks (pre.map (·.1)) ++ [x.1.2.f.n]:=by rw [aAR,r7,List.map_nil,tC,if_pos hk8]
 refine⟨⟨FV.size,fun k o hk ho hc=>(FV.block k (aB ho) fun hs=>?_).trans ho⟩,⟨i8 hk0.size FV.size,fun k cur ty fr hk ht hc=>?_⟩,⟨⟨q6,c6,?_,?_⟩,hpfx,hbel.trans (FV.below (by have:=hbel.size;omega) lo)⟩⟩
 ·rcases hs with rfl | hs
  ·rw [h2] at ho;cases ho;cases hc
  ·obtain⟨_,_,cur,q1⟩:=aH h3 hs
   rw [q1] at ho;cases ho;cases hc
 ·have hv:=hk0.same k cur ty fr hk ht hc
  refine cO FV hv fun hs=>?_
  rcases hs with rfl | hs
  ·have:=hk.1;omega
  ·obtain⟨_,_,cur,q1⟩:=aH h3 hs
   rw [q1] at hv;cases hv;exact ht rfl
 ·rw [hbk,m7];exact bl8
 ·unfold tG
  rw [hbk,m7,aAR]
  exact aM o6 ((Fr.refl (fun z=>z=bl) w6).setCell (p:=⟨bl,0,none⟩) rfl _) fun k hk e=>by subst e;exact aP o6 bl6 (by decide) hk
end
section
open Go Go.RowKit Go.Shelf
attribute [local go_sem] Oper.semAt_some
def UsIs(w:World)(L:List Int)(e:Ending)(w':World):Prop:=∃ (q:Option Addr) (c:Nat),e=.returned (.slice q L.length c)/\tG w.heap.size w' q c L/\Below w.heap.size w w'
theorem aL2{w V V':World}{q:Option Addr}{c:Nat}{zs:List Int}(hb:Below w.heap.size w V)(h:tG w.heap.size V q c zs)(hg:V.grownBy V' (Value.slice q zs.length c).ownBlock):Below w.heap.size w V':=
 hb.trans ⟨hg.os,hg.tape,hg.output,hg.size,fun k hk=>hg.block k (by have:=hb.size;omega) (fun e=>by have:=(aH h e.symm).1;omega)⟩
theorem bA6(n:Nat)(hn:4<=n){w:World}{t:Tr}(hta:TB w t)(hlen:(pp [] t).length<=2000) :
  CallsIn Fence.wide n Tryz.prog 54 #[.agg #[.int .i64 t.f.k,.int .i64 t.f.n,.int .i64 t.f.mn,.int .i64 t.f.mx,.slice t.f.rq t.f.rs.length t.f.rc,.slice t.f.kq t.f.kl t.f.kc]] w (UsIs w (usd t)):=by
 have hfn:∀ f,Fence.wide.fn f:=fun _=>trivial
 refine callsIn_of_wp_marks Tryz.func54 rfl trivial ?_ rfl
 simp only [Tryz.ntmps54,aBB,j8,List.length_nil,Nat.reduceAdd,Nat.reduceSub,aAY,aBI,aBQ,aBK,aAG,r9]
 refine wpIn_wide.2 ?_
 have HTA:=aD hta
 have HLEN:=aD hlen
 have B1:Hid (Below w.heap.size w ((w.alloc (.cells #[.int .i64 t.f.k,.int .i64 t.f.n,.int .i64 t.f.mn,.int .i64 t.f.mx,.slice t.f.rq t.f.rs.length t.f.rc,.slice t.f.kq t.f.kl t.f.kc] 25)).alloc (.cells #[.slice none 0 0] 44))):=(bz9).alloc (by simp) _
 have X1:Hid (BoxN ((w.alloc (.cells #[.int .i64 t.f.k,.int .i64 t.f.n,.int .i64 t.f.mn,.int .i64 t.f.mx,.slice t.f.rq t.f.rs.length t.f.rc,.slice t.f.kq t.f.kl t.f.kc] 25)).alloc (.cells #[.slice none 0 0] 44)) w.heap.size t.f):=(Below.heap_alloc _ _ _ (by simp)).trans (aE w _)
 have X2:Hid (((w.alloc (.cells #[.int .i64 t.f.k,.int .i64 t.f.n,.int .i64 t.f.mn,.int .i64 t.f.mx,.slice t.f.rq t.f.rs.length t.f.rc,.slice t.f.kq t.f.kl t.f.kc] 25)).alloc (.cells #[.slice none 0 0] 44)).heap[w.heap.size+1]?=some (.cells #[.slice none 0 0] 44 (0,0))):=aK _ (by simp only [a7])
 clear hta hlen
 go_upto_region 2 with fail
 generalize ((w.alloc (.cells #[.int .i64 t.f.k,.int .i64 t.f.n,.int .i64 t.f.mn,.int .i64 t.f.mx,.slice t.f.rq t.f.rs.length t.f.rc,.slice t.f.kq t.f.kl t.f.kc] 25)).alloc (.cells #[.slice none 0 0] 44))=w3 at B1 X1 X2 ⊢
 obtain⟨z0,z1,z2,z3,z4,z5⟩:=X1.out.six
 simp only [g8] at z1 z2 z3 z4 z5
 go_wp2_with (go_at_call 101;(with_reducible refine(bO9 _ _).mono ?_);rintro e w7 ⟨rfl,rfl⟩)
 have K5:Below w3.heap.size w3 (w3.alloc (.cells #[.int .i64 t.f.k,.int .i64 t.f.n,.int .i64 t.f.mn,.int .i64 t.f.mx,.slice t.f.rq t.f.rs.length t.f.rc,.slice t.f.kq t.f.kl t.f.kc] 25)):=bz9
 have L5:BoxN (w3.alloc (.cells #[.int .i64 t.f.k,.int .i64 t.f.n,.int .i64 t.f.mn,.int .i64 t.f.mx,.slice t.f.rq t.f.rs.length t.f.rc,.slice t.f.kq t.f.kl t.f.kc] 25)) w3.heap.size t.f:=aE w3 _
 have M5:=(K5.block _ (aB X2.out)).trans X2.out
 have B5:=aJ B1.out K5 lz9
 have HX:=aD (⟨L5,M5,B5⟩:_/\_/\_)
 have hlb5:w.heap.size+1 < (w3.alloc (.cells #[.int .i64 t.f.k,.int .i64 t.f.n,.int .i64 t.f.mn,.int .i64 t.f.mx,.slice t.f.rq t.f.rs.length t.f.rc,.slice t.f.kq t.f.kl t.f.kc] 25)).heap.size:=aB M5
 clear L5 M5 B5 K5
 generalize (w3.alloc (.cells #[.int .i64 t.f.k,.int .i64 t.f.n,.int .i64 t.f.mn,.int .i64 t.f.mx,.slice t.f.rq t.f.rs.length t.f.rc,.slice t.f.kq t.f.kl t.f.kc] 25))=w5 at HX hlb5 ⊢
 generalize w3.heap.size=bq at HX ⊢
 obtain⟨L5,M5,B5⟩:=HX.out
 have HLB:=aD hlb5
 clear HX hlb5 z0 z1 z2 z3 z4 z5 X1 X2 B1
 refine(wpIn_wide (n:=n)).1 ?_
 refine aU6 hn 8 9 bq rfl rfl L5 HTA.out (CK.of_below B5) (UI w t (w.heap.size+1)) (fun _ _ _=>False) (fun pre A A' row h hg hr=>h.row B5.size hg hr) (fun _ _ _ _ _ h _ _=>h) (fun pre W h=>by have:=h.len;omega) ⟨⟨none,0,M5,aAX _ _ _ _⟩,aCA,B5⟩
  (fun s y x a' W=>∃ bx,BoxN W bx x.2/\a'={ y with tmps:=y.tmps.setIfInBounds 5 (.pointer (some ⟨bx,0,none⟩)) }) ?_ ?_ ?_ ?_ (fun _ _ _ _ _ _ h _=>h.elim)
 ·rintro s y x a' _ A A' row ⟨bx,h1,h2⟩ hg hr
  exact⟨bx,dA hg hr h1,h2⟩
 ·intro l pre x V K _ _ hK
  simp only [nN]
  gi_wp2
  exact hK _ _ (bz9) ⟨_,aE V _,rfl⟩
 ·rintro l pre x a' V0 V h ht ⟨bx,hbx,rfl⟩ hk0 hv0
  have hlen:=h.len
  have hbl:=aL1 (pre.map (·.1))
  rw [o8] at hbl
  have okk:x.2.k=x.1.2.f.k:=ht.ok.k
  have okn:x.2.n=x.1.2.f.n:=ht.ok.n
  obtain⟨n0,n1,n2,n3,n4,n5⟩:=hbx.six
  simp only [g8] at n1 n2 n3 n4 n5
  obtain⟨q,c,h2,h3⟩:=h.ls
  have HH:=aD h
  have HT:=aD ht
  have HK0:=aD hk0
  have H2:=aD h2
  have H3:=aD h3
  have k0:=aA h2 (i:=0) rfl
  have hVs:w.heap.size<=V.heap.size:=h.bel.size
  simp only [nN]
  by_cases hk8:x.1.2.f.k=8
  ·have e8:(x.2.k==8)=true:=by rw [okk,hk8];rfl
   have HK8:=aD hk8
   rw [okn] at n1
   clear h ht hk0 h2 h3 hbx okk okn hk8 n2 n3 n4 n5
   obtain⟨t0,hi,hz0,hz1,hz2⟩:=bH aT4
   have Y7:Hid ((V.alloc (.cells #[.int .i64 x.1.2.f.n] 3)).ownsRow w.heap.size 3 1 (.slice q (bks (pre.map (·.1))).length c) (bks (pre.map (·.1))).length ((bks (pre.map (·.1))).map (Value.int .i64))):=l9 H3.out _
   have HNEW:Hid (∀ j u,([.int .i64 x.1.2.f.n]:List Value)[j]?=some u->(V.alloc (.cells #[.int .i64 x.1.2.f.n] 3)).cell? ((⟨V.heap.size,0,none⟩:Addr).add j)=some u):=cR V [.int .i64 x.1.2.f.n] _
   have HB8:Hid (w.heap.size<=(V.alloc (.cells #[.int .i64 x.1.2.f.n] 3)).heap.size):=i8 hVs (by simp)
   have HK9:Hid ((V.alloc (.cells #[.int .i64 x.1.2.f.n] 3)).heap[w.heap.size+1]?=some (.cells #[.slice q (bks (pre.map (·.1))).length c] 44 (0,0))):=(Below.heap_alloc _ _ _ (aB H2.out)).trans H2.out
   gi_wp2_with (gi_at_builtin;refine wpListIn_append_own_at _ rfl _ _ 44 rfl w.heap.size 3 t0 (.int .i64 0) 1 8 wB hi hz0 hz1 hz2 rfl (by decide) (.slice q (bks (pre.map (·.1))).length c) (bks (pre.map (·.1))).length ((bks (pre.map (·.1))).map (Value.int .i64)) rfl Y7.out ⟨V.heap.size,0,none⟩ 1 1 [.int .i64 x.1.2.f.n] rfl rfl HNEW.out (by simp [Value.oneCell']) (by unfold maxLen;omega) (by omega) HB8.out ?_;intro v' w6 hown' hgrow _ _;obtain⟨q6,c6,rfl⟩:=aZ hown';have O6:=aD hown';have G6:=aD hgrow;have K9:w6.heap[w.heap.size+1]?=some (.cells #[.slice q (bks (pre.map (·.1))).length c] 44 (0,0)):=(hgrow.block _ (aB HK9.out) (fun e=>aP Y7.out HK9.out (by decide) e.symm)).trans HK9.out;have k9:=aA K9 (i:=0) rfl;have f9:=aG K9 0;clear hown' hgrow)
   exact bI9 (Nat.le_succ _) HLB.out HK8.out H2.out H3.out HT.out.pfx HH.out.bel HK0.out O6.out G6.out
  ·have e8:(x.2.k==8)=false:=by rw [okk];simpa using hk8
   have HK8:=aD hk8
   clear h ht hk0 h2 h3 hbx okk okn hk8 n1 n2 n3 n4 n5
   gi_wp2
   refine⟨KeepsFrom.refl _ _,HK0.out,⟨⟨q,c,?_,?_⟩,HT.out.pfx,HH.out.bel⟩⟩
   ·rw [aAR,r7,List.map_nil,tC,if_neg HK8.out,aBH]
    exact H2.out
   ·rw [aAR,r7,List.map_nil,tC,if_neg HK8.out,aBH]
    exact H3.out
 ·rintro D xs V hD hxs h hK
  have he:xs.map (·.1)=pp [] t:=by rw [hxs,j9 HLEN.out]
  obtain⟨q,c,h2,h3⟩:=h.ls
  rw [he] at h2 h3
  have hbl:=aL1 (pp [] t)
  have HL:Hid ((bks (pp [] t)).length<=2000):=i8 hbl HLEN.out
  obtain⟨L,hL⟩:∃ L,bks (pp [] t)=L:=⟨_,rfl⟩
  rw [hL] at h2 h3 HL
  have HU:=aD (show usd t=Lib.compact (srt L) by unfold usd;rw [hL])
  clear hL hbl
  have HB:=aD h.bel
  have H2:=aD h2
  have H3:=aD h3
  have HK:=aD hK
  have HD:=aD hD
  have SO:=aD (aT2 h3 HL.out)
  have k0:=aA h2 (i:=0) rfl
  have NK:Hid (∀ k,(Value.slice q L.length c).ownBlock=some k->k≠w.heap.size+1/\k≠D):=fun k hk=>⟨fun e=>by subst e;exact aP H3.out H2.out (by decide) hk,fun e=>by
   subst e
   obtain⟨_,_,cur,q1⟩:=aH H3.out hk
   rw [q1] at hK;cases hK⟩
  clear h hK hD he hxs h2 h3
  simp only [gM]
  go_upto_region 7 with (go_at_call 102;refine(SO.out).mono ?_;rintro e V6 ⟨rfl,o6,g6⟩;have O6:=aD o6;have G6:=aD g6;clear o6 g6)
  have M6:=aD ((G6.out.block _ (aB H2.out) (fun e=>(NK.out _ e.symm).1 rfl)).trans H2.out)
  have D6:=aD ((G6.out.block _ (aB HK.out) (fun e=>(NK.out _ e.symm).2 rfl)).trans HK.out)
  have B6:=aD (aL2 HB.out H3.out G6.out)
  have O7:=aD (show tG w.heap.size V6 q c (srt L) from O6.out)
  have CO:=aD (zR O7.out (by rw [qZ];exact HL.out))
  have hsl:=qZ L
  rw [hsl] at CO
  clear k0 SO
  have k0:=aA M6.out (i:=0) rfl
  go_wp2_with (go_at_call 103;refine(CO.out).mono ?_;rintro e V7 ⟨rfl,o7,g7⟩;have O8:=aD o7;have G8:=aD g7;clear o7 g7)
  have D8:=aD ((G8.out.block _ (aB D6.out) (fun e=>(NK.out _ e.symm).2 rfl)).trans D6.out)
  have B8:=aD (aL2 B6.out O7.out (by rw [hsl];exact G8.out))
  refine⟨by simp,.inl ⟨_,_,rfl,run_takeDeferred D8.out,?_⟩⟩
  refine⟨.slice q (Lib.compact (srt L)).length c,by simp [results,Tryz.results54,go_sem],q,c,by rw [HU.out],?_,pF _ B8.out (i8 B5.size HD.out)⟩
  rw [HU.out]
  exact rB _ D8.out rfl O8.out
theorem aS0{w:World}{t:Tr}(hta:TB w t)(hlen:(pp [] t).length<=2000):Calls Tryz.prog 54 #[.agg #[.int .i64 t.f.k,.int .i64 t.f.n,.int .i64 t.f.mn,.int .i64 t.f.mx,.slice t.f.rq t.f.rs.length t.f.rc,.slice t.f.kq t.f.kl t.f.kc]] w (UsIs w (usd t)):=callsIn_wide.1 (bA6 4 (by decide) hta hlen)
end
section
open Go Go.RowKit Go.Shelf
attribute [local go_sem] Oper.semAt_some
noncomputable def usV (c o:Bool) (t:Tr):List Int:=if aY c o 0 0 (pp [] t)=0 then usd t else []
noncomputable def frV (c o:Bool) (t:Tr):Bool:=if aY c o 0 0 (pp [] t)=0 then ((usd t).length:Int)==0 else false
theorem UsIs.later{w W w':World}{L:List Int}{e:Ending}(hb:Below w.heap.size w W)(h:UsIs W L e w'):UsIs w L e w':=by
 obtain⟨q,c,h1,h2,h3⟩:=h
 exact⟨q,c,h1,gG h2 hb.size,aJ hb h3 lz9⟩
theorem aZ7{w:World}{t:Tr}(c o:Bool)(hta:TB w t):Calls Tryz.prog 23 #[.agg #[.int .i64 t.f.k,.int .i64 t.f.n,.int .i64 t.f.mn,.int .i64 t.f.mx,.slice t.f.rq t.f.rs.length t.f.rc,.slice t.f.kq t.f.kl t.f.kc],.agg #[.bool c,.bool o]] w (UsIs w (usV c o t)):=by
 have B1:Hid (Below w.heap.size w ((w.alloc (.cells #[.int .i64 t.f.k,.int .i64 t.f.n,.int .i64 t.f.mn,.int .i64 t.f.mx,.slice t.f.rq t.f.rs.length t.f.rc,.slice t.f.kq t.f.kl t.f.kc] 25)).alloc (.cells #[.bool c,.bool o] 27))):=(bz9).alloc (by simp) _
 have X1:Hid (BoxN ((w.alloc (.cells #[.int .i64 t.f.k,.int .i64 t.f.n,.int .i64 t.f.mn,.int .i64 t.f.mx,.slice t.f.rq t.f.rs.length t.f.rc,.slice t.f.kq t.f.kl t.f.kc] 25)).alloc (.cells #[.bool c,.bool o] 27)) w.heap.size t.f):=(Below.heap_alloc _ _ _ (by simp)).trans (aE w _)
 have X2:Hid (((w.alloc (.cells #[.int .i64 t.f.k,.int .i64 t.f.n,.int .i64 t.f.mn,.int .i64 t.f.mx,.slice t.f.rq t.f.rs.length t.f.rc,.slice t.f.kq t.f.kl t.f.kc] 25)).alloc (.cells #[.bool c,.bool o] 27)).heap[w.heap.size+1]?=some (.cells #[.bool c,.bool o] 27 (0,0))):=aK _ (by simp only [a7])
 have HTA:=aD hta
 clear hta
 go_enter Tryz.func23,Tryz.ntmps23
 go_upto_region 1 with fail
 generalize ((w.alloc (.cells #[.int .i64 t.f.k,.int .i64 t.f.n,.int .i64 t.f.mn,.int .i64 t.f.mx,.slice t.f.rq t.f.rs.length t.f.rc,.slice t.f.kq t.f.kl t.f.kc] 25)).alloc (.cells #[.bool c,.bool o] 27))=w1 at B1 X1 X2 ⊢
 obtain⟨n0,n1,n2,n3,n4,n5⟩:=X1.out.six
 simp only [g8] at n1 n2 n3 n4 n5
 have a0:=aA X2.out (i:=0) rfl
 have a1:=aA X2.out (i:=1) rfl
 have RT:=aD (eE c o (HTA.out.kept B1.out))
 obtain⟨r,hr⟩:∃ r,aY c o 0 0 (pp [] t)=r:=⟨_,rfl⟩
 have HR:=aD hr
 rw [hr] at RT
 clear hr
 by_cases hr0:r=0
 ·subst hr0
  have E:Hid (usV c o t=usd t):=aD (by unfold usV;rw [if_pos HR.out])
  have UC:Hid (∀ W,Below w.heap.size w W->Calls Tryz.prog 54 #[.agg #[.int .i64 t.f.k,.int .i64 t.f.n,.int .i64 t.f.mn,.int .i64 t.f.mx,.slice t.f.rq t.f.rs.length t.f.rc,.slice t.f.kq t.f.kl t.f.kc]] W (UsIs W (usd t))):=fun W hW=>aS0 (HTA.out.kept hW) (mR HR.out)
  go_upto_region 3 with (go_at_call 53;refine(RT.out).mono ?_;rintro e w2 ⟨rfl,h2⟩;have B2:=aD (aJ B1.out h2 lz9);have Y1:Hid (BoxN w2 w.heap.size t.f):=(h2.block _ (aB X1.out)).trans X1.out;clear h2)
  clear n0 n1 n2 n3 n4 n5 a0 a1
  obtain⟨n0,n1,n2,n3,n4,n5⟩:=Y1.out.six
  simp only [g8] at n1 n2 n3 n4 n5
  go_wp2_with (go_at_call 54;refine(UC.out _ B2.out).mono ?_;intro e w3 h3;have U3:=aD (UsIs.later B2.out h3);obtain⟨q3,c3,rfl,h4,h5⟩:=h3;clear h4 h5)
  go_ret
  rw [E.out]
  exact U3.out
 ·have E:Hid (usV c o t=[]):=aD (by unfold usV;rw [if_neg (by rw [HR.out];exact hr0)])
  have q0:(r != 0)=true:=by simpa using hr0
  have q1:(r==0)=false:=by simpa using hr0
  clear hr0
  go_wp2_with (go_at_call 53;refine(RT.out).mono ?_;rintro e w2 ⟨rfl,h2⟩;have B2:=aD (aJ B1.out h2 lz9);clear h2)
  go_ret
  rw [E.out]
  exact⟨none,0,rfl,aAX _ _ _ _,B2.out⟩
theorem aA6{w:World}{t:Tr}(c o:Bool)(hta:TB w t):Calls Tryz.prog 22 #[.agg #[.int .i64 t.f.k,.int .i64 t.f.n,.int .i64 t.f.mn,.int .i64 t.f.mx,.slice t.f.rq t.f.rs.length t.f.rc,.slice t.f.kq t.f.kl t.f.kc],.agg #[.bool c,.bool o]] w fun e w'=>e=.returned (.bool (frV c o t))/\Below w.heap.size w w':=by
 have B1:Hid (Below w.heap.size w ((w.alloc (.cells #[.int .i64 t.f.k,.int .i64 t.f.n,.int .i64 t.f.mn,.int .i64 t.f.mx,.slice t.f.rq t.f.rs.length t.f.rc,.slice t.f.kq t.f.kl t.f.kc] 25)).alloc (.cells #[.bool c,.bool o] 27))):=(bz9).alloc (by simp) _
 have X1:Hid (BoxN ((w.alloc (.cells #[.int .i64 t.f.k,.int .i64 t.f.n,.int .i64 t.f.mn,.int .i64 t.f.mx,.slice t.f.rq t.f.rs.length t.f.rc,.slice t.f.kq t.f.kl t.f.kc] 25)).alloc (.cells #[.bool c,.bool o] 27)) w.heap.size t.f):=(Below.heap_alloc _ _ _ (by simp)).trans (aE w _)
 have X2:Hid (((w.alloc (.cells #[.int .i64 t.f.k,.int .i64 t.f.n,.int .i64 t.f.mn,.int .i64 t.f.mx,.slice t.f.rq t.f.rs.length t.f.rc,.slice t.f.kq t.f.kl t.f.kc] 25)).alloc (.cells #[.bool c,.bool o] 27)).heap[w.heap.size+1]?=some (.cells #[.bool c,.bool o] 27 (0,0))):=aK _ (by simp only [a7])
 have HTA:=aD hta
 clear hta
 go_enter Tryz.func22,Tryz.ntmps22
 go_upto_region 1 with fail
 generalize ((w.alloc (.cells #[.int .i64 t.f.k,.int .i64 t.f.n,.int .i64 t.f.mn,.int .i64 t.f.mx,.slice t.f.rq t.f.rs.length t.f.rc,.slice t.f.kq t.f.kl t.f.kc] 25)).alloc (.cells #[.bool c,.bool o] 27))=w1 at B1 X1 X2 ⊢
 obtain⟨n0,n1,n2,n3,n4,n5⟩:=X1.out.six
 simp only [g8] at n1 n2 n3 n4 n5
 have a0:=aA X2.out (i:=0) rfl
 have a1:=aA X2.out (i:=1) rfl
 have RT:=aD (eE c o (HTA.out.kept B1.out))
 obtain⟨r,hr⟩:∃ r,aY c o 0 0 (pp [] t)=r:=⟨_,rfl⟩
 have HR:=aD hr
 rw [hr] at RT
 clear hr
 by_cases hr0:r=0
 ·subst hr0
  obtain⟨N,hN⟩:∃ N,(usd t).length=N:=⟨_,rfl⟩
  have E:Hid (frV c o t=((N:Int)==0)):=aD (by unfold frV;rw [if_pos HR.out,hN])
  have UC:Hid (∀ W,Below w.heap.size w W->Calls Tryz.prog 54 #[.agg #[.int .i64 t.f.k,.int .i64 t.f.n,.int .i64 t.f.mn,.int .i64 t.f.mx,.slice t.f.rq t.f.rs.length t.f.rc,.slice t.f.kq t.f.kl t.f.kc]] W (fun e w'=>(∃ (q:Option Addr) (k:Nat),e=.returned (.slice q N k))/\Below W.heap.size W w')):=fun W hW=>(aS0 (HTA.out.kept hW) (mR HR.out)).mono (by
   rintro e w' ⟨q,k,h1,h2,h3⟩
   rw [hN] at h1
   exact⟨⟨q,k,h1⟩,h3⟩)
  clear hN
  go_wp2_with (first |(go_at_call 53;refine(RT.out).mono ?_;rintro e w2 ⟨rfl,h2⟩;have B2:=aD (aJ B1.out h2 lz9);have Y1:Hid (BoxN w2 w.heap.size t.f):=(h2.block _ (aB X1.out)).trans X1.out;clear h2 n0 n1 n2 n3 n4 n5 a0 a1;obtain⟨n0,n1,n2,n3,n4,n5⟩:=Y1.out.six;simp only [g8] at n1 n2 n3 n4 n5) |(go_at_call 54;refine(UC.out _ B2.out).mono ?_;rintro e w3 ⟨⟨q3,k3,rfl⟩,h3⟩;have B3:=aD (aJ B2.out h3 lz9);clear h3))
  go_ret
  exact⟨by rw [E.out];rfl,B3.out⟩
 ·have E:Hid (frV c o t=false):=aD (by unfold frV;rw [if_neg (by rw [HR.out];exact hr0)])
  have q0:(r != 0)=true:=by simpa using hr0
  have q1:(r==0)=false:=by simpa using hr0
  clear hr0
  go_wp2_with (go_at_call 53;refine(RT.out).mono ?_;rintro e w2 ⟨rfl,h2⟩;have B2:=aD (aJ B1.out h2 lz9);clear h2)
  go_ret
  exact⟨by rw [E.out];rfl,B2.out⟩
end
end Go.Proofs.YtlaimbkenbijeaaGreatDoor
