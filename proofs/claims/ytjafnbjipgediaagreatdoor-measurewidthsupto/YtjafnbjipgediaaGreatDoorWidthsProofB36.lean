/-
  Parts of the proof.
-/
import Derived.Test.YtjafnbjipgediaaGreatDoorWidthsProofB35
import Derived.Test.YtjafnbjipgediaaGreatDoorWidthsProofB34
set_option maxRecDepth 100000
set_option maxHeartbeats 8000000
namespace Go.Proofs.YtjafnbjipgediaaGreatDoor
open Go Go.RowKit
section
attribute [local go_sem] Oper.semAt_some bB
variable {c o:Bool} {G:Int->Int × Int} {B b:Nat} {t:Tr}
theorem aM2{T:Type}{ρ:cR T}{NP:Tr->Prop}{Good:T->Prop}(hg:∀ t xs g,NP t->xs.length=t.ks.length->(∀ x∈xs,Good x)->(∀ i,Good (g i))->Good (ρ t.f t.ks xs g)){G:Int->T}(hG:∀ i,Good (G i))(t:Tr):bM NP t->Good (evG ρ G t):=by
 refine Tr.ind (P:=fun t=>bM NP t->Good (evG ρ G t)) (fun t ih he=>?_) t
 rw [qI,qH]
 refine hg t _ G ((aW t).1 he).1 (by simp) (fun x hx=>?_) hG
 obtain⟨u,hu,rfl⟩:=List.mem_map.1 hx
 exact ih u hu (bE he hu)
theorem qB{α:Type}{xs:List α}{x d:α}(h:xs[0]?=some x):xs.headD d=x:=by
 cases xs with
 | nil=>cases h
 | cons a l=>simpa using h
theorem xH(hG:∀ i,bQ (G i)){x:El}(hx:x∈pp [] t)(hnp:bM (NP c o) x.2)(hsz:x.2.sz<=2000)
  (IH1:∀ u∈x.2.ks,∀ W,KS B b t c o G W->Calls Tryz.prog 60 #[.pointer (some ⟨b,0,none⟩),.agg #[.int .i64 u.f.k,.int .i64 u.f.n,.int .i64 u.f.mn,.int .i64 u.f.mx,.slice u.f.rq u.f.rs.length u.f.rc,.slice u.f.kq u.f.kl u.f.kc]] W (WP b t c o G (evG (bI c) G u) W))
  (IH2:x.2.f.k=8->∃ y:Tr,(∀ W,KS B b t c o G W->Calls Tryz.prog 111 #[.agg #[.int .i64 t.f.k,.int .i64 t.f.n,.int .i64 t.f.mn,.int .i64 t.f.mx,.slice t.f.rq t.f.rs.length t.f.rc,.slice t.f.kq t.f.kl t.f.kc],.int .i64 x.2.f.n] W fun e w'=>e=.returned (.agg #[.int .i64 y.f.k,.int .i64 y.f.n,.int .i64 y.f.mn,.int .i64 y.f.mx,.slice y.f.rq y.f.rs.length y.f.rc,.slice y.f.kq y.f.kl y.f.kc])/\Below W.heap.size W w')/\∀ W,KS B b t c o G W->Calls Tryz.prog 60 #[.pointer (some ⟨b,0,none⟩),.agg #[.int .i64 y.f.k,.int .i64 y.f.n,.int .i64 y.f.mn,.int .i64 y.f.mx,.slice y.f.rq y.f.rs.length y.f.rc,.slice y.f.kq y.f.kl y.f.kc]] W (WP b t c o G (G x.2.f.n) W))
  (w:World) (hks:KS B b t c o G w):Calls Tryz.prog 60 #[.pointer (some ⟨b,0,none⟩),.agg #[.int .i64 x.2.f.k,.int .i64 x.2.f.n,.int .i64 x.2.f.mn,.int .i64 x.2.f.mx,.slice x.2.f.rq x.2.f.rs.length x.2.f.rc,.slice x.2.f.kq x.2.f.kl x.2.f.kc]] w (WP b t c o G (evG (bI c) G x.2) w):=by
 obtain⟨p,z⟩:=x
 dsimp only at *
 have HIH1:=aC IH1
 have HIH2:=aC IH2
 have HG:=aC hG
 have HNP:=aC hnp
 have hnp1:NP c o z:=((aW z).1 hnp).1
 have HX:=aC hx
 have HLN:Hid (z.ks.length<=2000):=by have h1:=eB z.ks;have h2:=iJ z;exact aC (by omega)
 have KG:Hid (∀ u∈z.ks,bQ (evG (bI c) G u)):=fun u hu=>aM2 (fun t xs g=>lI (c:=c) (o:=o) t xs g) hG u (bE hnp hu)
 have HV:Hid (evG (bI c) G z=bI c z.f z.ks (z.ks.map (evG (bI c) G)) G):=aC (by rw [qI,qH])
 have hnb:=(hks.tb.at hx).node
 have HKL:=aC hnb.kl
 have X1:Hid (WI w B b t c o G z.f [] none 0 ((w.alloc (.cells #[.int .i64 z.f.k,.int .i64 z.f.n,.int .i64 z.f.mn,.int .i64 z.f.mx,.slice z.f.rq z.f.rs.length z.f.rc,.slice z.f.kq z.f.kl z.f.kc] 25)).alloc (.cells #[.int .i64 0,.int .i64 0] 102))):=by
  have hB:Below w.heap.size w ((w.alloc (.cells #[.int .i64 z.f.k,.int .i64 z.f.n,.int .i64 z.f.mn,.int .i64 z.f.mx,.slice z.f.rq z.f.rs.length z.f.rc,.slice z.f.kq z.f.kl z.f.kc] 25)).alloc (.cells #[.int .i64 0,.int .i64 0] 102)):=(bz9).alloc (by simp) _
  exact⟨hks.below hB,Fr.of_below hB,hks.kw.lt,(Below.heap_alloc _ _ _ (by simp)).trans (aE w _),aK _ (by simp only [World.size_alloc]),World.ownsRow_nil _ _ _ _,fun k e=>by cases e⟩
 obtain⟨s0,ji,jz0,jz1,jz2⟩:=bD aP6
 clear IH1 IH2 hG hnp hx hks hsz
 go_enter Tryz.func60,Tryz.ntmps60
 go_upto_region 3 with fail
 generalize ((w.alloc (.cells #[.int .i64 z.f.k,.int .i64 z.f.n,.int .i64 z.f.mn,.int .i64 z.f.mx,.slice z.f.rq z.f.rs.length z.f.rc,.slice z.f.kq z.f.kl z.f.kc] 25)).alloc (.cells #[.int .i64 0,.int .i64 0] 102))=V1 at X1 ⊢
 go_loopw [5,6] (fun s i wr=>∃ (j:Nat) (q:Option Addr) (cc:Nat),j<=z.ks.length/\i=.int .i64 (j:Int)/\s=.slice q ((z.ks.take j).map (evG (bI c) G)).length cc/\WI w B b t c o G z.f ((z.ks.take j).map (evG (bI c) G)) q cc wr) (fun _ i _=>z.ks.length - (intOf i).toNat)
 case atStart=>exact⟨0,none,0,Nat.zero_le _,rfl,rfl,X1.out⟩
 case round=>
  obtain⟨j,q,cc,hj,rfl,rfl,hw⟩:=hrel
  have K:=aC hw
  have hl:((z.ks.take j).map (evG (bI c) G)).length<=2000:=by rw [List.length_map,List.length_take];have:=HLN.out;omega
  have HT:Hid (∀ u,z.ks[j]?=some u->(z.ks.take (j+1)).map (evG (bI c) G)=(z.ks.take j).map (evG (bI c) G) ++ [evG (bI c) G u]):=fun u hu=>by rw [List.take_add_one,hu,List.map_append];rfl
  have HE:Hid (j=z.ks.length->(z.ks.take j).map (evG (bI c) G)=z.ks.map (evG (bI c) G)):=fun e=>by rw [e,List.take_length]
  generalize (z.ks.take j).map (evG (bI c) G)=xs at K HT HE hl ⊢
  clear hw
  obtain⟨n0,n1,n2,n3,n4,n5⟩:=K.out.nb.six
  simp only [Nat.zero_add] at n1 n2 n3 n4 n5
  by_cases hlt:j < z.ks.length
  ·obtain⟨u,hu⟩:∃ u,z.ks[j]?=some u:=⟨_,List.getElem?_eq_getElem hlt⟩
   have inu:u∈z.ks:=List.mem_of_getElem? hu
   obtain⟨qk,capk,e1,hm1,hcp1,hx1⟩:=((K.out.ks.tb.at HX.out).node).k.slice
   injection e1 with e11 e12 e13
   obtain⟨g,off,eq,hg,six⟩:=hx1 j u hu
   rw [e11,HKL.out,eq] at n5
   obtain⟨c0,c1,c2',c3,c4,c5⟩:=six
   have hgr:g < wr.heap.size:=hg
   have i1:(j:Int) < (z.ks.length:Int):=by omega
   have hwr:IntKind.wrap .i64 ((j:Int)+1)=(j:Int)+1:=wrap_small _ (by omega) (by have:=HLN.out;omega)
   have CU:=aC (HIH1.out u inu wr K.out.ks)
   have NX:=aC (HT.out u hu)
   obtain⟨X,hX⟩:∃ X,evG (bI c) G u=X:=⟨_,rfl⟩
   rw [hX] at CU NX
   clear hu e11 e12 e13 eq hx1 hm1 hcp1 hX
   go_upto_region 6 with (go_at_call 60;refine(CU.out).mono ?_;rintro e w5 ⟨rfl,h51,h52⟩;have K5:=aC (K.out.call h52 h51);clear h51 h52)
   have N6:Hid ((w5.alloc (.cells #[.int .i64 X.1,.int .i64 X.2] 102)).heap[w5.heap.size]?=some (.cells #[.int .i64 X.1,.int .i64 X.2] 102 (0,0))):=aE w5 _
   have K6:Hid (WI w B b t c o G z.f xs q cc (w5.alloc (.cells #[.int .i64 X.1,.int .i64 X.2] 102))):=K5.out.below (bz9)
   clear n0 n1 n2 n3 n4 n5 c0 c1 c2' c3 c4 c5 K5
   generalize w5.heap.size=z5 at N6 ⊢
   generalize (w5.alloc (.cells #[.int .i64 X.1,.int .i64 X.2] 102))=w6 at N6 K6 ⊢
   have m0:=aA N6.out (i:=0) rfl
   have m1:=aA N6.out (i:=1) rfl
   have K7:Hid (WI w B b t c o G z.f xs q cc (w6.alloc (.cells #[.int .i64 X.1,.int .i64 X.2] 102))):=K6.out.below (bz9)
   have N7:=aC (cA w6 [.int .i64 X.1,.int .i64 X.2] 102)
   have S7:=aC K7.out.fr.size
   go_wp2_with (at_builtin;refine wpList_append_own_at _ rfl _ _ 170 rfl w.heap.size 102 s0 (.agg #[.int .i64 0,.int .i64 0]) 2 16 aP2 ji jz0 jz1 jz2 rfl (by decide) (.slice q xs.length cc) xs.length (ceQ xs) rfl K7.out.row ⟨w6.heap.size,0,none⟩ 1 1 [.int .i64 X.1,.int .i64 X.2] rfl rfl N7.out (fun v hv=>by simp at hv;rcases hv with rfl | rfl <;> rfl) (by unfold maxLen;omega) (by omega) S7.out ?_;intro v' w8 hown' hgrow _ hblk;obtain⟨q8,c8,rfl⟩:=aT hown';have K8:=aC (K7.out.snoc hown' hgrow hblk);clear hown' hgrow hblk)
   go_roundw
   case rel=>exact⟨j+1,q8,c8,by omega,by go_num,by rw [NX.out,List.length_append];rfl,by rw [NX.out];exact K8.out⟩
   case measure=>simp only [intOf];omega
  ·have hjl:j=z.ks.length:=by omega
   have i1:¬ (j:Int) < (z.ks.length:Int):=by omega
   have HXS:=aC (HE.out hjl)
   have HLEN:Hid (xs.length=z.ks.length):=aC (by rw [HXS.out,List.length_map])
   have GX:Hid (∀ x∈xs,bQ x):=fun x hx=>by
    rw [HXS.out] at hx
    obtain⟨u,hu,rfl⟩:=List.mem_map.1 hx
    exact KG.out u hu
   rw [<- HXS.out] at HV
   rw [HKL.out] at n5
   clear HT HE HXS hjl HIH1
   have HNP1:=aC hnp1
   have hbw:=K.out.bw
   have ln:=aB K.out.nb
   have lr:=aB K.out.rz
   rcases fU hnp1 with hk | hk | hk | hk | hk | hk | hk | hk | hk
   ·have hv:Hid (evG (bI c) G z=(0,0)):=aC (by rw [HV.out];unfold bI;rw [hk];rfl)
    have e2:(z.f.k==2)=false:=by rw [hk];rfl
    have e5:(z.f.k==5)=false:=by rw [hk];rfl
    have e6:(z.f.k==6)=false:=by rw [hk];rfl
    have e7:(z.f.k==7)=false:=by rw [hk];rfl
    have e8:(z.f.k==8)=false:=by rw [hk];rfl
    have e9:(z.f.k==9)=false:=by rw [hk];rfl
    clear hk hnp1
    have z0:=aA K.out.rz (i:=0) rfl
    have z1:=aA K.out.rz (i:=1) rfl
    have fz:=fun z=>aF K.out.rz z
    go_wp2
    refine eG (b:=w.heap.size+1) (x:=(0,0)) (K.out.end (0,0)).1 rfl rfl ?_
    exact⟨by rw [hv.out],(K.out.end (0,0)).2⟩
   ·have hset:=pY HNP1.out hk
    have hv:Hid (evG (bI c) G z=oN c z.f.rs):=aC (by rw [HV.out];unfold bI;rw [hk];rfl)
    have e2:(z.f.k==2)=true:=by rw [hk];rfl
    have e5:(z.f.k==5)=false:=by rw [hk];rfl
    have e6:(z.f.k==6)=false:=by rw [hk];rfl
    have e7:(z.f.k==7)=false:=by rw [hk];rfl
    have e8:(z.f.k==8)=false:=by rw [hk];rfl
    have e9:(z.f.k==9)=false:=by rw [hk];rfl
    clear hk hnp1
    obtain⟨qr,cr,er,hr1,hr2,hr3⟩:=((K.out.ks.tb.at HX.out).node).r.slice
    injection er with er1 _ er3
    have HR3:=aC hr3
    have HST:=aC (fun r (hr:r∈z.f.rs)=>vG hset hr)
    clear hr3 hset
    rcases Nat.eq_zero_or_pos z.f.rs.length with hn | hn
    ·have h0:Hid (oN c z.f.rs=(0,0)):=aC (by rw [List.length_eq_zero_iff.1 hn];rfl)
     have q0:((z.f.rs.length:Int)==0)=true:=by rw [hn];rfl
     clear hn er1 er3 hr1 hr2
     have z0:=aA K.out.rz (i:=0) rfl
     have z1:=aA K.out.rz (i:=1) rfl
     have fz:=fun z=>aF K.out.rz z
     go_wp2
     refine eG (b:=w.heap.size+1) (x:=(0,0)) (K.out.end (0,0)).1 rfl rfl ?_
     exact⟨by rw [hv.out,h0.out],(K.out.end (0,0)).2⟩
    ·obtain⟨m,hm⟩:∃ m,z.f.rs.length=m+1:=⟨z.f.rs.length - 1,by omega⟩
     obtain⟨r,hr0⟩:∃ r,z.f.rs[0]?=some r:=⟨_,List.getElem?_eq_getElem hn⟩
     obtain⟨y,hy0⟩:∃ y,z.f.rs[m]?=some y:=⟨_,List.getElem?_eq_getElem (by omega)⟩
     have HS:Hid (oN c z.f.rs=(((gW c r.1).length:Int),((gW c y.2).length:Int))):=aC (by
      cases hrs:z.f.rs with
      | nil=>rw [hrs] at hr0;cases hr0
      | cons a l=>
       rw [hrs] at hr0 hy0 hm
       simp at hr0
       subst hr0
       have e:(a :: l).getLast (by simp)=y:=by rw [List.getLast_eq_getElem];simp only [hm,Nat.add_sub_cancel];exact(List.getElem?_eq_some_iff.1 hy0).2
       rw [oN,e])
     have C0:=(HST.out r (List.mem_of_getElem? hr0)).1
     have CY:=(HST.out y (List.mem_of_getElem? hy0)).2
     obtain⟨g,off,hq,hg,d1,-⟩:=HR3.out 0 r hr0
     obtain⟨g',off',hq',-,-,d2⟩:=HR3.out m y hy0
     rw [hq] at hq'
     injection hq' with e
     injection e with e1 e2
     subst e1 e2
     rw [Nat.mul_zero,Nat.add_zero] at d1
     rw [Nat.mul_comm] at d2
     rw [er1,hq,hm] at n4
     have hm9:(m:Int)+1<=9223372036854775807:=by have:z.f.rs.length<=9223372036854775807:=hr1;omega
     have q0:((m:Int)+1==0)=false:=by simp;omega
     have hg2:g < wr.heap.size:=hg
     have HQ4:Hid (z.f.rq=some ⟨g,off,none⟩/\z.f.rs.length=m+1):=⟨er1.trans hq,hm⟩
     clear hm hr0 hy0 hq er1 er3 hr1 hr2 hn
     have a0:=K.out.ks.kw.head (i:=6) (v:=.bool c) (by simp [Fl.cells])
     have lb:=K.out.ks.kw.lt
     cases c with
     | false=>
      have hE:Hid (evG (bI false) G z=(1,1)):=aC (by rw [hv.out,HS.out];rfl)
      clear C0 CY
      have z0:=aA K.out.rz (i:=0) rfl
      have z1:=aA K.out.rz (i:=1) rfl
      have fz:=fun z=>aF K.out.rz z
      go_wp2
      refine eG (b:=w.heap.size+1) (x:=(1,1)) (K.out.end (1,1)).1 rfl rfl ?_
      exact⟨by rw [hE.out],(K.out.end (1,1)).2⟩
     | true=>
      obtain⟨T1,hT1⟩:∃ T,txt (Lib.encodeRune r.1)=T:=⟨_,rfl⟩
      obtain⟨T2,hT2⟩:∃ T,txt (Lib.encodeRune y.2)=T:=⟨_,rfl⟩
      obtain⟨x1,hx1⟩:∃ x,r.1=x:=⟨_,rfl⟩
      obtain⟨x2,hx2⟩:∃ x,y.2=x:=⟨_,rfl⟩
      have hE:Hid (evG (bI true) G z=((T1.size:Int),(T2.size:Int))):=aC (by rw [hv.out,HS.out,<- hT1,<- hT2,jP,jP];rfl)
      have C1:Hid (∀ w,Calls Tryz.prog 108 #[.int .i64 x1] w fun e w'=>e=.returned (.string T1)/\Below w.heap.size w w'):=fun w=>by rw [<- hT1,<- hx1];exact vN w (iM C0)
      have C2:Hid (∀ w,Calls Tryz.prog 108 #[.int .i64 x2] w fun e w'=>e=.returned (.string T2)/\Below w.heap.size w w'):=fun w=>by rw [<- hT2,<- hx2];exact vN w (iM CY)
      rw [hx1] at d1
      rw [hx2] at d2
      clear hT1 hT2 hx1 hx2 C0 CY
      have i2:IntKind.wrap .i64 ((m:Int)+1 - 1)=(m:Int):=by rw [IntKind.wrap_i64];omega
      go_upto_region 14 with (go_at_call 108;(with_reducible refine(C1.out _).mono ?_);rintro e w6 ⟨rfl,h6⟩;have K6:=aC (K.out.below h6);have D2:=aC ((h6.cell (p:=⟨g,off+m * 2+1,none⟩) hg2).trans d2);have hg6:g < w6.heap.size:=Nat.lt_of_lt_of_le hg2 h6.size;clear h6)
      have d6:=D2.out
      clear n0 n1 n2 n3 n4 n5 d1 d2 a0
      obtain⟨n0,n1,n2,n3,n4,n5⟩:=K6.out.nb.six
      simp only [Nat.zero_add] at n1 n2 n3 n4 n5
      rw [HQ4.out.1,HQ4.out.2] at n4
      have ln6:=aB K6.out.nb
      go_upto_region 15 with (go_at_call 108;(with_reducible refine(C2.out _).mono ?_);rintro e w7 ⟨rfl,h7⟩;have K7:=aC (K6.out.below h7);clear h7)
      clear n0 n1 n2 n3 n4 n5 d6
      have z0:=aA K7.out.rz (i:=0) rfl
      have z1:=aA K7.out.rz (i:=1) rfl
      have fz:=fun z=>aF K7.out.rz z
      go_wp2
      refine eG (b:=w.heap.size+1) (x:=((T1.size:Int),(T2.size:Int))) (K7.out.end ((T1.size:Int),(T2.size:Int))).1 rfl rfl ?_
      exact⟨by rw [hE.out],(K7.out.end ((T1.size:Int),(T2.size:Int))).2⟩
   ·have hv:Hid (evG (bI c) G z=(0,0)):=aC (by rw [HV.out];unfold bI;rw [hk];rfl)
    have e2:(z.f.k==2)=false:=by rw [hk];rfl
    have e5:(z.f.k==5)=false:=by rw [hk];rfl
    have e6:(z.f.k==6)=false:=by rw [hk];rfl
    have e7:(z.f.k==7)=false:=by rw [hk];rfl
    have e8:(z.f.k==8)=false:=by rw [hk];rfl
    have e9:(z.f.k==9)=false:=by rw [hk];rfl
    clear hk hnp1
    have z0:=aA K.out.rz (i:=0) rfl
    have z1:=aA K.out.rz (i:=1) rfl
    have fz:=fun z=>aF K.out.rz z
    go_wp2
    refine eG (b:=w.heap.size+1) (x:=(0,0)) (K.out.end (0,0)).1 rfl rfl ?_
    exact⟨by rw [hv.out],(K.out.end (0,0)).2⟩
   ·have hv:Hid (evG (bI c) G z=(0,0)):=aC (by rw [HV.out];unfold bI;rw [hk];rfl)
    have e2:(z.f.k==2)=false:=by rw [hk];rfl
    have e5:(z.f.k==5)=false:=by rw [hk];rfl
    have e6:(z.f.k==6)=false:=by rw [hk];rfl
    have e7:(z.f.k==7)=false:=by rw [hk];rfl
    have e8:(z.f.k==8)=false:=by rw [hk];rfl
    have e9:(z.f.k==9)=false:=by rw [hk];rfl
    clear hk hnp1
    have z0:=aA K.out.rz (i:=0) rfl
    have z1:=aA K.out.rz (i:=1) rfl
    have fz:=fun z=>aF K.out.rz z
    go_wp2
    refine eG (b:=w.heap.size+1) (x:=(0,0)) (K.out.end (0,0)).1 rfl rfl ?_
    exact⟨by rw [hv.out],(K.out.end (0,0)).2⟩
   ·have hv:Hid (evG (bI c) G z=xs.foldl oO (0,0)):=aC (by rw [HV.out];unfold bI;rw [hk];rfl)
    have e2:(z.f.k==2)=false:=by rw [hk];rfl
    have e5:(z.f.k==5)=true:=by rw [hk];rfl
    have e6:(z.f.k==6)=false:=by rw [hk];rfl
    have e7:(z.f.k==7)=false:=by rw [hk];rfl
    have e8:(z.f.k==8)=false:=by rw [hk];rfl
    have e9:(z.f.k==9)=false:=by rw [hk];rfl
    clear hk hnp1
    have T0:Hid (W2 w B b t c o G z.f xs q cc wr.heap.size (0,0) (wr.alloc (.cells #[.int .i64 0,.int .i64 0] 102))):=K.out.box (0,0)
    have GS:Hid (bQ (0,0)):=fJ
    go_upto_region 19 with fail
    generalize hbo:wr.heap.size=bo at T0 ⊢
    generalize (wr.alloc (.cells #[.int .i64 0,.int .i64 0] 102))=W1 at T0 ⊢
    clear hbo n0 n1 n2 n3 n4 n5 ln lr K
    go_loopw [11] (fun i wr=>∃ j:Nat,0<=j/\j<=xs.length/\i=.int .i64 (j:Int)/\W2 w B b t c o G z.f xs q cc bo ((xs.take j).foldl oO (0,0)) wr) (fun i _=>xs.length - (intOf i).toNat)
    case atStart=>exact⟨0,Nat.le_refl _,Nat.zero_le _,rfl,T0.out⟩
    case round=>
     obtain⟨j,hj1,hj,rfl,ht⟩:=hrel
     have hgy:=fK (fun _ _=>qE) (xs.take j) (0,0) GS.out (fun y hy=>GX.out y (List.mem_of_mem_take hy))
     obtain⟨⟨ya,yb⟩,hy⟩:∃ y,(xs.take j).foldl oO (0,0)=y:=⟨_,rfl⟩
     rw [hy] at ht hgy
     have TT:=aC ht
     have HY:=aC hy
     unfold bQ at hgy
     simp only at hgy
     clear ht hy
     have y0:=aA TT.out.y (i:=0) rfl
     have y1:=aA TT.out.y (i:=1) rfl
     have fy:=fun z=>aF TT.out.y z
     have lo:=aB TT.out.y
     by_cases hjl:j < xs.length
     ·obtain⟨⟨xa,xb⟩,hx⟩:∃ x,xs[j]?=some x:=⟨_,List.getElem?_eq_getElem hjl⟩
      have hgd:=GX.out _ (List.mem_of_getElem? hx)
      unfold bQ at hgd
      simp only at hgd
      have FN:=aC (show (xs.take (j+1)).foldl oO (0,0)=(lst (ya+xa),kX yb xb) by rw [List.take_add_one,hx,Option.toList_some,List.foldl_append,HY.out];rfl)
      have e1:(j:Int) < (xs.length:Int):=by omega
      obtain⟨g,rfl,hg,d1,d2⟩:=TT.out.wi.at hx
      simp only at d1 d2
      have HXJ:=aC hx
      have hw1:IntKind.wrap .i64 ((j:Int)+1)=(j:Int)+1:=wrap_small _ (by omega) (by have:=HLN.out;have:=HLEN.out;omega)
      have w1:wrap64 (ya+xa)=ya+xa:=by unfold wrap64;omega
      have w2:IntKind.wrap .i64 (ya+xa)=ya+xa:=by rw [IntKind.wrap_i64];omega
      have w3':wrap64 (yb+xb)=yb+xb:=by unfold wrap64;omega
      have w4':IntKind.wrap .i64 (yb+xb)=yb+xb:=by rw [IntKind.wrap_i64];omega
      clear hx
      go_upto_region 21 with fail
      refine aP (List.cons_ne_nil _ _) (by kernel_rfl) (by kernel_rfl) (by kernel_rfl) ?_
      dsimp only [List.dropLast,List.getLast]
      repeat (go_big_quiet_step (first | exact rfl |(go_at_call 109;exact cM (zR _ _))))
      refine wpQuiet_nil ?_
      intro w3 hw
      have T3:=aC (TT.out.below (aQ hw))
      clear hw y0 y1 d1 d2 fy
      have y0:=aA T3.out.y (i:=0) rfl
      have y1:=aA T3.out.y (i:=1) rfl
      have fy:=fun z=>aF T3.out.y z
      have T4:=aC (T3.out.set0 (lst (ya+xa)))
      go_upto_region 22 with fail
      generalize (w3.setCell ⟨bo,0,none⟩ (.int .i64 (lst (ya+xa))))=w4 at T4 ⊢
      clear y0 y1 fy
      have y0:=aA T4.out.y (i:=0) rfl
      have y1:=aA T4.out.y (i:=1) rfl
      have fy:=fun z=>aF T4.out.y z
      have lo4:=aB T4.out.y
      obtain⟨g2,hq2,hg2,d1,d2⟩:=T4.out.wi.at HXJ.out
      injection hq2 with hq2
      injection hq2 with hq2
      subst hq2
      simp only at d1 d2 y0 y1
      by_cases hyb:yb=-1
      ·have FE:Hid (kX yb xb=-1):=aC (by unfold kX;rw [if_pos (.inl hyb)])
       have ey:(yb==-1)=true:=by rw [hyb];rfl
       have T5:=aC (T4.out.set1 (-1))
       clear hyb
       go_wp2
       go_roundw
       case rel=>exact⟨j+1,by omega,by omega,by go_num,by rw [FN.out,FE.out];exact T5.out⟩
       case measure=>simp only [intOf];omega
      ·have ey:(yb==-1)=false:=by simpa using hyb
       by_cases hxb:xb=-1
       ·have FE:Hid (kX yb xb=-1):=aC (by unfold kX;rw [if_pos (.inr hxb)])
        have ex:(xb==-1)=true:=by rw [hxb];rfl
        have T5:=aC (T4.out.set1 (-1))
        clear hyb hxb
        go_wp2
        go_roundw
        case rel=>exact⟨j+1,by omega,by omega,by go_num,by rw [FN.out,FE.out];exact T5.out⟩
        case measure=>simp only [intOf];omega
       ·have ex:(xb==-1)=false:=by simpa using hxb
        have FE:Hid (kX yb xb=mst (yb+xb)):=aC (by unfold kX;rw [if_neg (by omega)])
        clear hyb hxb
        go_upto_region 24 with fail
        refine aP (List.cons_ne_nil _ _) (by kernel_rfl) (by kernel_rfl) (by kernel_rfl) ?_
        dsimp only [List.dropLast,List.getLast]
        repeat (go_big_quiet_step (first | exact rfl |(go_at_call 110;exact cM (qC _ _))))
        refine wpQuiet_nil ?_
        intro w5 hw
        have T5:=aC (T4.out.below (aQ hw))
        clear hw y0 y1 d1 d2 fy
        have y0:=aA T5.out.y (i:=0) rfl
        have y1:=aA T5.out.y (i:=1) rfl
        have fy:=fun z=>aF T5.out.y z
        have T6:=aC (T5.out.set1 (mst (yb+xb)))
        go_wp2
        go_roundw
        case rel=>exact⟨j+1,by omega,by omega,by go_num,by rw [FN.out,FE.out];exact T6.out⟩
        case measure=>simp only [intOf];omega
     ·have e1:¬ (j:Int) < (xs.length:Int):=by omega
      rw [List.take_of_length_le (by omega)] at HY
      rw [HY.out] at hv
      have z0:=aA TT.out.wi.rz (i:=0) rfl
      have z1:=aA TT.out.wi.rz (i:=1) rfl
      have fz:=fun z=>aF TT.out.wi.rz z
      go_wp2
      refine eG (b:=w.heap.size+1) (x:=(ya,yb)) (TT.out.wi.end (ya,yb)).1 rfl rfl ?_
      exact⟨by rw [hv.out],(TT.out.wi.end (ya,yb)).2⟩
   ·have hmany:=mF HNP1.out (.inr hk)
    obtain⟨x0,hx0⟩:∃ x,xs[0]?=some x:=⟨_,List.getElem?_eq_getElem (by rw [HLEN.out];omega)⟩
    have hlx:1<=xs.length:=by rw [HLEN.out];omega
    have hv:Hid (evG (bI c) G z=xs.foldl lR x0):=aC (by rw [HV.out];unfold bI;rw [hk,qB hx0];rfl)
    have ALT1:Hid ((xs.take 1).foldl lR x0=x0):=aC (by
     rw [List.take_add_one,List.take_zero,hx0]
     show lR x0 x0=x0
     obtain⟨a,b⟩:=x0
     unfold lR lB
     simp only [Int.min_self,Int.max_self]
     by_cases h:b=-1
     ·simp [h]
     ·simp [h])
    have e2:(z.f.k==2)=false:=by rw [hk];rfl
    have e5:(z.f.k==5)=false:=by rw [hk];rfl
    have e6:(z.f.k==6)=true:=by rw [hk];rfl
    have e7:(z.f.k==7)=false:=by rw [hk];rfl
    have e8:(z.f.k==8)=false:=by rw [hk];rfl
    have e9:(z.f.k==9)=false:=by rw [hk];rfl
    have GS:Hid (bQ x0):=GX.out x0 (List.mem_of_getElem? hx0)
    obtain⟨g,rfl,hg,y0,y1⟩:=K.out.at hx0
    simp only [Nat.zero_mul,Nat.zero_add] at y0 y1
    have b0:(0:Int) < (xs.length:Int):=by omega
    clear hk hnp1 hx0 hmany
    have T0:Hid (W2 w B b t c o G z.f xs (some ⟨g,0,none⟩) cc wr.heap.size x0 (wr.alloc (.cells #[.int .i64 x0.1,.int .i64 x0.2] 102))):=K.out.box x0
    go_upto_region 29 with fail
    generalize hbo:wr.heap.size=bo at T0 ⊢
    generalize (wr.alloc (.cells #[.int .i64 x0.1,.int .i64 x0.2] 102))=W1 at T0 ⊢
    clear hbo n0 n1 n2 n3 n4 n5 ln lr K y0 y1
    go_loopw [13] (fun i wr=>∃ j:Nat,1<=j/\j<=xs.length/\i=.int .i64 (j:Int)/\W2 w B b t c o G z.f xs (some ⟨g,0,none⟩) cc bo ((xs.take j).foldl lR x0) wr) (fun i _=>xs.length - (intOf i).toNat)
    case atStart=>exact⟨1,Nat.le_refl _,hlx,rfl,by rw [ALT1.out];exact T0.out⟩
    case round=>
     obtain⟨j,hj1,hj,rfl,ht⟩:=hrel
     have hgy:=fK (fun _ _=>qF) (xs.take j) x0 GS.out (fun y hy=>GX.out y (List.mem_of_mem_take hy))
     obtain⟨⟨ya,yb⟩,hy⟩:∃ y,(xs.take j).foldl lR x0=y:=⟨_,rfl⟩
     rw [hy] at ht hgy
     have TT:=aC ht
     have HY:=aC hy
     unfold bQ at hgy
     simp only at hgy
     clear ht hy
     have y0:=aA TT.out.y (i:=0) rfl
     have y1:=aA TT.out.y (i:=1) rfl
     have fy:=fun z=>aF TT.out.y z
     have lo:=aB TT.out.y
     by_cases hjl:j < xs.length
     ·obtain⟨⟨xa,xb⟩,hx⟩:∃ x,xs[j]?=some x:=⟨_,List.getElem?_eq_getElem hjl⟩
      have hgd:=GX.out _ (List.mem_of_getElem? hx)
      unfold bQ at hgd
      simp only at hgd
      have FN:=aC (show (xs.take (j+1)).foldl lR x0=(min ya xa,lB yb xb) by rw [List.take_add_one,hx,Option.toList_some,List.foldl_append,HY.out];rfl)
      have e1:(j:Int) < (xs.length:Int):=by omega
      obtain⟨g1,hq1,hg1,d1,d2⟩:=TT.out.wi.at hx
      injection hq1 with hq1
      injection hq1 with hq1
      subst hq1
      simp only at d1 d2
      have HXJ:=aC hx
      have hw1:IntKind.wrap .i64 ((j:Int)+1)=(j:Int)+1:=wrap_small _ (by omega) (by have:=HLN.out;have:=HLEN.out;omega)
      have hm:∀ t ty w,(Builtin.min_ t ty #[.int .i64 ya,.int .i64 xa]).run Tryz.prog w=.ok (.int .i64 (min ya xa)) w:=fun t ty w=>jA _ t ty w _ _
      have hM:∀ t ty w,(Builtin.max_ t ty #[.int .i64 yb,.int .i64 xb]).run Tryz.prog w=.ok (.int .i64 (max yb xb)) w:=fun t ty w=>gB _ t ty w _ _
      clear hx
      go_upto_region 31 with fail
      refine aP (List.cons_ne_nil _ _) (by kernel_rfl) (by kernel_rfl) (by kernel_rfl) ?_
      dsimp only [List.dropLast,List.getLast]
      repeat (go_big_quiet_step (first | exact rfl))
      refine wpQuiet_nil ?_
      intro w3 hw
      have T3:=aC (TT.out.below (aQ hw))
      clear hw y0 y1 d1 d2 fy
      have y0:=aA T3.out.y (i:=0) rfl
      have y1:=aA T3.out.y (i:=1) rfl
      have fy:=fun z=>aF T3.out.y z
      have T4:=aC (T3.out.set0 (min ya xa))
      go_upto_region 32 with fail
      generalize (w3.setCell ⟨bo,0,none⟩ (.int .i64 (min ya xa)))=w4 at T4 ⊢
      clear y0 y1 fy
      have y0:=aA T4.out.y (i:=0) rfl
      have y1:=aA T4.out.y (i:=1) rfl
      have fy:=fun z=>aF T4.out.y z
      have lo4:=aB T4.out.y
      obtain⟨g2,hq2,hg2,d1,d2⟩:=T4.out.wi.at HXJ.out
      injection hq2 with hq2
      injection hq2 with hq2
      subst hq2
      simp only at d1 d2 y0 y1
      by_cases hyb:yb=-1
      ·have FE:Hid (lB yb xb=-1):=aC (by unfold lB;rw [if_pos (.inl hyb)])
       have ey:(yb==-1)=true:=by rw [hyb];rfl
       have T5:=aC (T4.out.set1 (-1))
       clear hyb
       go_wp2
       go_roundw
       case rel=>exact⟨j+1,by omega,by omega,by go_num,by rw [FN.out,FE.out];exact T5.out⟩
       case measure=>simp only [intOf];omega
      ·have ey:(yb==-1)=false:=by simpa using hyb
       by_cases hxb:xb=-1
       ·have FE:Hid (lB yb xb=-1):=aC (by unfold lB;rw [if_pos (.inr hxb)])
        have ex:(xb==-1)=true:=by rw [hxb];rfl
        have T5:=aC (T4.out.set1 (-1))
        clear hyb hxb
        go_wp2
        go_roundw
        case rel=>exact⟨j+1,by omega,by omega,by go_num,by rw [FN.out,FE.out];exact T5.out⟩
        case measure=>simp only [intOf];omega
       ·have ex:(xb==-1)=false:=by simpa using hxb
        have FE:Hid (lB yb xb=max yb xb):=aC (by unfold lB;rw [if_neg (by omega)])
        clear hyb hxb
        go_upto_region 34 with fail
        refine aP (List.cons_ne_nil _ _) (by kernel_rfl) (by kernel_rfl) (by kernel_rfl) ?_
        dsimp only [List.dropLast,List.getLast]
        repeat (go_big_quiet_step (first | exact rfl))
        refine wpQuiet_nil ?_
        intro w5 hw
        have T5:=aC (T4.out.below (aQ hw))
        clear hw y0 y1 d1 d2 fy
        have y0:=aA T5.out.y (i:=0) rfl
        have y1:=aA T5.out.y (i:=1) rfl
        have fy:=fun z=>aF T5.out.y z
        have T6:=aC (T5.out.set1 (max yb xb))
        go_wp2
        go_roundw
        case rel=>exact⟨j+1,by omega,by omega,by go_num,by rw [FN.out,FE.out];exact T6.out⟩
        case measure=>simp only [intOf];omega
     ·have e1:¬ (j:Int) < (xs.length:Int):=by omega
      rw [List.take_of_length_le (by omega)] at HY
      rw [HY.out] at hv
      have z0:=aA TT.out.wi.rz (i:=0) rfl
      have z1:=aA TT.out.wi.rz (i:=1) rfl
      have fz:=fun z=>aF TT.out.wi.rz z
      go_wp2
      refine eG (b:=w.heap.size+1) (x:=(ya,yb)) (TT.out.wi.end (ya,yb)).1 rfl rfl ?_
      exact⟨by rw [hv.out],(TT.out.wi.end (ya,yb)).2⟩
   ·have hone:=dV HNP1.out (.inl hk)
    obtain⟨⟨xa,xb⟩,hx0⟩:∃ x,xs[0]?=some x:=⟨_,List.getElem?_eq_getElem (by rw [HLEN.out];omega)⟩
    have hv:Hid (evG (bI c) G z=(xa,xb)):=aC (by rw [HV.out];unfold bI;rw [hk,qB hx0];rfl)
    have e2:(z.f.k==2)=false:=by rw [hk];rfl
    have e5:(z.f.k==5)=false:=by rw [hk];rfl
    have e6:(z.f.k==6)=false:=by rw [hk];rfl
    have e7:(z.f.k==7)=true:=by rw [hk];rfl
    have e8:(z.f.k==8)=false:=by rw [hk];rfl
    have e9:(z.f.k==9)=false:=by rw [hk];rfl
    obtain⟨g,rfl,hg,y0,y1⟩:=K.out.at hx0
    simp only [Nat.zero_mul,Nat.zero_add] at y0 y1
    have b0:(0:Int) < (xs.length:Int):=by rw [HLEN.out];omega
    clear hk hnp1 hx0 hone
    have z0:=aA K.out.rz (i:=0) rfl
    have z1:=aA K.out.rz (i:=1) rfl
    have fz:=fun z=>aF K.out.rz z
    go_wp2
    refine eG (b:=w.heap.size+1) (x:=(xa,xb)) (K.out.end (xa,xb)).1 rfl rfl ?_
    exact⟨by rw [hv.out],(K.out.end (xa,xb)).2⟩
   ·have hbk:=tM HNP1.out hk
    have hv:Hid (evG (bI c) G z=G z.f.n):=aC (by rw [HV.out];unfold bI;rw [hk];rfl)
    obtain⟨y,hgc,hwc⟩:=HIH2.out hk
    have GC:=aC hgc
    have WC:=aC hwc
    obtain⟨k,hkn⟩:∃ k:Nat,z.f.n=(k:Int):=⟨z.f.n.toNat,by omega⟩
    have hk31:k < 31:=by omega
    have e2:(z.f.k==2)=false:=by rw [hk];rfl
    have e5:(z.f.k==5)=false:=by rw [hk];rfl
    have e6:(z.f.k==6)=false:=by rw [hk];rfl
    have e7:(z.f.k==7)=false:=by rw [hk];rfl
    have e8:(z.f.k==8)=true:=by rw [hk];rfl
    have e9:(z.f.k==9)=false:=by rw [hk];rfl
    rw [hkn] at hv GC WC n1
    have HKN:=aC hkn
    clear hk hnp1 hbk hgc hwc hkn
    obtain⟨h,a1,a2⟩:=K.out.ks.kw.has hk31
    have A2:=aC a2
    have lb:=K.out.ks.kw.lt
    have i2:(k:Int) < 31:=by omega
    clear a2
    obtain⟨⟨xa,xb⟩,hx⟩:∃ x,G (k:Int)=x:=⟨_,rfl⟩
    have HGX:=aC hx
    rw [hx] at hv WC A2
    clear hx
    cases h with
    | true=>
     obtain⟨y0,y1⟩:=A2.out rfl
     simp only at y0 y1
     go_upto_region 39 with fail
     refine wx9 ?_
     repeat (go_big_quiet_step (first | exact rfl))
     refine wpQuiet_nil ?_
     intro w3 hw
     have K3:=aC (K.out.below (aQ hw))
     have y0':=((aQ hw).cell (p:=⟨b,39+k * 2,none⟩) lb).trans y0
     have y1':=((aQ hw).cell (p:=⟨b,39+k * 2+1,none⟩) lb).trans y1
     have lb3:=K3.out.ks.kw.lt
     have ln3:=aB K3.out.nb
     clear hw y0 y1 n0 n1 n2 n3 n4 n5 a1
     obtain⟨n0,n1,n2,n3,n4,n5⟩:=K3.out.nb.six
     simp only [Nat.zero_add] at n1 n2 n3 n4 n5
     rw [HKN.out] at n1
     go_upto_region 43 with fail
     refine aP (List.cons_ne_nil _ _) (by kernel_rfl) (by kernel_rfl) (by kernel_rfl) ?_
     dsimp only [List.dropLast,List.getLast]
     repeat (go_big_quiet_step (first | exact rfl))
     refine wpQuiet_nil ?_
     intro w4 hw
     have K4:=aC (K3.out.below (aQ hw))
     clear hw y0' y1' n0 n1 n2 n3 n4 n5
     have z0:=aA K4.out.rz (i:=0) rfl
     have z1:=aA K4.out.rz (i:=1) rfl
     have fz:=fun z=>aF K4.out.rz z
     go_wp2
     refine eG (b:=w.heap.size+1) (x:=(xa,xb)) (K4.out.end (xa,xb)).1 rfl rfl ?_
     exact⟨by rw [hv.out],(K4.out.end (xa,xb)).2⟩
    | false=>
     clear A2
     go_upto_region 39 with fail
     refine wx9 ?_
     repeat (go_big_quiet_step (first | exact rfl))
     refine wpQuiet_nil ?_
     intro w3 hw
     have K3:=aC (K.out.below (aQ hw))
     have lb3:=K3.out.ks.kw.lt
     have ln3:=aB K3.out.nb
     clear hw n0 n1 n2 n3 n4 n5 a1
     obtain⟨n0,n1,n2,n3,n4,n5⟩:=K3.out.nb.six
     simp only [Nat.zero_add] at n1 n2 n3 n4 n5
     rw [HKN.out] at n1
     have t0:=K3.out.ks.kw.head (i:=0) (v:=.int .i64 t.f.k) rfl
     have t1:=K3.out.ks.kw.head (i:=1) (v:=.int .i64 t.f.n) rfl
     have t2:=K3.out.ks.kw.head (i:=2) (v:=.int .i64 t.f.mn) rfl
     have t3:=K3.out.ks.kw.head (i:=3) (v:=.int .i64 t.f.mx) rfl
     have t4:=K3.out.ks.kw.head (i:=4) (v:=.slice t.f.rq t.f.rs.length t.f.rc) rfl
     have t5:=K3.out.ks.kw.head (i:=5) (v:=.slice t.f.kq t.f.kl t.f.kc) rfl
     go_upto_region 40 with fail
     go_cut [14] (fun v wx=>∃ bo,v=.pointer (some ⟨bo,0,none⟩)/\Six wx bo 0 y.f/\bo < wx.heap.size/\w.heap.size+1 < bo/\WI w B b t c o G z.f xs q cc wx)
     case first=>as_aux_lemma=>
      have KD:Hid (WI w B b t c o G z.f xs q cc w3.drew):=K3.out.below (Below.refl _ _).drew
      have KA:Hid (WI w B b t c o G z.f xs q cc (w3.alloc (.cells #[.int .i64 0,.int .i64 0,.int .i64 0,.int .i64 0,.slice none 0 0,.slice none 0 0] 25)).drew):=K3.out.below (bz9).drew
      have RA:Hid (BoxN (w3.alloc (.cells #[.int .i64 0,.int .i64 0,.int .i64 0,.int .i64 0,.slice none 0 0,.slice none 0 0] 25)).drew w3.heap.size uI):=aE w3 _
      have OW:=aC K3.out.own
      have LR:=aC (aB K3.out.rz)
      go_region_with first
       |(go_at_call 111;(with_reducible refine(GC.out _ KA.out.ks).mono ?_);rintro e w5 ⟨rfl,h5⟩;have K5:=aC (KA.out.below h5);have R5:BoxN w5 w3.heap.size uI:=(h5.block _ (aB RA.out)).trans RA.out;have L5:=aB R5;obtain⟨r0,r1,r2,r3,r4,r5⟩:=R5.six;simp only [Nat.zero_add] at r1 r2 r3 r4 r5;have rz:=fun z=>aF R5 z;have X9:=aC (iK (g:=y.f) R5.six);have F9:=aC (kO w5 w3.heap.size 0 y.f);have K9:=aC (K5.out.frn F9.out LR.out OW.out);have S9:=aC F9.out.size;unfold iX at X9 K9 S9;clear h5 R5 F9)
       |(go_at_call 111;(with_reducible refine(GC.out _ KD.out.ks).mono ?_);rintro e w5 ⟨rfl,h5⟩;have K5:=aC (KD.out.below h5);clear h5)
      all_goals go_wp2_with fail
      all_goals go_meet
      all_goals first
       | exact⟨w3.heap.size,rfl,X9.out,Nat.lt_of_lt_of_le L5 S9.out,LR.out,K9.out⟩
       | exact⟨w5.heap.size,rfl,BoxN.six (aE w5 _),by simp,aB K5.out.rz,K5.out.below (bz9)⟩
     case rest=>
      obtain⟨bo,rfl,hs,hbo,hbo2,hw⟩:=hcut
      have HS6:=aC hs
      have K4:=aC hw
      clear hw n0 n1 n2 n3 n4 n5 t0 t1 t2 t3 t4 t5 lb3 ln3
      obtain⟨n0,n1,n2,n3,n4,n5⟩:=K4.out.nb.six
      simp only [Nat.zero_add] at n1 n2 n3 n4 n5
      rw [HKN.out] at n1
      obtain⟨s0',s1',s2',s3',s4',s5'⟩:=hs
      simp only [Nat.zero_add] at s1' s2' s3' s4' s5'
      have lb4:=K4.out.ks.kw.lt
      have ln4:=aB K4.out.nb
      go_upto_region 41 with fail
      go_cut [182] (fun _ wx=>WI w B b t c o G z.f xs q cc wx/\wx.cell? ⟨b,39+k * 2,none⟩=some (.int .i64 xa)/\wx.cell? ⟨b,39+k * 2+1,none⟩=some (.int .i64 xb))
      case first=>as_aux_lemma=>
       have KD:Hid (WI w B b t c o G z.f xs q cc wc.drew):=K4.out.below (Below.refl _ _).drew
       have SK:Hid (Six wc.drew bo 0 y.f/\Six wc.drew w.heap.size 0 z.f):=⟨HS6.out.ck (CK.of_below (Below.refl _ _).drew) hbo,KD.out.nb.six⟩
       have QC:Hid (∀ wz,(Six wz bo 0 y.f/\Six wz w.heap.size 0 z.f)->(wz.cell? ⟨bo,0,none⟩=some (.int .i64 y.f.k)/\wz.cell? ⟨bo,1,none⟩=some (.int .i64 y.f.n)/\wz.cell? ⟨bo,2,none⟩=some (.int .i64 y.f.mn)/\wz.cell? ⟨bo,3,none⟩=some (.int .i64 y.f.mx)/\wz.cell? ⟨bo,4,none⟩=some (.slice y.f.rq y.f.rs.length y.f.rc)/\wz.cell? ⟨bo,5,none⟩=some (.slice y.f.kq y.f.kl y.f.kc))/\(wz.cell? ⟨w.heap.size,0,none⟩=some (.int .i64 z.f.k)/\wz.cell? ⟨w.heap.size,1,none⟩=some (.int .i64 (k:Int))/\wz.cell? ⟨w.heap.size,2,none⟩=some (.int .i64 z.f.mn)/\wz.cell? ⟨w.heap.size,3,none⟩=some (.int .i64 z.f.mx)/\wz.cell? ⟨w.heap.size,4,none⟩=some (.slice z.f.rq z.f.rs.length z.f.rc)/\wz.cell? ⟨w.heap.size,5,none⟩=some (.slice z.f.kq z.f.kl z.f.kc))):=fun wz hS=>by
        obtain⟨s1,s2⟩:=hS
        rw [<- HKN.out]
        simp only [Six,Nat.zero_add] at s1 s2
        exact⟨s1,s2⟩
       refine wp_region_held_drew (S:=fun w'=>Six w' bo 0 y.f/\Six w' w.heap.size 0 z.f) (by kernel_rfl) SK.out (fun hHeld=>?_)
       refine wpAnyH_take (i:=0) (oi:=_) (v:=?_) rfl (by kernel_rfl) (by kernel_rfl) (by kernel_rfl) (fun _ _ _ h=>h) (Or.inl ⟨by rfl,?_⟩) (by assumption) ?_
       rotate_left
       ·intro wz hSw;obtain⟨⟨q0,q1,q2,q3,q4,q5⟩,⟨r0,r1,r2,r3,r4,r5⟩⟩:=QC.out wz hSw;clear hSw;go_simp;try with_reducible rfl
       dsimp only [Act.put,List.getElem_toArray,List.getElem_cons_zero,List.getElem_cons_succ]
       simp only [List.setIfInBounds_toArray,List.set_cons_zero,List.set_cons_succ]
       refine wpAnyH_take (i:=1) (oi:=_) (v:=?_) rfl (by kernel_rfl) (by kernel_rfl) (by kernel_rfl) (fun _ _ _ h=>h) (Or.inl ⟨by rfl,?_⟩) (by assumption) ?_
       rotate_left
       ·intro wz hSw;obtain⟨⟨q0,q1,q2,q3,q4,q5⟩,⟨r0,r1,r2,r3,r4,r5⟩⟩:=QC.out wz hSw;clear hSw;go_simp;try with_reducible rfl
       dsimp only [Act.put,List.getElem_toArray,List.getElem_cons_zero,List.getElem_cons_succ]
       simp only [List.setIfInBounds_toArray,List.set_cons_zero,List.set_cons_succ]
       refine wpAnyH_take (i:=2) (oi:=_) (v:=?_) rfl (by kernel_rfl) (by kernel_rfl) (by kernel_rfl) (fun _ _ _ h=>h) (Or.inl ⟨by rfl,?_⟩) (by assumption) ?_
       rotate_left
       ·intro wz hSw;obtain⟨⟨q0,q1,q2,q3,q4,q5⟩,⟨r0,r1,r2,r3,r4,r5⟩⟩:=QC.out wz hSw;clear hSw;go_simp;try with_reducible rfl
       dsimp only [Act.put,List.getElem_toArray,List.getElem_cons_zero,List.getElem_cons_succ]
       simp only [List.setIfInBounds_toArray,List.set_cons_zero,List.set_cons_succ]
       refine wpAnyH_take (i:=3) (oi:=_) (v:=?_) rfl (by kernel_rfl) (by kernel_rfl) (by kernel_rfl) (fun _ _ _ h=>h) (Or.inl ⟨by rfl,?_⟩) (by assumption) ?_
       rotate_left
       ·intro wz hSw;obtain⟨⟨q0,q1,q2,q3,q4,q5⟩,⟨r0,r1,r2,r3,r4,r5⟩⟩:=QC.out wz hSw;clear hSw;go_simp;try with_reducible rfl
       dsimp only [Act.put,List.getElem_toArray,List.getElem_cons_zero,List.getElem_cons_succ]
       simp only [List.setIfInBounds_toArray,List.set_cons_zero,List.set_cons_succ]
       refine wpAnyH_take (i:=4) (oi:=_) (v:=?_) rfl (by kernel_rfl) (by kernel_rfl) (by kernel_rfl) (fun _ _ _ h=>h) (Or.inl ⟨by rfl,?_⟩) (by assumption) ?_
       rotate_left
       ·intro wz hSw;obtain⟨⟨q0,q1,q2,q3,q4,q5⟩,⟨r0,r1,r2,r3,r4,r5⟩⟩:=QC.out wz hSw;clear hSw;go_simp;try with_reducible rfl
       dsimp only [Act.put,List.getElem_toArray,List.getElem_cons_zero,List.getElem_cons_succ]
       simp only [List.setIfInBounds_toArray,List.set_cons_zero,List.set_cons_succ]
       refine wpAnyH_take (i:=6) (oi:=_) (v:=?_) rfl (by kernel_rfl) (by kernel_rfl) (by kernel_rfl) (fun _ _ _ h=>h) (Or.inl ⟨by rfl,?_⟩) (by assumption) ?_
       rotate_left
       ·intro wz hSw;obtain⟨⟨q0,q1,q2,q3,q4,q5⟩,⟨r0,r1,r2,r3,r4,r5⟩⟩:=QC.out wz hSw;clear hSw;go_simp;try with_reducible rfl
       dsimp only [Act.put,List.getElem_toArray,List.getElem_cons_zero,List.getElem_cons_succ]
       simp only [List.setIfInBounds_toArray,List.set_cons_zero,List.set_cons_succ]
       refine wpAnyH_take (i:=7) (oi:=_) (v:=?_) rfl (by kernel_rfl) (by kernel_rfl) (by kernel_rfl) (fun _ _ _ h=>h) (Or.inl ⟨by rfl,?_⟩) (by assumption) ?_
       rotate_left
       ·intro wz hSw;obtain⟨⟨q0,q1,q2,q3,q4,q5⟩,⟨r0,r1,r2,r3,r4,r5⟩⟩:=QC.out wz hSw;clear hSw;go_simp;try with_reducible rfl
       dsimp only [Act.put,List.getElem_toArray,List.getElem_cons_zero,List.getElem_cons_succ]
       simp only [List.setIfInBounds_toArray,List.set_cons_zero,List.set_cons_succ]
       refine wpAnyH_ready (rs:=[5]) (by kernel_rfl) (by simp) ?_
       refine AllReadyH.cons rfl (fun K hK=>?_) AllReadyH.nil
       go_simp
       go_at_call 60
       refine(WC.out _ KD.out.ks).mono ?_
       rintro e w5 ⟨rfl,h51,h52⟩
       have K5:=aC (KD.out.call h52 h51)
       have S5:Hid (Six w5 bo 0 y.f/\Six w5 w.heap.size 0 z.f):=⟨SK.out.1.ck (N:=fun k=>k≠b) (h52.ckeep (fun k e z=>z e)) (by have:=K4.out.bw;omega),K5.out.nb.six⟩
       clear h51 h52
       refine hK.out _ _ S5.out (fun hHeld2=>?_)
       clear hK K
       refine wpAnyH_ready (rs:=[8]) (by kernel_rfl) (by simp) ?_
       refine AllReadyH.cons rfl (fun K hK=>?_) AllReadyH.nil
       go_simp
       refine hK.out _ _ S5.out (fun hHeld3=>?_)
       clear hK K
       refine wpAnyH_ready (rs:=[9]) (by kernel_rfl) (by simp) ?_
       refine AllReadyH.cons rfl (fun K hK=>?_) AllReadyH.nil
       have lb5:=K5.out.ks.kw.lt
       have fz5:=fun i=>K5.out.ks.kw.frz i
       obtain⟨v1,hv1⟩:=K5.out.ks.kw.any (i:=39+k * 2) (by omega)
       obtain⟨v2,hv2⟩:=K5.out.ks.kw.any (i:=39+k * 2+1) (by omega)
       have PW:=aC (K5.out.ks.kw.putW hk31 HGX.out)
       have FW:Hid (Fr (fun z=>z=b) w5 ((w5.setCell ⟨b,39+k * 2,none⟩ (.int .i64 xa)).setCell ⟨b,39+k * 2+1,none⟩ (.int .i64 xb))):=((Fr.refl (fun z=>z=b) w5).setCell (p:=⟨b,39+k * 2,none⟩) rfl _).setCell (p:=⟨b,39+k * 2+1,none⟩) rfl _
       have K6:=aC (K5.out.call FW.out PW.out.1)
       have S6:Hid (Six ((w5.setCell ⟨b,39+k * 2,none⟩ (.int .i64 xa)).setCell ⟨b,39+k * 2+1,none⟩ (.int .i64 xb)) bo 0 y.f/\Six ((w5.setCell ⟨b,39+k * 2,none⟩ (.int .i64 xa)).setCell ⟨b,39+k * 2+1,none⟩ (.int .i64 xb)) w.heap.size 0 z.f):=⟨S5.out.1.ck (N:=fun k=>k≠b) (FW.out.ckeep (fun k e z=>z e)) (by have:=K4.out.bw;omega),K6.out.nb.six⟩
       go_simp
       refine hK.out _ _ S6.out (fun hHeld4=>?_)
       clear hK K
       refine wpAnyH_done (by kernel_rfl) ?_ _
       go_wp2_with fail
       go_meet
       exact⟨K6.out,PW.out.2⟩
      case rest=>
       obtain⟨hw,hy0,hy1⟩:=hcut
       have K6:=aC hw
       have HY0:=aC hy0
       have HY1:=aC hy1
       clear hw n0 n1 n2 n3 n4 n5 s0' s1' s2' s3' s4' s5' lb4 ln4 K4 hy0 hy1 hbo
       obtain⟨n0,n1,n2,n3,n4,n5⟩:=K6.out.nb.six
       simp only [Nat.zero_add] at n1 n2 n3 n4 n5
       rw [HKN.out] at n1
       have lb6:=K6.out.ks.kw.lt
       have ln6:=aB K6.out.nb
       rename World=>w6
       go_upto_region 42 with fail
       go_cut [191] (fun _ wx=>WI w B b t c o G z.f xs q cc wx/\wx.cell? ⟨b,39+k * 2,none⟩=some (.int .i64 xa)/\wx.cell? ⟨b,39+k * 2+1,none⟩=some (.int .i64 xb))
       case first=>as_aux_lemma=>
        have KD:Hid (WI w B b t c o G z.f xs q cc w6.drew):=K6.out.below (Below.refl _ _).drew
        have SK:Hid (Six w6.drew w.heap.size 0 z.f):=KD.out.nb.six
        have QC:Hid (∀ wz,Six wz w.heap.size 0 z.f->(wz.cell? ⟨w.heap.size,0,none⟩=some (.int .i64 z.f.k)/\wz.cell? ⟨w.heap.size,1,none⟩=some (.int .i64 (k:Int))/\wz.cell? ⟨w.heap.size,2,none⟩=some (.int .i64 z.f.mn)/\wz.cell? ⟨w.heap.size,3,none⟩=some (.int .i64 z.f.mx)/\wz.cell? ⟨w.heap.size,4,none⟩=some (.slice z.f.rq z.f.rs.length z.f.rc)/\wz.cell? ⟨w.heap.size,5,none⟩=some (.slice z.f.kq z.f.kl z.f.kc))):=fun wz s2=>by
         rw [<- HKN.out]
         simp only [Six,Nat.zero_add] at s2
         exact s2
        have hv8:=KD.out.ks.kw.has hk31
        obtain⟨h6,hv1,-⟩:=hv8
        have fz6:=fun i=>KD.out.ks.kw.frz i
        have lb7:=KD.out.ks.kw.lt
        have yd0:w6.drew.cell? ⟨b,39+k * 2,none⟩=some (.int .i64 (G (k:Int)).1):=by rw [HGX.out];exact HY0.out
        have yd1:w6.drew.cell? ⟨b,39+k * 2+1,none⟩=some (.int .i64 (G (k:Int)).2):=by rw [HGX.out];exact HY1.out
        have PH:=aC (KD.out.ks.kw.putH hk31 ⟨yd0,yd1⟩)
        have FH:Hid (Fr (fun z=>z=b) w6.drew (w6.drew.setCell ⟨b,8+k,none⟩ (.bool true))):=(Fr.refl (fun z=>z=b) w6.drew).setCell (p:=⟨b,8+k,none⟩) rfl _
        have K7:=aC (KD.out.call FH.out PH.out)
        have Z0:Hid ((w6.drew.setCell ⟨b,8+k,none⟩ (.bool true)).cell? ⟨b,39+k * 2,none⟩=some (.int .i64 xa)):=aC (by rw [nB _ (by omega)];exact HY0.out)
        have Z1:Hid ((w6.drew.setCell ⟨b,8+k,none⟩ (.bool true)).cell? ⟨b,39+k * 2+1,none⟩=some (.int .i64 xb)):=aC (by rw [nB _ (by omega)];exact HY1.out)
        clear yd0 yd1
        refine wp_region_held_drew (S:=fun w'=>Six w' w.heap.size 0 z.f) (by kernel_rfl) SK.out (fun hHeld=>?_)
        refine wpAnyH_take (i:=0) (oi:=_) (v:=?_) rfl (by kernel_rfl) (by kernel_rfl) (by kernel_rfl) (fun _ _ _ h=>h) (Or.inl ⟨by rfl,?_⟩) (by assumption) ?_
        rotate_left
        ·intro wz hSw;obtain⟨r0,r1,r2,r3,r4,r5⟩:=QC.out wz hSw;clear hSw;go_simp;try with_reducible rfl
        dsimp only [Act.put,List.getElem_toArray,List.getElem_cons_zero,List.getElem_cons_succ]
        simp only [List.setIfInBounds_toArray,List.set_cons_zero,List.set_cons_succ]
        refine wpAnyH_take (i:=1) (oi:=_) (v:=?_) rfl (by kernel_rfl) (by kernel_rfl) (by kernel_rfl) (fun _ _ _ h=>h) (Or.inl ⟨by rfl,?_⟩) (by assumption) ?_
        rotate_left
        ·intro wz hSw;obtain⟨r0,r1,r2,r3,r4,r5⟩:=QC.out wz hSw;clear hSw;go_simp;try with_reducible rfl
        dsimp only [Act.put,List.getElem_toArray,List.getElem_cons_zero,List.getElem_cons_succ]
        simp only [List.setIfInBounds_toArray,List.set_cons_zero,List.set_cons_succ]
        refine wpAnyH_take (i:=2) (oi:=_) (v:=?_) rfl (by kernel_rfl) (by kernel_rfl) (by kernel_rfl) (fun _ _ _ h=>h) (Or.inl ⟨by rfl,?_⟩) (by assumption) ?_
        rotate_left
        ·intro wz hSw;obtain⟨r0,r1,r2,r3,r4,r5⟩:=QC.out wz hSw;clear hSw;go_simp;try with_reducible rfl
        dsimp only [Act.put,List.getElem_toArray,List.getElem_cons_zero,List.getElem_cons_succ]
        simp only [List.setIfInBounds_toArray,List.set_cons_zero,List.set_cons_succ]
        refine wpAnyH_take (i:=3) (oi:=_) (v:=?_) rfl (by kernel_rfl) (by kernel_rfl) (by kernel_rfl) (fun _ _ _ h=>h) (Or.inl ⟨by rfl,?_⟩) (by assumption) ?_
        rotate_left
        ·intro wz hSw;obtain⟨r0,r1,r2,r3,r4,r5⟩:=QC.out wz hSw;clear hSw;go_simp;try with_reducible rfl
        dsimp only [Act.put,List.getElem_toArray,List.getElem_cons_zero,List.getElem_cons_succ]
        simp only [List.setIfInBounds_toArray,List.set_cons_zero,List.set_cons_succ]
        refine wpAnyH_take (i:=4) (oi:=_) (v:=?_) rfl (by kernel_rfl) (by kernel_rfl) (by kernel_rfl) (fun _ _ _ h=>h) (Or.inl ⟨by rfl,?_⟩) (by assumption) ?_
        rotate_left
        ·intro wz hSw;obtain⟨r0,r1,r2,r3,r4,r5⟩:=QC.out wz hSw;clear hSw;go_simp;try with_reducible rfl
        dsimp only [Act.put,List.getElem_toArray,List.getElem_cons_zero,List.getElem_cons_succ]
        simp only [List.setIfInBounds_toArray,List.set_cons_zero,List.set_cons_succ]
        refine wpAnyH_ready (rs:=[5]) (by kernel_rfl) (by simp) ?_
        refine AllReadyH.cons rfl (fun K hK=>?_) AllReadyH.nil
        go_simp
        refine hK.out _ _ SK.out (fun hHeld3=>?_)
        clear hK K
        refine wpAnyH_ready (rs:=[6]) (by kernel_rfl) (by simp) ?_
        refine AllReadyH.cons rfl (fun K hK=>?_) AllReadyH.nil
        go_simp
        refine hK.out _ _ K7.out.nb.six (fun hHeld4=>?_)
        clear hK K
        refine wpAnyH_done (by kernel_rfl) ?_ _
        go_wp2_with fail
        go_meet
        exact⟨K7.out,Z0.out,Z1.out⟩
       case rest=>
        obtain⟨hw,hy0,hy1⟩:=hcut
        have K3:=aC hw
        clear hw n0 n1 n2 n3 n4 n5 lb6 ln6 K6
        obtain⟨n0,n1,n2,n3,n4,n5⟩:=K3.out.nb.six
        simp only [Nat.zero_add] at n1 n2 n3 n4 n5
        rw [HKN.out] at n1
        have lb3:=K3.out.ks.kw.lt
        have ln3:=aB K3.out.nb
        go_upto_region 43 with fail
        refine aP (List.cons_ne_nil _ _) (by kernel_rfl) (by kernel_rfl) (by kernel_rfl) ?_
        dsimp only [List.dropLast,List.getLast]
        repeat (go_big_quiet_step (first | exact rfl))
        refine wpQuiet_nil ?_
        intro w4 hw
        have K4:=aC (K3.out.below (aQ hw))
        clear hw hy0 hy1 n0 n1 n2 n3 n4 n5
        have z0:=aA K4.out.rz (i:=0) rfl
        have z1:=aA K4.out.rz (i:=1) rfl
        have fz:=fun z=>aF K4.out.rz z
        go_wp2
        refine eG (b:=w.heap.size+1) (x:=(xa,xb)) (K4.out.end (xa,xb)).1 rfl rfl ?_
        exact⟨by rw [hv.out],(K4.out.end (xa,xb)).2⟩
   ·have hone:=dV HNP1.out (.inr hk)
    have hbd:=lO HNP1.out hk
    obtain⟨⟨xa,xb⟩,hx0⟩:∃ x,xs[0]?=some x:=⟨_,List.getElem?_eq_getElem (by rw [HLEN.out];omega)⟩
    have hv:Hid (evG (bI c) G z=(lst (z.f.mn * xa),dG z.f.mx xb)):=aC (by rw [HV.out];unfold bI;rw [hk,qB hx0];rfl)
    have hgd:=GX.out _ (List.mem_of_getElem? hx0)
    unfold bQ at hgd
    simp only at hgd
    have hm1:0<=z.f.mn/\z.f.mn<=255/\-1<=z.f.mx/\z.f.mx<=255:=by simp [fF] at hbd;omega
    obtain⟨mn,hmn⟩:∃ mn,z.f.mn=mn:=⟨_,rfl⟩
    obtain⟨mx,hmx⟩:∃ mx,z.f.mx=mx:=⟨_,rfl⟩
    rw [hmn,hmx] at hm1 hv
    have HMN:=aC hmn
    have HMX:=aC hmx
    have hmul:0<=mn * xa/\mn * xa<=255 * 1000000:=⟨Int.mul_nonneg hm1.1 hgd.1.1,Int.mul_le_mul hm1.2.1 hgd.1.2 hgd.1.1 (by omega)⟩
    have w1:wrap64 (mn * xa)=mn * xa:=by unfold wrap64;omega
    have w2:IntKind.wrap .i64 (mn * xa)=mn * xa:=by rw [IntKind.wrap_i64];omega
    have e2:(z.f.k==2)=false:=by rw [hk];rfl
    have e5:(z.f.k==5)=false:=by rw [hk];rfl
    have e6:(z.f.k==6)=false:=by rw [hk];rfl
    have e7:(z.f.k==7)=false:=by rw [hk];rfl
    have e8:(z.f.k==8)=false:=by rw [hk];rfl
    have e9:(z.f.k==9)=true:=by rw [hk];rfl
    have b0:(0:Int) < (xs.length:Int):=by rw [HLEN.out];omega
    have b0n:0 < xs.length:=by omega
    have HX0:=aC hx0
    obtain⟨g,rfl,hg,y0,y1⟩:=K.out.at hx0
    simp only [Nat.zero_mul,Nat.zero_add] at y0 y1
    have LC:Hid (∀ W,Calls Tryz.prog 109 #[.int .i64 (mn * xa)] W fun e w'=>e=.returned (.int .i64 (lst (mn * xa)))/\w'=W):=fun W=>zR _ W
    clear hk hnp1 hx0 hone hbd hmn hmx
    go_upto_region 45 with fail
    go_cut [15] (fun v wx=>∃ bo,v=.pointer (some ⟨bo,0,none⟩)/\W2 w B b t c o G z.f xs (some ⟨g,0,none⟩) cc bo (lst (mn * xa),0) wx)
    case first=>as_aux_lemma=>
     have SK:Hid (Six wr.drew w.heap.size 0 z.f/\wr.drew.cell? ⟨g,0,none⟩=some (.int .i64 xa)/\wr.drew.cell? ⟨g,1,none⟩=some (.int .i64 xb)):=⟨(K.out.below (Below.refl _ _).drew).nb.six,y0,y1⟩
     have QC:Hid (∀ wz,(Six wz w.heap.size 0 z.f/\wz.cell? ⟨g,0,none⟩=some (.int .i64 xa)/\wz.cell? ⟨g,1,none⟩=some (.int .i64 xb))->(wz.cell? ⟨w.heap.size,0,none⟩=some (.int .i64 z.f.k)/\wz.cell? ⟨w.heap.size,1,none⟩=some (.int .i64 z.f.n)/\wz.cell? ⟨w.heap.size,2,none⟩=some (.int .i64 mn)/\wz.cell? ⟨w.heap.size,3,none⟩=some (.int .i64 mx)/\wz.cell? ⟨w.heap.size,4,none⟩=some (.slice z.f.rq z.f.rs.length z.f.rc)/\wz.cell? ⟨w.heap.size,5,none⟩=some (.slice z.f.kq z.f.kl z.f.kc))/\wz.cell? ⟨g,0,none⟩=some (.int .i64 xa)/\wz.cell? ⟨g,1,none⟩=some (.int .i64 xb)):=fun wz s2=>by
      obtain⟨s2,s3⟩:=s2
      rw [<- HMN.out,<- HMX.out]
      simp only [Six,Nat.zero_add] at s2
      exact⟨s2,s3⟩
     have BA:Hid (Below wr.heap.size wr (wr.alloc (.cells #[.int .i64 0,.int .i64 0] 102)).drew):=(bz9).drew
     have SA:Hid (Six (wr.alloc (.cells #[.int .i64 0,.int .i64 0] 102)).drew w.heap.size 0 z.f/\(wr.alloc (.cells #[.int .i64 0,.int .i64 0] 102)).drew.cell? ⟨g,0,none⟩=some (.int .i64 xa)/\(wr.alloc (.cells #[.int .i64 0,.int .i64 0] 102)).drew.cell? ⟨g,1,none⟩=some (.int .i64 xb)):=⟨(K.out.below BA.out).nb.six,(BA.out.cell (p:=⟨g,0,none⟩) hg).trans y0,(BA.out.cell (p:=⟨g,1,none⟩) hg).trans y1⟩
     have T1:Hid (W2 w B b t c o G z.f xs (some ⟨g,0,none⟩) cc wr.heap.size (0,0) (wr.alloc (.cells #[.int .i64 0,.int .i64 0] 102)).drew):=(K.out.box (0,0)).below (Below.refl _ _).drew
     have T2:Hid (W2 w B b t c o G z.f xs (some ⟨g,0,none⟩) cc wr.heap.size (lst (mn * xa),0) (wr.alloc (.cells #[.int .i64 (lst (mn * xa)),.int .i64 0] 102)).drew):=(K.out.box (lst (mn * xa),0)).below (Below.refl _ _).drew
     have ST:Hid (Six (wr.alloc (.cells #[.int .i64 (lst (mn * xa)),.int .i64 0] 102)).drew w.heap.size 0 z.f/\(wr.alloc (.cells #[.int .i64 (lst (mn * xa)),.int .i64 0] 102)).drew.cell? ⟨g,0,none⟩=some (.int .i64 xa)/\(wr.alloc (.cells #[.int .i64 (lst (mn * xa)),.int .i64 0] 102)).drew.cell? ⟨g,1,none⟩=some (.int .i64 xb)):=by
      obtain⟨g9,hq9,-,d0,d1⟩:=T2.out.wi.at HX0.out
      injection hq9 with hq9
      injection hq9 with hq9
      subst hq9
      simp only [Nat.zero_mul,Nat.zero_add] at d0 d1
      exact⟨T2.out.wi.nb.six,d0,d1⟩
     clear y0 y1 n0 n1 n2 n3 n4 n5
     refine wp_region_held_drew (S:=fun w'=>Six w' w.heap.size 0 z.f/\w'.cell? ⟨g,0,none⟩=some (.int .i64 xa)/\w'.cell? ⟨g,1,none⟩=some (.int .i64 xb)) (by kernel_rfl) SK.out (fun hHeld=>?_)
     refine wpAnyH_take (i:=0) (oi:=_) (v:=?_) rfl (by kernel_rfl) (by kernel_rfl) (by kernel_rfl) (fun _ _ _ h=>h) (Or.inl ⟨by rfl,?_⟩) (by assumption) ?_
     rotate_left
     ·intro wz hSw;obtain⟨⟨r0,r1,r2,r3,r4,r5⟩,y0,y1⟩:=QC.out wz hSw;clear hSw;go_simp;try with_reducible rfl
     dsimp only [Act.put,List.getElem_toArray,List.getElem_cons_zero,List.getElem_cons_succ]
     simp only [List.setIfInBounds_toArray,List.set_cons_zero,List.set_cons_succ]
     refine wpAnyH_take (i:=1) (oi:=_) (v:=?_) rfl (by kernel_rfl) (by kernel_rfl) (by kernel_rfl) (fun _ _ _ h=>h) (Or.inl ⟨by rfl,?_⟩) (by assumption) ?_
     rotate_left
     ·intro wz hSw;obtain⟨⟨r0,r1,r2,r3,r4,r5⟩,y0,y1⟩:=QC.out wz hSw;clear hSw;go_simp;try with_reducible rfl
     dsimp only [Act.put,List.getElem_toArray,List.getElem_cons_zero,List.getElem_cons_succ]
     simp only [List.setIfInBounds_toArray,List.set_cons_zero,List.set_cons_succ]
     refine wpAnyH_take (i:=2) (oi:=_) (v:=?_) rfl (by kernel_rfl) (by kernel_rfl) (by kernel_rfl) (fun _ _ _ h=>h) (Or.inl ⟨by rfl,?_⟩) (by assumption) ?_
     rotate_left
     ·intro wz hSw;obtain⟨⟨r0,r1,r2,r3,r4,r5⟩,y0,y1⟩:=QC.out wz hSw;clear hSw;go_simp;try with_reducible rfl
     dsimp only [Act.put,List.getElem_toArray,List.getElem_cons_zero,List.getElem_cons_succ]
     simp only [List.setIfInBounds_toArray,List.set_cons_zero,List.set_cons_succ]
     refine wpAnyH_take (i:=3) (oi:=_) (v:=?_) rfl (by kernel_rfl) (by kernel_rfl) (by kernel_rfl) (fun _ _ _ h=>h) (Or.inl ⟨by rfl,?_⟩) (by assumption) ?_
     rotate_left
     ·intro wz hSw;obtain⟨⟨r0,r1,r2,r3,r4,r5⟩,y0,y1⟩:=QC.out wz hSw;clear hSw;go_simp;try with_reducible rfl
     dsimp only [Act.put,List.getElem_toArray,List.getElem_cons_zero,List.getElem_cons_succ]
     simp only [List.setIfInBounds_toArray,List.set_cons_zero,List.set_cons_succ]
     refine wpAnyH_take (i:=4) (oi:=_) (v:=?_) rfl (by kernel_rfl) (by kernel_rfl) (by kernel_rfl) (fun _ _ _ h=>h) (Or.inl ⟨by rfl,?_⟩) (by assumption) ?_
     rotate_left
     ·intro wz hSw;obtain⟨⟨r0,r1,r2,r3,r4,r5⟩,y0,y1⟩:=QC.out wz hSw;clear hSw;go_simp;try with_reducible rfl
     dsimp only [Act.put,List.getElem_toArray,List.getElem_cons_zero,List.getElem_cons_succ]
     simp only [List.setIfInBounds_toArray,List.set_cons_zero,List.set_cons_succ]
     refine wpAnyH_take (i:=5) (oi:=_) (v:=?_) rfl (by kernel_rfl) (by kernel_rfl) (by kernel_rfl) (fun _ _ _ h=>h) (Or.inl ⟨by rfl,?_⟩) (by assumption) ?_
     rotate_left
     ·intro wz hSw;obtain⟨⟨r0,r1,r2,r3,r4,r5⟩,y0,y1⟩:=QC.out wz hSw;clear hSw;go_simp;try with_reducible rfl
     dsimp only [Act.put,List.getElem_toArray,List.getElem_cons_zero,List.getElem_cons_succ]
     simp only [List.setIfInBounds_toArray,List.set_cons_zero,List.set_cons_succ]
     refine wpAnyH_take (i:=6) (oi:=_) (v:=?_) rfl (by kernel_rfl) (by kernel_rfl) (by kernel_rfl) (fun _ _ _ h=>h) (Or.inl ⟨by rfl,?_⟩) (by assumption) ?_
     rotate_left
     ·intro wz hSw;obtain⟨⟨r0,r1,r2,r3,r4,r5⟩,y0,y1⟩:=QC.out wz hSw;clear hSw;go_simp;try with_reducible rfl
     dsimp only [Act.put,List.getElem_toArray,List.getElem_cons_zero,List.getElem_cons_succ]
     simp only [List.setIfInBounds_toArray,List.set_cons_zero,List.set_cons_succ]
     have z0:(wr.alloc (.cells #[.int .i64 0,.int .i64 0] 102)).drew.cell? ⟨wr.heap.size,0,none⟩=some (.int .i64 0):=aA T1.out.y (i:=0) rfl
     have z1:(wr.alloc (.cells #[.int .i64 0,.int .i64 0] 102)).drew.cell? ⟨wr.heap.size,1,none⟩=some (.int .i64 0):=aA T1.out.y (i:=1) rfl
     have fz:=fun z=>aF T1.out.y z
     refine wpAnyH_ready (rs:=[7,9]) (by kernel_rfl) (by simp) ?_
     refine AllReadyH.cons rfl (fun K hK=>?_) (AllReadyH.cons rfl (fun K hK=>?_) AllReadyH.nil)
     ·go_simp
      go_at_call 109
      (with_reducible refine(LC.out _).mono ?_)
      rintro e w5 ⟨rfl,rfl⟩
      refine hK.out _ _ SK.out (fun hHeld2=>?_)
      clear hK K
      refine wpAnyH_take (i:=8) (oi:=_) (v:=?_) rfl (by kernel_rfl) (by kernel_rfl) (by kernel_rfl) (fun _ _ _ h=>h) (Or.inl ⟨by rfl,?_⟩) (by assumption) ?_
      rotate_left
      ·intro wz hSw;obtain⟨⟨r0,r1,r2,r3,r4,r5⟩,y0,y1⟩:=QC.out wz hSw;clear hSw;go_simp;try with_reducible rfl
      dsimp only [Act.put,List.getElem_toArray,List.getElem_cons_zero,List.getElem_cons_succ]
      simp only [List.setIfInBounds_toArray,List.set_cons_zero,List.set_cons_succ]
      refine wpAnyH_ready (rs:=[9]) (by kernel_rfl) (by simp) ?_
      refine AllReadyH.cons rfl (fun K hK=>?_) AllReadyH.nil
      go_simp
      refine hK.out _ _ SA.out (fun hHeld3=>?_)
      clear hK K
      refine wpAnyH_ready (rs:=[10]) (by kernel_rfl) (by simp) ?_
      refine AllReadyH.cons rfl (fun K hK=>?_) AllReadyH.nil
      go_simp
      refine hK.out _ _ ST.out (fun hHeld4=>?_)
      clear hK K
      refine wpAnyH_done (by kernel_rfl) ?_ _
      go_wp2_with fail
      go_meet
      exact⟨wr.heap.size,rfl,T2.out⟩
     ·go_simp
      refine hK.out _ _ SA.out (fun hHeld2=>?_)
      clear hK K
      refine wpAnyH_ready (rs:=[7]) (by kernel_rfl) (by simp) ?_
      refine AllReadyH.cons rfl (fun K hK=>?_) AllReadyH.nil
      go_simp
      go_at_call 109
      (with_reducible refine(LC.out _).mono ?_)
      rintro e w5 ⟨rfl,rfl⟩
      refine hK.out _ _ SA.out (fun hHeld3=>?_)
      clear hK K
      refine wpAnyH_take (i:=8) (oi:=_) (v:=?_) rfl (by kernel_rfl) (by kernel_rfl) (by kernel_rfl) (fun _ _ _ h=>h) (Or.inl ⟨by rfl,?_⟩) (by assumption) ?_
      rotate_left
      ·intro wz hSw;obtain⟨⟨r0,r1,r2,r3,r4,r5⟩,y0,y1⟩:=QC.out wz hSw;clear hSw;go_simp;try with_reducible rfl
      dsimp only [Act.put,List.getElem_toArray,List.getElem_cons_zero,List.getElem_cons_succ]
      simp only [List.setIfInBounds_toArray,List.set_cons_zero,List.set_cons_succ]
      refine wpAnyH_ready (rs:=[10]) (by kernel_rfl) (by simp) ?_
      refine AllReadyH.cons rfl (fun K hK=>?_) AllReadyH.nil
      go_simp
      refine hK.out _ _ ST.out (fun hHeld4=>?_)
      clear hK K
      refine wpAnyH_done (by kernel_rfl) ?_ _
      go_wp2_with fail
      go_meet
      exact⟨wr.heap.size,rfl,T2.out⟩
    case rest=>
     obtain⟨bo,rfl,ht⟩:=hcut
     have TT:=aC ht
     clear ht y0 y1 n0 n1 n2 n3 n4 n5 ln lr K LC
     rename World=>wq
     obtain⟨n0,n1,n2,n3,n4,n5⟩:=TT.out.wi.nb.six
     simp only [Nat.zero_add] at n1 n2 n3 n4 n5
     rw [HMN.out] at n2
     rw [HMX.out] at n3
     obtain⟨g2,hq2,hg2,d0,d1⟩:=TT.out.wi.at HX0.out
     injection hq2 with hq2
     injection hq2 with hq2
     subst hq2
     simp only [Nat.zero_mul,Nat.zero_add] at d0 d1
     have y0:=aA TT.out.y (i:=0) rfl
     have y1:=aA TT.out.y (i:=1) rfl
     have fy:=fun z=>aF TT.out.y z
     have lo:=aB TT.out.y
     have ln:=aB TT.out.wi.nb
     simp only at y0 y1
     by_cases h1:mx=0
     ·have FE:Hid (dG mx xb=0):=aC (by unfold dG;rw [if_pos (.inl h1)])
      have e1:(mx==0)=true:=by rw [h1];rfl
      clear h1
      have z0:=aA TT.out.wi.rz (i:=0) rfl
      have z1:=aA TT.out.wi.rz (i:=1) rfl
      have fz:=fun z=>aF TT.out.wi.rz z
      go_wp2
      refine eG (b:=w.heap.size+1) (x:=(lst (mn * xa),0)) (TT.out.wi.end (lst (mn * xa),0)).1 rfl rfl ?_
      exact⟨by rw [hv.out,FE.out],(TT.out.wi.end (lst (mn * xa),0)).2⟩
     ·have e1:(mx==0)=false:=by simpa using h1
      by_cases h2:xb=0
      ·have FE:Hid (dG mx xb=0):=aC (by unfold dG;rw [if_pos (.inr h2)])
       have e2':(xb==0)=true:=by rw [h2];rfl
       clear h1 h2
       have z0:=aA TT.out.wi.rz (i:=0) rfl
       have z1:=aA TT.out.wi.rz (i:=1) rfl
       have fz:=fun z=>aF TT.out.wi.rz z
       go_wp2
       refine eG (b:=w.heap.size+1) (x:=(lst (mn * xa),0)) (TT.out.wi.end (lst (mn * xa),0)).1 rfl rfl ?_
       exact⟨by rw [hv.out,FE.out],(TT.out.wi.end (lst (mn * xa),0)).2⟩
      ·have e2':(xb==0)=false:=by simpa using h2
       by_cases h3:mx=-1
       ·have FE:Hid (dG mx xb=-1):=aC (by unfold dG;rw [if_neg (by omega),if_pos (.inl h3)])
        have e3:(mx==-1)=true:=by rw [h3];rfl
        clear h1 h2 h3
        have T5:=aC (TT.out.set1 (-1))
        go_upto_region 50 with fail
        clear n0 n1 n2 n3 n4 n5 d0 d1 y0 y1 fy
        generalize (wq.setCell ⟨bo,1,none⟩ (.int .i64 (-1)))=w5 at T5 ⊢
        have y0:=aA T5.out.y (i:=0) rfl
        have y1:=aA T5.out.y (i:=1) rfl
        have lo5:=aB T5.out.y
        simp only at y0 y1
        have z0:=aA T5.out.wi.rz (i:=0) rfl
        have z1:=aA T5.out.wi.rz (i:=1) rfl
        have fz:=fun z=>aF T5.out.wi.rz z
        go_wp2
        refine eG (b:=w.heap.size+1) (x:=(lst (mn * xa),-1)) (T5.out.wi.end (lst (mn * xa),-1)).1 rfl rfl ?_
        exact⟨by rw [hv.out,FE.out],(T5.out.wi.end (lst (mn * xa),-1)).2⟩
       ·have e3:(mx==-1)=false:=by simpa using h3
        by_cases h4:xb=-1
        ·have FE:Hid (dG mx xb=-1):=aC (by unfold dG;rw [if_neg (by omega),if_pos (.inr h4)])
         have e4:(xb==-1)=true:=by rw [h4];rfl
         clear h1 h2 h3 h4
         have T5:=aC (TT.out.set1 (-1))
         go_upto_region 50 with fail
         clear n0 n1 n2 n3 n4 n5 d0 d1 y0 y1 fy
         generalize (wq.setCell ⟨bo,1,none⟩ (.int .i64 (-1)))=w5 at T5 ⊢
         have y0:=aA T5.out.y (i:=0) rfl
         have y1:=aA T5.out.y (i:=1) rfl
         have lo5:=aB T5.out.y
         simp only at y0 y1
         have z0:=aA T5.out.wi.rz (i:=0) rfl
         have z1:=aA T5.out.wi.rz (i:=1) rfl
         have fz:=fun z=>aF T5.out.wi.rz z
         go_wp2
         refine eG (b:=w.heap.size+1) (x:=(lst (mn * xa),-1)) (T5.out.wi.end (lst (mn * xa),-1)).1 rfl rfl ?_
         exact⟨by rw [hv.out,FE.out],(T5.out.wi.end (lst (mn * xa),-1)).2⟩
        ·have e4:(xb==-1)=false:=by simpa using h4
         have FE:Hid (dG mx xb=mst (mx * xb)):=aC (by unfold dG;rw [if_neg (by omega),if_neg (by omega)])
         have hmul2:0<=mx * xb/\mx * xb<=255 * 1000000:=⟨Int.mul_nonneg (by omega) (by omega),Int.mul_le_mul hm1.2.2.2 hgd.2.2 (by omega) (by omega)⟩
         have w3:wrap64 (mx * xb)=mx * xb:=by unfold wrap64;omega
         have w4:IntKind.wrap .i64 (mx * xb)=mx * xb:=by rw [IntKind.wrap_i64];omega
         have GC:Hid (∀ W,Calls Tryz.prog 110 #[.int .i64 (mx * xb)] W fun e w'=>e=.returned (.int .i64 (mst (mx * xb)))/\w'=W):=fun W=>qC _ W
         clear h1 h2 h3 h4
         go_upto_region 46 with fail
         refine aP (List.cons_ne_nil _ _) (by kernel_rfl) (by kernel_rfl) (by kernel_rfl) ?_
         dsimp only [List.dropLast,List.getLast]
         repeat (go_big_quiet_step (first | exact rfl |(go_at_call 110;(with_reducible exact cM (GC.out _)))))
         refine wpQuiet_nil ?_
         intro w5 hw
         have T5:=aC (TT.out.below (aQ hw))
         clear hw n0 n1 n2 n3 n4 n5 d0 d1 y0 y1 fy
         have y0:=aA T5.out.y (i:=0) rfl
         have y1:=aA T5.out.y (i:=1) rfl
         have fy:=fun z=>aF T5.out.y z
         simp only at y0 y1
         have T6:=aC (T5.out.set1 (mst (mx * xb)))
         go_upto_region 50 with fail
         clear y0 y1 fy
         generalize (w5.setCell ⟨bo,1,none⟩ (.int .i64 (mst (mx * xb))))=w6 at T6 ⊢
         have y0:=aA T6.out.y (i:=0) rfl
         have y1:=aA T6.out.y (i:=1) rfl
         have lo6:=aB T6.out.y
         simp only at y0 y1
         have z0:=aA T6.out.wi.rz (i:=0) rfl
         have z1:=aA T6.out.wi.rz (i:=1) rfl
         have fz:=fun z=>aF T6.out.wi.rz z
         go_wp2
         refine eG (b:=w.heap.size+1) (x:=(lst (mn * xa),mst (mx * xb))) (T6.out.wi.end (lst (mn * xa),mst (mx * xb))).1 rfl rfl ?_
         exact⟨by rw [hv.out,FE.out],(T6.out.wi.end (lst (mn * xa),mst (mx * xb))).2⟩
end
section
attribute [local go_sem] Oper.semAt_some bB
theorem aZ9{y:El}{n:Int}(hk:y.2.f.k=7)(hn:y.2.f.n=n):isG n y=true:=by unfold isG;rw [hk,hn];simp
theorem aG9{c o:Bool}{B b:Nat}{t:Tr}{G:Int->Int × Int}(hr:aU c o 0 0 (pp [] t)=0)(hGd:∀ i,bQ (G i))(hG:∀ z∈pp [] t,z.2.f.k=7->G z.2.f.n=evG (bI c) G z.2) :
  ∀ (k m i:Nat) (x:El),(pp [] t)[i]?=some x->i+x.2.sz<=k->x.2.sz<=m->∀ w,KS B b t c o G w->Calls Tryz.prog 60 #[.pointer (some ⟨b,0,none⟩),.agg #[.int .i64 x.2.f.k,.int .i64 x.2.f.n,.int .i64 x.2.f.mn,.int .i64 x.2.f.mx,.slice x.2.f.rq x.2.f.rs.length x.2.f.rc,.slice x.2.f.kq x.2.f.kl x.2.f.kc]] w (WP b t c o G (evG (bI c) G x.2) w):=by
 have hgp:=rZ hr
 have hlen:=kL hr
 have hnp:=eJ hr
 intro k
 induction k with
 | zero=>intro m i x _ h;exact absurd h (by have:=dK x.2;omega)
 | succ k ihk=>
  intro m
  induction m with
  | zero=>intro i x _ _ h;exact absurd h (by have:=dK x.2;omega)
  | succ m ihm=>
   intro i x hx hk hm w hks
   have hmem:=List.mem_of_getElem? hx
   have hil:=zA hx
   refine xH hGd hmem (mW t [] hnp x hmem) ?_ (fun u hu W hW=>?_) (fun h8=>?_) w hks
   ·have:=dL t []
    omega
   ·obtain⟨j,hj⟩:=List.getElem?_of_mem hu
    obtain⟨h1,h2⟩:=aZ7 hx hj
    exact ihm _ _ h1 (by simp only;omega) (by have:=cX hu;simp only;omega) W hW
   ·obtain⟨j,y,y1,y2,y3,y4⟩:=aU6 hgp hx h8
    refine⟨y.2,fun W hW=>?_,fun W hW=>?_⟩
    ·refine aT0 x.2.f.n hW.tb hlen y1 (aZ9 y2 y3) (fun i' x' hi' hx'=>?_)
     cases hg:isG x.2.f.n x' with
     | false=>rfl
     | true=>
      unfold isG at hg
      rw [Bool.and_eq_true] at hg
      have e:=aS9 hgp y1 y2 hx' (by simpa using hg.1) (by rw [y3];exact(by simpa using hg.2:x'.2.f.n=x.2.f.n).symm)
      omega
    ·have e:=hG y (List.mem_of_getElem? y1) y2
     rw [y3] at e
     rw [e]
     have hs:=dK x.2
     exact ihk y.2.sz j y y1 (by omega) lz9 W hW
noncomputable def KC (f:Fl) (c o:Bool):Array Value:=((((((((Tryz.zeroCells106.setIfInBounds 0 (.int .i64 f.k)).setIfInBounds 1 (.int .i64 f.n)).setIfInBounds 2 (.int .i64 f.mn)).setIfInBounds 3 (.int .i64 f.mx)).setIfInBounds 4 (.slice f.rq f.rs.length f.rc)).setIfInBounds 5 (.slice f.kq f.kl f.kc)).setIfInBounds 6 (.bool c)).setIfInBounds 7 (.bool o))
theorem yV:Tryz.zeroCells106.size=287:=by kernel_rfl
theorem aW3:∀ i:Nat,i < 31->Tryz.zeroCells106[8+i]?=some (.bool false)
 | 0,_=>by kernel_rfl
 | 1,_=>by kernel_rfl
 | 2,_=>by kernel_rfl
 | 3,_=>by kernel_rfl
 | 4,_=>by kernel_rfl
 | 5,_=>by kernel_rfl
 | 6,_=>by kernel_rfl
 | 7,_=>by kernel_rfl
 | 8,_=>by kernel_rfl
 | 9,_=>by kernel_rfl
 | 10,_=>by kernel_rfl
 | 11,_=>by kernel_rfl
 | 12,_=>by kernel_rfl
 | 13,_=>by kernel_rfl
 | 14,_=>by kernel_rfl
 | 15,_=>by kernel_rfl
 | 16,_=>by kernel_rfl
 | 17,_=>by kernel_rfl
 | 18,_=>by kernel_rfl
 | 19,_=>by kernel_rfl
 | 20,_=>by kernel_rfl
 | 21,_=>by kernel_rfl
 | 22,_=>by kernel_rfl
 | 23,_=>by kernel_rfl
 | 24,_=>by kernel_rfl
 | 25,_=>by kernel_rfl
 | 26,_=>by kernel_rfl
 | 27,_=>by kernel_rfl
 | 28,_=>by kernel_rfl
 | 29,_=>by kernel_rfl
 | 30,_=>by kernel_rfl
 | i+31,h=>absurd h (by omega)
theorem aS6(f:Fl)(c o:Bool):(KC f c o).size=287:=by unfold KC;simp only [Array.size_setIfInBounds];exact yV
theorem aZ8(f:Fl)(c o:Bool)(i:Nat)(h:8<=i):(KC f c o)[i]?=Tryz.zeroCells106[i]?:=by
 unfold KC
 rw [Array.getElem?_setIfInBounds_ne (by omega),Array.getElem?_setIfInBounds_ne (by omega),Array.getElem?_setIfInBounds_ne (by omega),Array.getElem?_setIfInBounds_ne (by omega),Array.getElem?_setIfInBounds_ne (by omega),Array.getElem?_setIfInBounds_ne (by omega),Array.getElem?_setIfInBounds_ne (by omega),Array.getElem?_setIfInBounds_ne (by omega)]
theorem aS7(f:Fl)(c o:Bool):∀ (i:Nat) (v:Value),(f.cells ++ [.bool c,.bool o])[i]?=some v->(KC f c o)[i]?=some v:=by
 have hz:=yV
 intro i v h
 have hi:i < 8:=by have:=(List.getElem?_eq_some_iff.1 h).1;rw [List.length_append,nW] at this;simpa using this
 unfold KC
 match i,hi,h with
 | 0,_,h=>cases h;rw [Array.getElem?_setIfInBounds_ne (by omega),Array.getElem?_setIfInBounds_ne (by omega),Array.getElem?_setIfInBounds_ne (by omega),Array.getElem?_setIfInBounds_ne (by omega),Array.getElem?_setIfInBounds_ne (by omega),Array.getElem?_setIfInBounds_ne (by omega),Array.getElem?_setIfInBounds_ne (by omega),Array.getElem?_setIfInBounds_self_of_lt (by omega)]
 | 1,_,h=>cases h;rw [Array.getElem?_setIfInBounds_ne (by omega),Array.getElem?_setIfInBounds_ne (by omega),Array.getElem?_setIfInBounds_ne (by omega),Array.getElem?_setIfInBounds_ne (by omega),Array.getElem?_setIfInBounds_ne (by omega),Array.getElem?_setIfInBounds_ne (by omega),Array.getElem?_setIfInBounds_self_of_lt (by simp only [Array.size_setIfInBounds];omega)]
 | 2,_,h=>cases h;rw [Array.getElem?_setIfInBounds_ne (by omega),Array.getElem?_setIfInBounds_ne (by omega),Array.getElem?_setIfInBounds_ne (by omega),Array.getElem?_setIfInBounds_ne (by omega),Array.getElem?_setIfInBounds_ne (by omega),Array.getElem?_setIfInBounds_self_of_lt (by simp only [Array.size_setIfInBounds];omega)]
 | 3,_,h=>cases h;rw [Array.getElem?_setIfInBounds_ne (by omega),Array.getElem?_setIfInBounds_ne (by omega),Array.getElem?_setIfInBounds_ne (by omega),Array.getElem?_setIfInBounds_ne (by omega),Array.getElem?_setIfInBounds_self_of_lt (by simp only [Array.size_setIfInBounds];omega)]
 | 4,_,h=>cases h;rw [Array.getElem?_setIfInBounds_ne (by omega),Array.getElem?_setIfInBounds_ne (by omega),Array.getElem?_setIfInBounds_ne (by omega),Array.getElem?_setIfInBounds_self_of_lt (by simp only [Array.size_setIfInBounds];omega)]
 | 5,_,h=>cases h;rw [Array.getElem?_setIfInBounds_ne (by omega),Array.getElem?_setIfInBounds_ne (by omega),Array.getElem?_setIfInBounds_self_of_lt (by simp only [Array.size_setIfInBounds];omega)]
 | 6,_,h=>cases h;rw [Array.getElem?_setIfInBounds_ne (by omega),Array.getElem?_setIfInBounds_self_of_lt (by simp only [Array.size_setIfInBounds];omega)]
 | 7,_,h=>cases h;rw [Array.getElem?_setIfInBounds_self_of_lt (by simp only [Array.size_setIfInBounds];omega)]
theorem aZ6(V:World)(f:Fl)(c o:Bool)(G:Int->Int × Int):KW (V.alloc (.cells (KC f c o) 106)) V.heap.size f c o G:=by
 refine⟨(KC f c o).toList,?_,by rw [Array.length_toList,aS6],fun i v h=>?_,fun i hi=>⟨false,?_,fun e=>by cases e⟩⟩
 ·rw [Array.toArray_toList];exact aE V _
 ·rw [Array.getElem?_toList];exact aS7 f c o i v h
 ·rw [Array.getElem?_toList,aZ8 f c o _ (by omega)];exact aW3 i hi
theorem aW9(c o:Bool)(t:Tr):tvW (bI c) c o t=if aU c o 0 0 (pp [] t)=0 then (ev (bI c) (fun _=>(0,0)) t).1 else (0,0):=rfl
theorem aF0{w:World}{t:Tr}(c o:Bool)(hta:TB w t)(hsm:Sm t):Calls Tryz.prog 30 #[.agg #[.int .i64 t.f.k,.int .i64 t.f.n,.int .i64 t.f.mn,.int .i64 t.f.mx,.slice t.f.rq t.f.rs.length t.f.rc,.slice t.f.kq t.f.kl t.f.kc],.agg #[.bool c,.bool o]] w fun e w'=>e=.returned (.tuple #[.int .i64 (tvW (bI c) c o t).1,.int .i64 (tvW (bI c) c o t).2])/\Below w.heap.size w w':=by
 have X1:Hid (Bx2 w ((w.alloc (.cells #[.int .i64 t.f.k,.int .i64 t.f.n,.int .i64 t.f.mn,.int .i64 t.f.mx,.slice t.f.rq t.f.rs.length t.f.rc,.slice t.f.kq t.f.kl t.f.kc] 25)).alloc (.cells #[.bool c,.bool o] 27)) t.f c o):=⟨(bz9).alloc (by simp) _,(Below.heap_alloc _ _ _ (by simp)).trans (aE w _),aK _ (by simp only [World.size_alloc])⟩
 have HTA:=aC hta
 have HSM:=aC hsm
 have HV:=aC (aW9 c o t)
 clear hta hsm
 go_enter Tryz.func30,Tryz.ntmps30
 go_upto_region 1 with fail
 generalize ((w.alloc (.cells #[.int .i64 t.f.k,.int .i64 t.f.n,.int .i64 t.f.mn,.int .i64 t.f.mx,.slice t.f.rq t.f.rs.length t.f.rc,.slice t.f.kq t.f.kl t.f.kc] 25)).alloc (.cells #[.bool c,.bool o] 27))=w1 at X1 ⊢
 obtain⟨n0,n1,n2,n3,n4,n5⟩:=X1.out.2.1.six
 simp only [Nat.zero_add] at n1 n2 n3 n4 n5
 have a0:=aA X1.out.2.2 (i:=0) rfl
 have a1:=aA X1.out.2.2 (i:=1) rfl
 have RT:=aC (sA c o (HTA.out.kept X1.out.1) HSM.out)
 by_cases hr:aU c o 0 0 (pp [] t)=0
 ·have HR:=aC hr
  rw [decide_eq_true hr] at RT
  rw [if_pos hr] at HV
  clear hr
  go_upto_region 4 with (go_at_call 38;refine(RT.out).mono ?_;rintro e w2 ⟨rfl,h2⟩;have X2:=aC (X1.out.kept h2);clear h2)
  clear n0 n1 n2 n3 n4 n5 a0 a1
  obtain⟨n0,n1,n2,n3,n4,n5⟩:=X2.out.2.1.six
  simp only [Nat.zero_add] at n1 n2 n3 n4 n5
  have a0:=aA X2.out.2.2 (i:=0) rfl
  have a1:=aA X2.out.2.2 (i:=1) rfl
  go_upto_region 5 with fail
  have K3:Hid (KS w2.heap.size w2.heap.size t c o (ev (bI c) (fun _=>(0,0)) t).2 (w2.alloc (.cells (KC t.f c o) 106))):=by
   have hT2:=HTA.out.kept X2.out.1
   exact⟨hT2.kept (bz9),hT2.foot,Nat.le_refl _,aZ6 w2 _ _ _ _⟩
  have X3:Hid (Bx2 w (w2.alloc (.cells (KC t.f c o) 106)) t.f c o):=X2.out.kept (bz9)
  have HL:=aC X2.out.1.size
  unfold KC at K3 X3
  clear n0 n1 n2 n3 n4 n5 a0 a1
  generalize hz:w2.heap.size=bk at K3 HL ⊢
  generalize (w2.alloc (.cells _ 106))=w3 at K3 X3 ⊢
  clear hz
  obtain⟨n0,n1,n2,n3,n4,n5⟩:=X3.out.2.1.six
  simp only [Nat.zero_add] at n1 n2 n3 n4 n5
  have hgd:=zZ (fun t xs g=>lI (c:=c) (o:=o) t xs g) t (fun _=>(0,0)) (eJ HR.out) (fun _=>fJ)
  have her:=aM1 (yA c) (rZ HR.out) (fun _=>((0:Int),(0:Int)))
  have CW:=aC (aG9 HR.out hgd.2 her.2 t.sz t.sz 0 ([],t) (by rw [bT];rfl) (by simp) lz9 w3 K3.out)
  rw [<- her.1] at CW
  generalize (ev (bI c) (fun _=>(0,0)) t).1=v at CW HV
  clear hgd her
  go_upto_region 6 with (go_at_call 60;refine(CW.out).mono ?_;rintro e w5 ⟨rfl,h51,h52⟩;have B5:=aC (aX X3.out.1 h52 lz9 (fun k e=>by have:=HL.out;omega));clear h51 h52)
  have V6:=aC (aE w5 (.cells #[.int .i64 v.1,.int .i64 v.2] 102))
  have B6:Hid (Below w.heap.size w (w5.alloc (.cells #[.int .i64 v.1,.int .i64 v.2] 102))):=aJ B5.out (bz9) lz9
  clear n0 n1 n2 n3 n4 n5
  generalize w5.heap.size=b5 at V6 ⊢
  generalize (w5.alloc (.cells #[.int .i64 v.1,.int .i64 v.2] 102))=w6 at V6 B6 ⊢
  have m0:=aA V6.out (i:=0) rfl
  have m1:=aA V6.out (i:=1) rfl
  have lb:=aB V6.out
  refine wx9 ?_
  repeat (go_big_quiet_step (first | exact rfl))
  refine wpQuiet_nil ?_
  intro w7 hw
  have B7:=aC (aJ B6.out (aQ hw) lz9)
  clear hw
  go_wp2
  go_ret2
  exact⟨by rw [HV.out];rfl,B7.out⟩
 ·rw [decide_eq_false hr] at RT
  rw [if_neg hr] at HV
  clear hr
  go_wp2_with (go_at_call 38;refine(RT.out).mono ?_;rintro e w2 ⟨rfl,h2⟩;have B2:=aC (aJ X1.out.1 h2 lz9);clear h2)
  go_ret2
  exact⟨by rw [HV.out];rfl,B2.out⟩
end
end Go.Proofs.YtjafnbjipgediaaGreatDoor
