/-
  Parts of the proof.
-/
import Derived.Test.YticfnglebbakkaaGreatDoorAgainProofB17
set_option maxRecDepth 100000
set_option maxHeartbeats 8000000
namespace Go.Proofs.YticfnglebbakkaaGreatDoor
open Go Go.RowKit
section
attribute [local go_sem] aV
def BrC(x:Ps):Prop:=∀ (base b p g:Nat) (w:World) (tv:Value) (D:List Dt) (r:List Sgn),PB base w b tv D p g->left D p g=pfl x ++ r->aE4 r ->
 Calls Tryz.prog 69 #[.pointer (some ⟨b,0,none⟩)] w (iE base w b tv D p g x)
theorem PRow.first{base lo:Nat}{w5:World}{x:Ps}{v:Value}(h:PV base (fun k=>lo<=k) w5 x v)(hlo:lo<=w5.heap.size):PRow base lo (w5.alloc (.cells #[v] 75)) (.slice (some ⟨w5.heap.size,0,none⟩) 1 1) [x] [v]:=by
 refine⟨⟨rfl,.inr ⟨w5.heap.size,1,#[v],rfl,hlo,aE w5 _,Nat.le_refl _,by unfold maxLen;decide,rfl,rfl⟩⟩,rfl,fun i y u hy hu=>?_⟩
 match i,hy,hu with
 | 0,hy,hu=>
  simp at hy hu
  subst hy hu
  exact(h.lt.kept (bz9)).mono (fun k hk=>⟨hk.1,fun e=>by simp [Value.ownBlock] at e;omega⟩)
theorem vW{l:List Ps}{r:List Sgn}(hr:aQ4 r):aE4 (bZ l ++ r):=by
 cases l with
 | nil=>
  rw [bZ,List.nil_append]
  rcases hr with h | h
  ·exact .inl h
  ·exact .inr (.inl h)
 | cons x l=>rw [bZ];exact .inr (.inr ⟨_,rfl⟩)
theorem sG{y0:Ps}{l0:List Ps}(hl:∀ x∈y0 :: l0,BrC x){base b p g:Nat}{w:World}{tv:Value}{D:List Dt}{r:List Sgn}(h:PB base w b tv D p g)(hle:left D p g=cJ (y0 :: l0) ++ r)(hr:aQ4 r) :
  Calls Tryz.prog 30 #[.pointer (some ⟨b,0,none⟩)] w (iE base w b tv D p g (mkP (y0 :: l0))):=by
 obtain⟨t0,hi,hz0,hz1,hz2⟩:=aP sB
 rw [cJ,List.append_assoc] at hle
 have HL:=aC hl
 have HLE:=aC hle
 have HR:=aC hr
 have BR:=aC (hl y0 (List.mem_cons_self ..) base b p g w tv D _ h hle (vW hr))
 have hfw:=h.few
 have hbs:base<=w.heap.size:=Nat.le_trans h.bs (Nat.le_of_lt h.lt)
 obtain⟨X,hX⟩:∃ X,iE base w b tv D p g (mkP (y0 :: l0))=X:=⟨_,rfl⟩
 have HX:=aC hX
 rw [hX]
 clear hX h hle hr hl
 go_enter Tryz.func30,Tryz.ntmps30
 go_wp2_with (go_at_call 69;(with_reducible refine(BR.out).mono ?_);rintro e w5 ⟨v5,rfl,h1,h2,h3⟩;obtain⟨T5,x5,rfl⟩:=h1.shape;have V5:=aC h1;have H5:=aC h2;have F5:=aC h3;clear h1 h2 h3)
 have B5:Hid (Below w5.heap.size w5 (w5.alloc (.cells #[.iface T5 x5] 75))):=bz9
 have R5:=aC (PRow.first V5.out F5.out.size)
 go_loopw [3] (fun v wr=>∃ l1 l2 vs,y0 :: l0=l1 ++ l2/\PRow base w.heap.size wr v l1 vs/\PB base wr b tv D (p+(cJ l1).length) (g+nop (cJ l1))/\Fr (At b) w wr/\l1≠[]) (fun _ wr=>D.length+1 - atP wr b)
 case atStart=>
  refine⟨[y0],l0,_,rfl,R5.out,?_,F5.out.trans (Fr.of_below B5.out),by simp⟩
  rw [cJ,bZ,List.append_nil]
  exact H5.out.kept B5.out
 case round=>
  clear B5 R5 H5 F5 V5
  obtain⟨l1,l2,vs,e,g1,g2,g3,g4⟩:=hrel
  obtain⟨q,c,rfl⟩:=aI g1.own
  have hfl:cJ (y0 :: l0)=cJ l1 ++ bZ l2:=by
   rw [e]
   cases l1 with
   | nil=>exact absurd rfl g4
   | cons z l1=>rw [List.cons_append,cJ,cJ,oJ,List.append_assoc]
  have hleft:left D (p+(cJ l1).length) (g+nop (cJ l1))=bZ l2 ++ r:=by
   have h1:=HLE.out
   rw [<- List.append_assoc,show pfl y0 ++ bZ l0=cJ (y0 :: l0) by rw [cJ],hfl,List.append_assoc] at h1
   exact(iZ h1).1
  have S0:Calls Tryz.prog 70 #[.pointer (some ⟨b,0,none⟩),.int .i64 5] wr fun e w'=>e=.returned (.bool (eC D (p+(cJ l1).length) 5))/\Below wr.heap.size wr w':=pD g2 5
  have lb:=g2.lt
  have hat:=aC g2.atP
  have hle2:=g2.le
  have R6:=aC g1
  have H6:=aC g2
  have F6:=aC g3
  have HE:=aC e
  have HFL:=aC hfl
  have HN4:=aC g4
  clear g1 g2 g3 e hfl g4
  generalize hpos:p+(cJ l1).length=P1 at *
  have HPO:=aC hpos
  clear hpos
  cases l2 with
  | nil=>
   have hsb:eC D P1 5=false:=by
    rw [bZ,List.nil_append] at hleft
    rcases HR.out with rfl | ⟨r',rfl⟩
    ·exact H6.out.blind hleft 5
    ·rw [H6.out.seeing hleft];rfl
   rw [hsb] at S0
   have S:=aC S0
   clear hleft S0 hsb
   have e2:=HE.out
   rw [List.append_nil] at e2
   have POST:Hid (∀ (v:Value) (w':World),PV base (fun k=>w.heap.size<=k) w' (mkP (y0 :: l0)) v->Below wr.heap.size wr w'->X (.returned v) w'):=fun v w' h1 h2=>by
    rw [<- HX.out]
    refine⟨v,rfl,h1,?_,F6.out.trans (Fr.of_below h2)⟩
    have e3:pfl (mkP (y0 :: l0))=cJ l1:=by
     have e4:cJ l1=cJ (y0 :: l0):=by rw [HFL.out,bZ,List.append_nil]
     rw [e4,<- List.dropLast_concat_getLast (show y0 :: l0≠[] by simp),qG]
    rw [e3,HPO.out]
    exact H6.out.kept h2
   by_cases hn:l1.length=1
   ·have n1:((l1.length:Int)==1)=true:=by rw [hn];rfl
    have n2:(l1.length:Int)=1:=by omega
    have ONE:Hid (∀ W,Below wr.heap.size wr W->∃ gg t u,q=some ⟨gg,0,none⟩/\gg < W.heap.size/\W.cell? ⟨gg,0,none⟩=some (.iface t u)/\PV base (fun k=>w.heap.size<=k) W (mkP (y0 :: l0)) (.iface t u)):=fun W hW=>by
     match l1,hn with
     | [x],_=>
      obtain⟨gg,cc,t,u,f1,f2,f3,f4⟩:=(R6.out.kept hW).one
      injection f1 with f1
      rw [e2]
      exact⟨gg,t,u,f1,f2,f3,f4⟩
    clear e2
    go_wp2_with (go_at_call 70;(with_reducible refine(S.out).mono ?_);rintro e w7 ⟨rfl,h1⟩;obtain⟨gg,t5,u5,rfl,f2,f3,f4⟩:=ONE.out _ h1;have V7:=aC f4;have B7:=aC h1;clear h1 f4)
    exact POST.out _ _ V7.out B7.out
   ·have n1:((l1.length:Int)==1)=false:=by rw [beq_eq_false_iff_ne];omega
    have ROW:Hid (∀ W,Below wr.heap.size wr W->PV base (fun k=>w.heap.size<=k) W (mkP (y0 :: l0)) (.iface 130 (.agg #[.slice q l1.length c]))):=fun W hW=>by
     have f:=(R6.out.kept hW).alt hbs
     rw [e2]
     unfold mkP
     split
     ·simp at hn
     ·exact f
    clear e2 hn
    go_wp2_with (go_at_call 70;(with_reducible refine(S.out).mono ?_);rintro e w7 ⟨rfl,h1⟩;have B7:=aC h1;clear h1)
    exact POST.out _ _ (ROW.out _ B7.out) B7.out
  | cons x l2=>
   have hsb:eC D P1 5=true:=by rw [H6.out.seeing (s:=.al) (r:=pfl x ++ bZ l2 ++ r) (by rw [hleft,bZ];rfl)];rfl
   rw [hsb] at S0
   have S:=aC S0
   have hxm:=HL.out x (by rw [HE.out];simp)
   obtain⟨d,hd,-,hl3,hp⟩:=dD (show left D P1 (g+nop (cJ l1))=.al :: (pfl x ++ bZ l2 ++ r) by rw [hleft,bZ];rfl)
   rw [show nop [Sgn.al]=0 from rfl,Nat.add_zero,List.append_assoc] at hl3
   obtain⟨qt,ct,hv,-⟩:=H6.out.dt hd
   have TK:Hid (∀ W,Below wr.heap.size wr W->Calls Tryz.prog 71 #[.pointer (some ⟨b,0,none⟩)] W fun e w'=>e=.returned (.agg #[.int .i64 (d.1.1.kind:Int),.int .i64 (d.1.2.1:Int),.int .i64 (d.1.2.2:Int),.int .i64 (d.1.1.n:Int),.int .i64 d.1.1.mn,.int .i64 d.1.1.mx,.slice qt d.2.2.length ct])/\PB base w' b tv D (P1+1) (g+nop (cJ l1))/\Fr (At b) W w'):=fun W hW=>mN (H6.out.kept hW) hd hv
   have BT:Hid (∀ W,PB base W b tv D (P1+1) (g+nop (cJ l1))->Calls Tryz.prog 69 #[.pointer (some ⟨b,0,none⟩)] W (iE base W b tv D (P1+1) (g+nop (cJ l1)) x)):=fun W hW=>hxm base b (P1+1) _ W tv D _ hW hl3 (vW HR.out)
   have hll:l1.length<=2001:=by
    have h1:∀ m:List Ps,m.length<=(bZ m).length:=by
     intro m
     induction m with
     | nil=>simp
     | cons y m ih=>rw [bZ];simp;omega
    have h2:l1.length<=(cJ l1).length+1:=by
     cases hl1:l1 with
     | nil=>simp
     | cons z m=>rw [cJ];have:=h1 m;simp;omega
    have:=HPO.out
    omega
   clear hleft S0 hsb hl3 hd hv hxm hp
   go_wp2_with first
    |(go_at_call 70;(with_reducible refine(S.out).mono ?_);rintro e w7 ⟨rfl,h1⟩;have B7:=aC h1;clear h1)
    |(go_at_call 71;(with_reducible refine(TK.out _ B7.out).mono ?_);rintro e w8 ⟨rfl,h1,h2⟩;have H8:=aC h1;have F8:=aC h2;clear h1 h2)
    |(go_at_call 69;(with_reducible refine(BT.out _ H8.out).mono ?_);rintro e w6 ⟨v6,rfl,h1,h2,h3⟩;obtain⟨T6,x6,rfl⟩:=h1.shape;have V6:=aC h1;have H9:=aC h2;have F9:=aC h3;have BA:Hid (Below w6.heap.size w6 (w6.alloc (.cells #[.iface T6 x6] 75))):=bz9;have R8:=aC ((R6.out.kept B7.out).at (H6.out.kept B7.out) F8.out);have R9:=aC ((R8.out.at H8.out F9.out).kept BA.out);have N7:=aC (aE w6 (.cells #[.iface T6 x6] 75));clear h1 h2 h3)
    |(at_builtin;refine wpList_append_own_at _ rfl _ _ 127 rfl w.heap.size 75 t0 .nilIface 1 16 rU hi hz0 hz1 hz2 rfl (by decide) (.slice q l1.length c) l1.length vs rfl R9.out.own ⟨w6.heap.size,0,none⟩ 1 1 [.iface T6 x6] rfl rfl (fun j u hj=>by(match j,hj with | 0,hj=>(simp at hj;subst hj;exact aB N7.out (i:=0) rfl))) (fun u hu=>by simp at hu;subst hu;rfl) (by unfold maxLen;omega) (by omega) (by have:=BA.out.size;have:=F9.out.size;have:=F8.out.size;have:=B7.out.size;have:=F6.out.size;omega) ?_;intro v' wA hown' hgrow _ hblk;obtain⟨qA,cA,rfl⟩:=aI hown';have RA:=aC (R8.out.snoc H8.out (by have:=B7.out.size;have:=F6.out.size;have:=F8.out.size;omega) F9.out rfl V6.out BA.out hown' hgrow hblk);have FA:Hid (Fr (fun k=>(Value.slice q l1.length c).ownBlock=some k) (w6.alloc (.cells #[.iface T6 x6] 75)) wA):=Fr.grown (Fr.refl _ _) hgrow (fun k hk=>hk);clear hown' hgrow hblk)
   go_roundw
   case rel=>
    have e6:cJ (l1 ++ [x])=cJ l1 ++ (.al :: pfl x):=by
     cases l1 with
     | nil=>exact absurd rfl HN4.out
     | cons z l1=>rw [List.cons_append,cJ,cJ,oJ,wC,List.append_assoc]
    refine⟨l1 ++ [x],l2,_,by rw [HE.out];simp,RA.out,?_,?_,by simp⟩
    ·have e4:p+(cJ (l1 ++ [x])).length=P1+1+(pfl x).length:=by rw [e6,List.length_append,List.length_cons,<- HPO.out];omega
     have e5:g+nop (cJ (l1 ++ [x]))=g+nop (cJ l1)+nop (pfl x):=by rw [e6,fO,show nop (Sgn.al :: pfl x)=nop (pfl x) from rfl];omega
     rw [e4,e5]
     exact(H9.out.kept BA.out).grow FA.out (fun k hk=>(aG R9.out.own hk).2.2)
    ·exact((((F6.out.trans (Fr.of_below B7.out)).trans F8.out).trans F9.out).trans (Fr.of_below BA.out)).over FA.out (fun k hk=>.inr (aG R9.out.own hk).1)
   case measure=>
    have m1:=((H9.out.kept BA.out).grow FA.out (fun k hk=>(aG R9.out.own hk).2.2)).atP
    have m2:=hat.out
    have m3:=H9.out.le
    omega
theorem bB7(x:Ps)(hw:wf x):bG6 x:=by
 have key:∀ (m:Nat) (x:Ps),x.sz<=m->wf x->bG6 x:=by
  intro m
  induction m with
  | zero=>intro x hx;have:=kS x;omega
  | succ m ih=>
   intro x hx hw
   have IT:∀ y,y.sz<=m+1->cD y=true->wf y->ItC y:=fun y hy hi hwy=>by
    obtain⟨z,l,e,h1,-,h3,h4⟩:=aL6 y hi hwy
    rw [e]
    refine bB6 ?_
    rcases h1 with⟨k,n,rs,rfl⟩ | ⟨n,u,rfl⟩
    ·exact yZ k n rs
    ·refine aI6 (ih u (by simp [Ps.sz] at h3;omega) ?_)
     rw [wf] at h4
     exact h4
   have BR:∀ y,y.sz<=m+1->oV y=true->wf y->BrC y:=fun y hy hb hwy base b p g w tv D r h hle hr=>by
    by_cases hi:cD y=true
    ·have:=yF (l:=[y]) (fun z hz=>by simp at hz;subst hz;exact⟨IT z hy hi hwy,hi,hwy⟩) h (by rw [dN];exact hle) hr
     exact this
    ·cases y with
     | row l=>
      rw [wf] at hwy
      obtain⟨h1,h2,h3⟩:=hwy
      have:=yF (l:=l) (fun z hz=>by
       obtain⟨i,hi,e⟩:=List.getElem_of_mem hz
       have h4:=h2 i z (by rw [List.getElem?_eq_getElem hi,e])
       have h5:=(cL l).1 h3 z hz
       have h6:=pC hz
       exact⟨IT z (by simp [Ps.sz] at hy;omega) h4.1 h5,h4.1,h5⟩) h (by rw [pfl] at hle;exact hle) hr
      have e:mkB l=.row l:=by
       unfold mkB
       split
       ·simp at h1
       ·rfl
      rw [e] at this
      exact this
     | alt=>simp [oV] at hb
     | _=>simp [cD] at hi
   intro base b p g w tv D r h hle hr
   by_cases hb:oV x=true
   ·exact sG (y0:=x) (l0:=[]) (fun z hz=>by simp at hz;subst hz;exact BR z hx hb hw) h (by rw [cJ,bZ,List.append_nil];exact hle) hr
   ·cases x with
    | alt l=>
     rw [wf] at hw
     obtain⟨h1,h2,h3⟩:=hw
     match l,h1 with
     | y0 :: y1 :: l,_=>
      exact sG (y0:=y0) (l0:=y1 :: l) (fun z hz=>BR z (by have:=pC hz;simp [Ps.sz] at hx;omega) (h2 z hz) ((cL _).1 h3 z hz)) h (by rw [pfl] at hle;exact hle) hr
    | _=>simp [oV] at hb
 exact key x.sz x lz9 hw
end
section
attribute [local go_sem] aV
theorem uS{w:World}{b:Nat}{s:ByteArray}{m:Md}{p:Nat}{tv:Value}{last:Nat}(h:RD w b s m p tv)(hk:LK w b tv last) :
  Calls Tryz.prog 107 #[.pointer (some ⟨b,0,none⟩)] w fun e w'=>e=.returned (.bool (fM last))/\Below w.heap.size w w':=by
 have c4:=h.c4
 have lb:=h.lt
 have H:Hid (RD w b s m p tv/\LK w b tv last):=⟨h,hk⟩
 clear h
 rcases hk with⟨rfl,rfl⟩ | ⟨g,n,c,rfl,h2,h3,h4,h5,h6⟩
 ·go_enter Tryz.func107,Tryz.ntmps107
  go_wp2
  go_ret
  exact⟨rfl,Below.refl _ _⟩
 ·have hn:(((n+1:Nat):Int)==0)=false:=by simp;omega
  have hn2:((n:Int)+1==0)=false:=by simp;omega
  clear h6
  have e0:fM last=(decide ((last:Int)=3) || decide ((last:Int)=5) || decide ((last:Int)=7)):=by
   unfold fM
   have:(last==0)=false:=by simp;omega
   rw [this,Bool.false_or]
   have t:∀ k:Nat,(last==k)=decide ((last:Int)=(k:Int)):=fun k=>by
    rw [Bool.eq_iff_iff];simp;omega
   rw [t 3,t 5,t 7]
   rfl
  rw [e0]
  clear e0
  have b3:Hid (∀ W,Below w.heap.size w W->Calls Tryz.prog 109 #[.pointer (some ⟨b,0,none⟩),.int .i64 3] W fun e w'=>e=.returned (.bool (decide ((last:Int)=3)))/\Below W.heap.size W w'):=fun W hW=>fZ (H.out.1.kept hW) (H.out.2.kept hW) 3 (by omega)
  have b5:Hid (∀ W,Below w.heap.size w W->Calls Tryz.prog 109 #[.pointer (some ⟨b,0,none⟩),.int .i64 5] W fun e w'=>e=.returned (.bool (decide ((last:Int)=5)))/\Below W.heap.size W w'):=fun W hW=>fZ (H.out.1.kept hW) (H.out.2.kept hW) 5 (by omega)
  have b7:Hid (∀ W,Below w.heap.size w W->Calls Tryz.prog 109 #[.pointer (some ⟨b,0,none⟩),.int .i64 7] W fun e w'=>e=.returned (.bool (decide ((last:Int)=7)))/\Below W.heap.size W w'):=fun W hW=>fZ (H.out.1.kept hW) (H.out.2.kept hW) 7 (by omega)
  generalize decide ((last:Int)=3)=x3 at *
  generalize decide ((last:Int)=5)=x5 at *
  generalize decide ((last:Int)=7)=x7 at *
  rcases x3 with _ | _
  ·rcases x5 with _ | _
   ·go_enter Tryz.func107,Tryz.ntmps107
    go_wp2_with first
     |(go_at_call 109;(with_reducible refine(b3.out _ (Below.refl _ _)).mono ?_);rintro e w5 ⟨rfl,h5⟩;have X5:Hid (Below w.heap.size w w5):=h5;clear h5)
     |(go_at_call 109;(with_reducible refine(b5.out _ X5.out).mono ?_);rintro e w6 ⟨rfl,h5⟩;have X6:Hid (Below w.heap.size w w6):=aD X5.out h5 lz9;clear h5)
     |(go_at_call 109;(with_reducible refine(b7.out _ X6.out).mono ?_);rintro e w7 ⟨rfl,h5⟩;have X7:Hid (Below w.heap.size w w7):=aD X6.out h5 lz9;clear h5)
    go_ret
    exact⟨rfl,X7.out⟩
   ·go_enter Tryz.func107,Tryz.ntmps107
    go_wp2_with first
     |(go_at_call 109;(with_reducible refine(b3.out _ (Below.refl _ _)).mono ?_);rintro e w5 ⟨rfl,h5⟩;have X5:Hid (Below w.heap.size w w5):=h5;clear h5)
     |(go_at_call 109;(with_reducible refine(b5.out _ X5.out).mono ?_);rintro e w6 ⟨rfl,h5⟩;have X6:Hid (Below w.heap.size w w6):=aD X5.out h5 lz9;clear h5)
    go_ret
    exact⟨rfl,X6.out⟩
  ·go_enter Tryz.func107,Tryz.ntmps107
   go_wp2_with (go_at_call 109;(with_reducible refine(b3.out _ (Below.refl _ _)).mono ?_);rintro e w5 ⟨rfl,h5⟩;have X5:Hid (Below w.heap.size w w5):=h5;clear h5)
   go_ret
   exact⟨rfl,X5.out⟩
theorem aM1(s:ByteArray)(k:Nat):((s.extract k s.size).toList==[])=decide (s.size<=k):=by
 rw [Lib.toList_data,fX]
 rw [Bool.eq_iff_iff]
 simp
theorem aV5{w:World}{b:Nat}{s:ByteArray}{m:Md}{p:Nat}{tv:Value}(h:RD w b s m p tv)(hp:p < s.size)(hs:s.size<=2000) :
  Calls Tryz.prog 110 #[.pointer (some ⟨b,0,none⟩)] w fun e w'=>e=.returned (.bool (lK s p))/\Below w.heap.size w w':=by
 have c0:=h.c0
 have c3:=h.c3
 have lb:=h.lt
 have h0:(0:Int)<=(p:Int)+1:=by omega
 have h1:(p:Int)+1<=(s.size:Int):=by omega
 have h2:¬ s.size < p+1:=by omega
 have h3:((p:Int)+1).toNat=p+1:=by omega
 have hw1:IntKind.wrap .i64 ((p:Int)+1)=(p:Int)+1:=wrap_small _ (by omega) (by omega)
 have hc1:Hid (∀ W,Calls Tryz.prog 83 #[.string (s.extract (p+1) s.size),.string ⟨#[92,41]⟩] W fun e w'=>e=.returned (.bool (aJ s (p+1) [92,41]))/\w'=W):=fun W=>by
  have:=Tryz.strings_HasPrefix (s.extract (p+1) s.size) ⟨#[92,41]⟩ W
  rw [fX] at this
  exact this
 have hc2:Hid (∀ W,Calls Tryz.prog 83 #[.string (s.extract (p+1) s.size),.string ⟨#[92,124]⟩] W fun e w'=>e=.returned (.bool (aJ s (p+1) [92,124]))/\w'=W):=fun W=>by
  have:=Tryz.strings_HasPrefix (s.extract (p+1) s.size) ⟨#[92,124]⟩ W
  rw [fX] at this
  exact this
 have he:=aM1 s (p+1)
 unfold lK
 clear h
 generalize aJ s (p+1) [92,41]=x1 at *
 generalize aJ s (p+1) [92,124]=x2 at *
 rcases Nat.lt_or_ge (p+1) s.size with g | g
 ·have n1:decide (p+1=s.size)=false:=decide_eq_false (by omega)
  have n2:decide (s.size<=p+1)=false:=decide_eq_false (by omega)
  rw [n2] at he
  rw [n1]
  clear n1 n2
  rcases x1 with _ | _
  ·go_enter Tryz.func110,Tryz.ntmps110
   go_wp2
   refine wx9 ?_
   repeat (go_big_quiet_step (first | exact rfl))
   refine wpQuiet_nil ?_
   intro w5 hw5
   have B5:Hid (Below w.heap.size w w5):=aO hw5
   clear hw5
   go_wp2_with first
    |(go_at_call 83;(with_reducible refine(hc1.out _).mono ?_);rintro e w6 ⟨rfl,h6⟩;subst w6)
    |(go_at_call 83;(with_reducible refine(hc2.out _).mono ?_);rintro e w6 ⟨rfl,h6⟩;subst w6)
   go_ret
   exact⟨rfl,B5.out⟩
  ·go_enter Tryz.func110,Tryz.ntmps110
   go_wp2
   refine wx9 ?_
   repeat (go_big_quiet_step (first | exact rfl))
   refine wpQuiet_nil ?_
   intro w5 hw5
   have B5:Hid (Below w.heap.size w w5):=aO hw5
   clear hw5
   go_wp2_with first
    |(go_at_call 83;(with_reducible refine(hc1.out _).mono ?_);rintro e w6 ⟨rfl,h6⟩;subst w6)
   go_ret
   exact⟨rfl,B5.out⟩
 ·have n1:decide (p+1=s.size)=true:=decide_eq_true (by omega)
  have n2:decide (s.size<=p+1)=true:=decide_eq_true (by omega)
  rw [n2] at he
  rw [n1]
  clear n1 n2
  go_enter Tryz.func110,Tryz.ntmps110
  go_wp2
  refine wx9 ?_
  repeat (go_big_quiet_step (first | exact rfl))
  refine wpQuiet_nil ?_
  intro w5 hw5
  have B5:Hid (Below w.heap.size w w5):=aO hw5
  clear hw5
  go_wp2
  go_ret
  exact⟨rfl,B5.out⟩
end
end Go.Proofs.YticfnglebbakkaaGreatDoor
