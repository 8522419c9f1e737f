/-
  Parts of the proof.
-/
import Derived.Test.YtlaimbkenbijeaaGreatDoorTextsProofA0
import Derived.Test.YtlaimbkenbijeaaGreatDoorTextsProofB3
import Derived.Laws.AppendOwnNone
import Derived.Maps.OwnIn
import Derived.Sort.CutIn
set_option maxRecDepth 100000
set_option maxHeartbeats 8000000
namespace Go.Proofs.YtlaimbkenbijeaaGreatDoor
open Go Go.RowKit
section
open Go Go.RowKit Go.Shelf
def tZ(x:El):Array Value:=#[.int .i64 ((x.1.length:Int)+1),.agg #[.int .i64 x.2.f.k,.int .i64 x.2.f.n,.int .i64 x.2.f.mn,.int .i64 x.2.f.mx,.slice x.2.f.rq x.2.f.rs.length x.2.f.rc,.slice x.2.f.kq x.2.f.kl x.2.f.kc]]
theorem sM(par:Tr)(p:Way)(a b:List Tr):∀ i,pps par p i (a ++ b)=pps par p i a ++ pps par p (i+a.length) b:=by
 induction a with
 | nil=>intro i;rw [cA];rfl
 | cons x a ih=>intro i;rw [r9,bL,bL,ih (i+1),t9,j8,show i+1+a.length=i+(a.length+1) by omega]
theorem lS{par:Tr}{p:Way}{ks:List Tr}{j:Nat}{u:Tr}(h:ks[j]?=some u):pps par p 0 (ks.take (j+1))=pps par p 0 (ks.take j) ++ pp ((par,j) :: p) u:=by
 have hj:=(i5.1 h).1
 rw [o5,h,aAV,sM,bL,cA,aBH,o9,g8,Nat.min_eq_left (by omega)]
theorem wK{par:Tr}{p:Way}{ks:List Tr}(j:Nat):pps par p 0 (ks.take j) <+: pps par p 0 ks:=by
 have:=sM par p (ks.take j) (ks.drop j) 0
 rw [aBG] at this
 rw [this]
 exact List.prefix_append _ _
def Nn(b0 b1:Nat):Nat->Prop:=fun k=>k < b0\/b1<=k
theorem jX{L pre:List El}{p:Way}{t:Tr}{r:List El}(h:pre ++ pp p t <+: L)(hr:r <+: pps t p 0 t.ks):pre ++ (p,t) :: r <+: L:=by
 refine List.IsPrefix.trans ?_ h
 rw [cF]
 exact(List.prefix_append_right_inj _).2 (List.cons_prefix_cons.2 ⟨rfl,hr⟩)
def aA7(w0:World)(b1:Nat)(L:List El)(J Jx:List El->World->Prop)(xs:List El)(e:Ending)(V':World):Prop:=
 ∃ r:Bool,e=.returned (.bool r)/\((r=true/\J xs V'/\CK w0 V'/\b1<=V'.heap.size)\/(r=false/\∃ pre',pre' <+: L/\Jx pre' V'))
theorem bN1{w0:World}{L:List El}{l b1:Nat}{J Jx:List El->World->Prop}{B:Nat}(hJ:OwnFrom B J)(n:Nat)(hL:∀ pre V,J pre V->pre.length<=1000000)
  (hY:∀ pre x V,J pre V->pre ++ [x] <+: L->YieldAt Fence.wide (n - 1) Tryz.prog l (tZ x) V fun e V'=>KeepsFrom B V V'/\((e=.returned (.bool true)/\J (pre ++ [x]) V'/\CKeep (Nn w0.heap.size b1) V V')\/(e=.returned (.bool false)/\Jx (pre ++ [x]) V'))) :
  ∀ (m:Nat) (t:Tr) (p:Way) (pre:List El) (V:World),t.sz<=m->pre ++ pp p t <+: L->TB w0 t->CK w0 V->J pre V->p.length<=pre.length->b1<=V.heap.size ->
   CallsIn Fence.wide n Tryz.prog 130 #[.agg #[.int .i64 t.f.k,.int .i64 t.f.n,.int .i64 t.f.mn,.int .i64 t.f.mx,.slice t.f.rq t.f.rs.length t.f.rc,.slice t.f.kq t.f.kl t.f.kc],.int .i64 ((p.length:Int)+1),.func (.yield l) #[] #[]] V (aA7 w0 b1 L J Jx (pre ++ pp p t)):=by
 intro m
 induction m with
 | zero=>intro t p pre V hm;exact absurd (eV t) (by omega)
 | succ m ih=>
  intro t p pre V hm hpre hta hck hj hpl hb1
  have hfn:∀ f,Fence.wide.fn f:=fun _=>trivial
  have IH:=aD ih
  have HL:=aD hL
  have HPRE:=aD hpre
  have HTA:=aD hta
  have HM:=aD hm
  have hlen:=hL pre V hj
  obtain⟨q,cap,hkv,hk1,hk2,hk3⟩:=hta.node.k.slice
  injection hkv with hkq hkl hkc
  subst hkq
  have HKL:=aD hkl
  have HK3:=aD hk3
  have hkm:t.ks.length<=9223372036854775807:=hk1
  clear hkl hkc hk3 hk1
  have B1:Hid (Below V.heap.size V (V.alloc (.cells #[.int .i64 t.f.k,.int .i64 t.f.n,.int .i64 t.f.mn,.int .i64 t.f.mx,.slice t.f.rq t.f.rs.length t.f.rc,.slice t.f.kq t.f.kl t.f.kc] 25))):=bz9
  have N1:Hid (BoxN (V.alloc (.cells #[.int .i64 t.f.k,.int .i64 t.f.n,.int .i64 t.f.mn,.int .i64 t.f.mx,.slice t.f.rq t.f.rs.length t.f.rc,.slice t.f.kq t.f.kl t.f.kc] 25)) V.heap.size t.f):=aE V _
  have J1:Hid (J pre (V.alloc (.cells #[.int .i64 t.f.k,.int .i64 t.f.n,.int .i64 t.f.mn,.int .i64 t.f.mx,.slice t.f.rq t.f.rs.length t.f.rc,.slice t.f.kq t.f.kl t.f.kc] 25))):=hJ.alloc _ hj
  have C1:Hid (CK w0 (V.alloc (.cells #[.int .i64 t.f.k,.int .i64 t.f.n,.int .i64 t.f.mn,.int .i64 t.f.mx,.slice t.f.rq t.f.rs.length t.f.rc,.slice t.f.kq t.f.kl t.f.kc] 25))):=hck.trans (CK.of_below B1.out)
  have Hb1:=aD hb1
  clear ih hL hpre hta hm hj hck hb1
  refine callsIn_of_wp Tryz.func130 rfl trivial ?_ rfl
  simp only [Tryz.ntmps130,aBB,j8,List.length_nil,Nat.reduceAdd,Nat.reduceSub,aAY,aBI,aBQ,aBK,aAG,r9]
  have cs:=N1.out.six
  obtain⟨fn,tmps,assign,body,hy,hR⟩:=hY pre (p,t) _ J1.out (jX HPRE.out aCA)
  simp only [tZ] at hy
  obtain⟨c0,c1,c2,c3,c4,c5⟩:=cs
  simp only [g8] at c1 c2 c3 c4 c5
  gi_wp2
  refine⟨(fun z=>by cases z),hR.mono ?_⟩
  rintro e W3 ⟨-,(⟨rfl,hJ3,hk3⟩ | ⟨rfl,hJx3⟩)⟩
  ·have cc5:W3.cell? ⟨V.heap.size,5,none⟩=some (.slice t.f.kq t.f.kl t.f.kc):=dP hk3 (p:=⟨V.heap.size,5,none⟩) (.inr Hb1.out) c5
   have J3:=aD hJ3
   have C3:Hid (CK w0 W3):=C1.out.step ⟨hk3.size,fun i cur ty fr hi hc=>hk3.same i cur ty fr (.inl hi) hc⟩
   have S3:Hid (b1<=W3.heap.size):=i8 Hb1.out (i8 B1.out.size hk3.size)
   rw [HKL.out] at cc5
   clear hJ3 hk3 hy hR c0 c1 c2 c3 c4 c5 J1 C1 N1 B1
   gi_wp2
   gi_loopw [17] (fun i wr=>∃ j:Nat,j<=t.ks.length/\i=.int .i64 (j:Int)/\J (pre ++ (p,t) :: pps t p 0 (t.ks.take j)) wr/\CK w0 wr/\b1<=wr.heap.size) (fun i _=>t.ks.length - (intOf i).toNat)
   case atStart=>exact⟨0,m9 _,rfl,by rw [aAS,cA];exact J3.out,C3.out,S3.out⟩
   case round=>
    clear J3 C3 S3 cc5
    obtain⟨j,hj,rfl,hj1,hj2,hj3⟩:=hrel
    have HJ:=aD hj1
    have HC:=aD hj2
    have HS:=aD hj3
    clear hj1 hj2 hj3
    by_cases hjl:j < t.ks.length
    ·have e0:(j:Int) < (t.ks.length:Int):=by omega
     obtain⟨u,hu⟩:∃ u,t.ks[j]?=some u:=⟨_,g9 hjl⟩
     obtain⟨g,off,hq,hg,hsix⟩:=HK3.out j u hu
     rw [hq]
     have HU:=aD hu
     have hin:u∈t.ks:=i9 hu
     obtain⟨c0,c1,c2,c3,c4,c5⟩:=hsix.ck HC.out hg
     have B4:Hid (Below wr.heap.size wr (wr.alloc (.cells #[.int .i64 u.f.k,.int .i64 u.f.n,.int .i64 u.f.mn,.int .i64 u.f.mx,.slice u.f.rq u.f.rs.length u.f.rc,.slice u.f.kq u.f.kl u.f.kc] 25))):=bz9
     have N4:Hid (BoxN (wr.alloc (.cells #[.int .i64 u.f.k,.int .i64 u.f.n,.int .i64 u.f.mn,.int .i64 u.f.mx,.slice u.f.rq u.f.rs.length u.f.rc,.slice u.f.kq u.f.kl u.f.kc] 25)) wr.heap.size u.f):=aE wr _
     obtain⟨d0,d1,d2,d3,d4,d5⟩:=N4.out.six
     simp only [g8] at d1 d2 d3 d4 d5
     have hj1:=HL.out _ _ HJ.out
     have IHU:=aD (IH.out u ((t,j) :: p) (pre ++ (p,t) :: pps t p 0 (t.ks.take j)) (wr.alloc (.cells #[.int .i64 u.f.k,.int .i64 u.f.n,.int .i64 u.f.mn,.int .i64 u.f.mx,.slice u.f.rq u.f.rs.length u.f.rc,.slice u.f.kq u.f.kl u.f.kc] 25)) (by have:=dM hin;have:=HM.out;omega)
      (by rw [t9,r9,<- lS hu];exact jX HPRE.out (wK _)) (HTA.out.kid hin) (HC.out.trans (CK.of_below B4.out)) (hJ.alloc _ HJ.out) (by simp;omega) (i8 HS.out B4.out.size))
     have e1:((((t,j) :: p).length:Nat):Int)+1=((p.length:Int)+1)+1:=by simp
     rw [e1] at IHU
     clear hsix hu
     gi_wp2
     refine⟨(fun z=>by cases z),(callsIn_wide.2 (callsIn_wide.1 IHU.out)).mono ?_⟩
     rintro e W5 ⟨r5,rfl,h5⟩
     have H5:=aD h5
     clear h5 c0 c1 c2 c3 c4 c5 d0 d1 d2 d3 d4 d5 IHU N4 B4
     cases r5 with
     | true=>
      rcases H5.out with⟨-,h51,h52,h53⟩ | ⟨z,-⟩
      ·have HN:Hid (J (pre ++ (p,t) :: pps t p 0 (t.ks.take (j+1))) W5):=(by rw [lS HU.out,<- r9,<- t9];exact h51)
       have H52:=aD h52
       have H53:=aD h53
       clear h51 h52 h53 H5
       gi_wp2
       go_roundw
       case rel=>exact⟨j+1,by omega,by go_num,HN.out,H52.out,H53.out⟩
       case measure=>simp only [intOf];omega
      ·cases z
     | false=>
      rcases H5.out with⟨z,-⟩ | ⟨-,pre',h51,h52⟩
      ·cases z
      ·have HN:=aD (⟨pre',h51,h52⟩:∃ pre',pre' <+: L/\Jx pre' W5)
       clear H5 h51 h52
       gi_wp2
       go_ret
       exact⟨false,rfl,.inr ⟨rfl,HN.out⟩⟩
    ·have e0:¬ (j:Int) < (t.ks.length:Int):=by omega
     have HN:Hid (J (pre ++ pp p t) wr):=(by rw [cF,show t.ks=t.ks.take j by rw [j9 (by omega)]];exact HJ.out)
     gi_wp2
     go_ret
     exact⟨true,rfl,.inl ⟨rfl,HN.out,HC.out,HS.out⟩⟩
  ·have HN:=aD hJx3
   clear hJx3
   gi_wp2
   go_ret
   exact⟨false,rfl,.inr ⟨rfl,_,jX HPRE.out aCA,HN.out⟩⟩
theorem aJ0(f:Fl)(w:World) :
  Calls Tryz.prog 99 #[.agg #[.int .i64 f.k,.int .i64 f.n,.int .i64 f.mn,.int .i64 f.mx,.slice f.rq f.rs.length f.rc,.slice f.kq f.kl f.kc]] w fun e w'=>e=.returned (.func (.func 129) #[] #[.pointer (some ⟨w.heap.size,0,none⟩)])/\w'=w.alloc (.cells #[.int .i64 f.k,.int .i64 f.n,.int .i64 f.mn,.int .i64 f.mx,.slice f.rq f.rs.length f.rc,.slice f.kq f.kl f.kc] 25):=by
 go_enter Tryz.func99,Tryz.ntmps99
 go_wp2
 go_ret
 exact⟨rfl,rfl⟩
def tE(t:Tr)(pre:List El)(x:El)(_:World):Prop:=pre ++ [x] <+: pp [] t
theorem yW(n:Nat){w0 w:World}{b:Nat}{t:Tr}(hB:BoxN w b t.f)(hta:TB w0 t)(hck:CK w0 w) :
  bI3 n Tryz.prog 129 #[.pointer (some ⟨b,0,none⟩)] tZ (Nn w0.heap.size w.heap.size) (tE t) (fun xs=>xs=pp [] t) (fun pre=>pre <+: pp [] t) w:=by
 intro l J Jx V hV hJ hJx hb hY h0
 have hfn:∀ f,Fence.wide.fn f:=fun _=>trivial
 have D:=aD (bN1 (w0:=w0) (L:=pp [] t) (b1:=w.heap.size) (Jx:=Jx) hJ n hb (fun pre x V=>hY pre x V) t.sz t [] [] V lz9 (by rw [aAG];exact List.prefix_refl _) hta (hck.step ⟨hV.size,fun k _ _ _ _ hc=>(hV.block k (aB hc)).trans hc⟩) h0 lz9 hV.size)
 have HB:Hid (BoxN V b t.f):=(hV.block _ (aB hB)).trans hB
 obtain⟨c0,c1,c2,c3,c4,c5⟩:=HB.out.six
 simp only [g8] at c1 c2 c3 c4 c5
 clear hJ hJx hb hY h0 hB hta hck hV
 refine callsIn_of_wp Tryz.func129 rfl trivial ?_ rfl
 simp only [Tryz.ntmps129,aBB,j8,List.length_nil,Nat.reduceAdd,Nat.reduceSub,aAY,aBI,aBQ,aBK,aAG,r9]
 gi_wp2
 refine⟨(fun z=>by cases z),(callsIn_wide.2 (callsIn_wide.1 D.out)).mono ?_⟩
 rintro e W5 ⟨r5,rfl,h5⟩
 have H5:=aD h5
 clear h5 D
 gi_wp2
 go_end0
 refine⟨⟨_,rfl⟩,?_⟩
 rcases H5.out with⟨-,h51,-,-⟩ | ⟨-,pre',h51,h52⟩
 ·exact .inl ⟨_,rfl,by rw [aAG] at h51;exact h51⟩
 ·exact .inr ⟨pre',h51,h52⟩
theorem aZ0{w0 W W':World}{B:Nat}{row:Option Nat}(h:CK w0 W)(hg:W.grownBy W' row)(hr:∀ r,row=some r->B<=r/\∃ o:Obj,W.heap[r]?=some o/\o.isCells=false):CK w0 W':=
 ⟨i8 h.size hg.size,fun k cur t fr hk hc=>dA hg hr (h.same k cur t fr hk hc)⟩
def gB(a:Act)(q d:Nat)(x:El):Act:={ tmps:=(a.tmps.setIfInBounds q (.int .i64 ((x.1.length:Int)+1))).setIfInBounds d (.agg #[.int .i64 x.2.f.k,.int .i64 x.2.f.n,.int .i64 x.2.f.mn,.int .i64 x.2.f.mx,.slice x.2.f.rq x.2.f.rs.length x.2.f.rc,.slice x.2.f.kq x.2.f.kl x.2.f.kc]),defers:=[] }
def gM(a:Act)(D:Nat):Act:={ a with defers:={ target:=.collected D,args:=#[] } :: a.defers }
theorem bL0{g:Operand}{ps:Array Tmp}{assign body:Code}{Q:Exit->Act->World->Prop}{a:Act}{w:World}{n:Nat}(hn:1<=n)(q d:Nat)(b:Nat){w0:World}{t:Tr}
  (hg:a.eval g=.func (.func 129) #[] #[.pointer (some ⟨b,0,none⟩)]) (hps:ps=#[q,d]) (hB:BoxN w b t.f) (hta:TB w0 t) (hck:CK w0 w)
  (I:List El->World->Prop) (Ix:Code->List El->World->Prop) (hI:OwnFrom w.heap.size I) (hIx:∀ c,OwnFrom w.heap.size (Ix c)) (hbd:∀ pre W,I pre W->pre.length<=1000000) (h0:I [] w)
  (Ax:Act->El->Act->World->Prop) (hAx:∀ y x a',OwnFrom w.heap.size (fun (_:Unit) W=>Ax y x a' W))
  (hassign:∀ (l:Nat) (pre:List El) (x:El) (W:World) (K:Act->World->Prop),I pre W->CK w0 W->w.heap.size<=W.heap.size->tE t pre x W->(∀ a' W',Below W.heap.size W W'->Ax (gB a q d x) x a' W'->K a' W') ->
   assign.wpIn (Fence.wide.inRound l) (n - 1 - 1) Tryz.prog (Exit.then K (fun _ _ _=>False)) (gB a q d x) W)
  (hbody:∀ (l:Nat) (pre:List El) (x:El) (a':Act) (V:World),I pre V->CK w0 V->w.heap.size<=V.heap.size->tE t pre x V->Ax (gB a q d x) x a' V->body.wpIn (Fence.wide.inRound l) (n - 1 - 1) Tryz.prog (ownPostG w.heap.size (CKeep (Nn w0.heap.size w.heap.size)) I Ix (pre ++ [x]) V) a' V)
  (hdone:∀ (D:Nat) (V:World),w.heap.size<=D->I (pp [] t) V->CK w0 V->V.heap[D]?=some (.deferred (some []))->Q .normal (gM a D) V)
  (hstop:∀ (D:Nat) (c:Code) (pre:List El) (V:World),w.heap.size<=D->pre <+: pp [] t->Ix c pre V->V.heap[D]?=some (.deferred (some []))->c.wpIn Fence.wide n Tryz.prog Q (gM a D) V) :
  (Code.rangeFunc g ps assign body).wpIn Fence.wide n Tryz.prog Q a w:=by
 subst hps
 refine aD7 (α:=El) hn (gf:=129) hg (enters_of Tryz.func129 (by kernel_rfl) rfl) (encs:=tZ) (fun _=>rfl)
  (yW (n - 1) hB hta hck) (fun pre V=>I pre V/\CK w0 V/\w.heap.size<=V.heap.size) Ix ?_ hIx (fun pre x _ _ _ _ h _ _=>h) (fun pre W h=>hbd pre W h.1) ⟨h0,hck,n8 _⟩ (fun x=>Ax (gB a q d x) x) (fun x=>hAx _ x) ?_ ?_ ?_ hstop
 ·intro pre A A' row hi hg hr
  exact⟨hI pre A A' row hi.1 hg hr,aZ0 hi.2.1 hg hr,i8 hi.2.2 hg.size⟩
 ·intro l pre x V K hi ht hK
  have:=hassign l pre x V K hi.1 hi.2.1 hi.2.2 ht hK
  simpa [tZ,gB] using this
 ·intro l pre x a' V hi ht hax
  refine wpIn_mono (hbody l pre x a' V hi.1 hi.2.1 hi.2.2 ht hax) fun e a3 W3 hp=>?_
  cases e with
  | normal=>exact⟨hp.1,hp.2.1,hp.2.2,hi.2.1.step ⟨hp.2.1.size,fun k cur ty fr hk hc=>hp.2.1.same k cur ty fr (.inl hk) hc⟩,i8 hi.2.2 hp.1.size⟩
  | ret=>exact hp
  | exit id=>exact hp
  | goto t=>exact hp
  | panic ch=>exact hp
  | outgrown=>exact hp
 ·rintro D xs V hD rfl hi hK
  exact hdone D V hD hi.1 hi.2.1 hK
end
section
open Go Go.RowKit Go.Shelf
def aG1{α:Type}(n:Nat)(P:Program)(gf:Nat)(lb:Array Value)(encs:α->Array Value)(Kp:α->World->World->Prop)(Told:List α->α->World->Prop)(S Sp:List α->Prop)(w:World):Prop:=
 ∀ (l:Nat) (J Jx:List α->World->Prop) (W:World),Below w.heap.size w W->OwnFrom W.heap.size J->OwnFrom W.heap.size Jx->(∀ pre V,J pre V->pre.length<=1000000) ->
  (∀ pre x V,J pre V->Told pre x V->YieldAt Fence.wide (n - 1) P l (encs x) V fun e V'=>KeepsFrom W.heap.size V V'/\((e=.returned (.bool true)/\J (pre ++ [x]) V'/\Kp x V V')\/(e=.returned (.bool false)/\Jx (pre ++ [x]) V'))) ->
  J [] W->CallsIn Fence.wide n P gf (#[.func (.yield l) #[] #[]] ++ lb) W fun e V=>(∃ v,e=.returned v)/\((∃ xs,S xs/\J xs V)\/(∃ pre,Sp pre/\Jx pre V))
section
variable {α:Type} {P:Program}
theorem yO{D:Nat}{Kp:World->World->Prop}{r:Loop}{I:List α->World->Prop}{Ix:Code->List α->World->Prop}{xs:List α}{V W W3:World}{e:Exit}{a3:Act}
  (hKt:∀ {A B C:World},Kp A B->Kp B C->Kp A C) (hKp:∀ {W:World} {l:Nat} {o:Obj} (o':Obj),W.heap[l]?=some o->o.isCells=false->Kp W (W.putObj l o')) (hI:OwnFrom D I) (hIx:∀ c,OwnFrom D (Ix c)) (hr:Rc D { r with state:=.busy } W)
  (hv:KeepsFrom (D+2) V W) (hp:ownPostG D (fun _ W'=>Kp V W') I Ix xs W e a3 W3):roundPost P (D+1) (fun e V'=>KeepsFrom (D+2) V V'/\((e=.returned (.bool true)/\(I xs V'/\Rc D { r with state:=.ready,pending:=none } V')/\Kp V V')\/(e=.returned (.bool false)/\∃ c,Ix c xs V'/\Rc D { r with state:=.done,pending:=some c } V'))) e a3 W3:=by
 have out:∀ c:Code,KeepsFrom D W W3->Ix c xs W3->∃ v V',(Instr.endRound (D+1) (some c)).run P W3=.ok v V'/\(KeepsFrom (D+2) V V'/\((Ending.returned v=.returned (.bool true)/\(I xs V'/\Rc D { r with state:=.ready,pending:=none } V')/\Kp V V')\/(Ending.returned v=.returned (.bool false)/\∃ c,Ix c xs V'/\Rc D { r with state:=.done,pending:=some c } V'))):=fun c hk hi=>by
  have h3:=hr.from hk
  exact⟨_,_,run_endRound (some c) h3.1,(hv.trans (oR hk (by omega))).trans (iL _ _ (by omega)),.inr ⟨rfl,c,(hIx c).putObj _ hi (by omega) h3.1 rfl,h3.put _⟩⟩
 cases e with
 | normal=>
  obtain⟨hk,hkp,hi⟩:=hp
  have h3:=hr.from hk
  exact⟨_,_,run_endRound none h3.1,(hv.trans (oR hk (by omega))).trans (iL _ _ (by omega)),.inl ⟨rfl,⟨hI.putObj _ hi (by omega) h3.1 rfl,h3.put _⟩,hKt hkp (hKp _ h3.1 rfl)⟩⟩
 | ret=>exact out .ret hp.1 hp.2
 | exit id=>exact out (.exit id) hp.1 hp.2
 | goto t=>exact out (.goto t) hp.1 hp.2
 | panic ch=>exact hp.elim
 | outgrown=>exact hp.elim
theorem qL{g:Operand}{ps:Array Tmp}{assign body:Code}{Q:Exit->Act->World->Prop}{a:Act}{w:World}{n:Nat}(h1:1<=n){gf:Nat}{lb:Array Value}
  (hg:a.eval g=.func (.func gf) #[] lb) (eg:∀ args w,(callFunc gf args).run P w=.ok (.enter gf args) w) {encs:α->Array Value} (hps:∀ x,(encs x).size=ps.size)
  {Kp:α->World->World->Prop} {Told:List α->α->World->Prop} {S Sp:List α->Prop} (hKt:∀ {x:α} {A B C:World},Kp x A B->Kp x B C->Kp x A C) (hKp:∀ {x:α} {W:World} {l:Nat} {o:Obj} (o':Obj),W.heap[l]?=some o->o.isCells=false->Kp x W (W.putObj l o')) (hKb:∀ {x:α} {W W':World},Below W.heap.size W W'->Kp x W W') (hseq:aG1 (n - 1) P gf lb encs Kp Told S Sp w)
  (I:List α->World->Prop) (Ix:Code->List α->World->Prop) (hI:OwnFrom w.heap.size I) (hIx:∀ c,OwnFrom w.heap.size (Ix c)) (hT:∀ pre x,OwnFrom w.heap.size (fun (_:Unit) W=>Told pre x W)) (hbd:∀ pre W,I pre W->pre.length<=1000000) (h0:I [] w) (Ax:Nat->α->Act->World->Prop) (hAx:∀ s x a',OwnFrom w.heap.size (fun (_:Unit) W=>Ax s x a' W))
  (hassign:∀ (l:Nat) (pre:List α) (x:α) (W:World) (K:Act->World->Prop),I pre W->Told pre x W->(∀ a' W',Below W.heap.size W W'->Ax W.heap.size x a' W'->K a' W') ->
   assign.wpIn (Fence.wide.inRound l) (n - 1 - 1) P (Exit.then K (fun _ _ _=>False)) { tmps:=(ps.zip (encs x)).foldl (fun t (p,v)=>t.setIfInBounds p v) a.tmps,defers:=[] } W)
  (hbody:∀ (l:Nat) (pre:List α) (x:α) (a':Act) (V0 W:World),I pre W->Told pre x W->Ax V0.heap.size x a' W->Kp x V0 W->V0.heap.size<=W.heap.size->body.wpIn (Fence.wide.inRound l) (n - 1 - 1) P (ownPostG w.heap.size (fun _ W'=>Kp x V0 W') I Ix (pre ++ [x]) W) a' W)
  (hdone:∀ (D:Nat) (xs:List α) (W:World),w.heap.size<=D->S xs->I xs W->W.heap[D]?=some (.deferred (some []))->Q .normal { a with defers:={ target:=.collected D,args:=#[] } :: a.defers } W)
  (hstop:∀ (D:Nat) (c:Code) (pre:List α) (W:World),w.heap.size<=D->Sp pre->Ix c pre W->W.heap[D]?=some (.deferred (some []))->c.wpIn Fence.wide n P Q { a with defers:={ target:=.collected D,args:=#[] } :: a.defers } W) :
  (Code.rangeFunc g ps assign body).wpIn Fence.wide n P Q a w:=by
 refine wpIn_rangeFunc fun fn hfn=>?_
 let r:Loop:={ state:=.ready,pending:=none,fn:=fn,tmps:=a.tmps,params:=ps,assign:=assign,body:=body,defers:=w.heap.size }
 have hB:Below w.heap.size w ((w.alloc (.deferred (some []))).alloc (.loop r)):=(bz9).alloc (by simp) _
 have hz:((w.alloc (.deferred (some []))).alloc (.loop r)).heap.size=w.heap.size+2:=by simp
 have hR:Rc w.heap.size r ((w.alloc (.deferred (some []))).alloc (.loop r)):=by
  refine⟨?_,(Below.heap_alloc _ _ _ (by simp)).trans (World.alloc_heap_new w _)⟩
  have:=World.alloc_heap_new (w.alloc (.deferred (some []))) (.loop r)
  rwa [a7] at this
 refine⟨w.heap.size+1,[{ target:=.collected w.heap.size,args:=#[] }],((w.alloc (.deferred (some []))).alloc (.loop r)),{ target:=.fn (.func gf) lb,args:=#[.func (.yield (w.heap.size+1)) #[] #[]] },((w.alloc (.deferred (some []))).alloc (.loop r)),gf,#[.func (.yield (w.heap.size+1)) #[] #[]] ++ lb,((w.alloc (.deferred (some []))).alloc (.loop r)),
  run_enterLoop_outer _ _ _ _ _,?_,fun _ _=>trivial,?_,fun _=>h1,?_⟩
 ·simp only [resolve,hg]
  simp [go_sem]
 ·simp [invoke,go_sem,eg]
 ·refine(hseq (w.heap.size+1) (fun pre W=>I pre W/\Rc w.heap.size r W) (fun pre W=>∃ c,Ix c pre W/\Rc w.heap.size { r with state:=.done,pending:=some c } W) _ hB
   ?_ ?_ (fun pre V h=>hbd pre V h.1) ?_ ⟨hI.alloc _ (hI.alloc _ h0),hR⟩).mono ?_
  ·rw [hz]
   exact(kQ hI (by omega)).and (wI _)
  ·rw [hz]
   rintro pre A B row ⟨c,hi,hr⟩ hg hrow
   exact⟨c,kQ (hIx c) (by omega) pre A B row hi hg hrow,wI (β:=Unit) _ () A B row hr hg hrow⟩
  ·rw [hz]
   rintro pre x V ⟨hi,hr⟩ ht
   refine⟨fn,_,assign,body,run_yield hr.1 (hps x),roundIn_of_wpIn hfn (hassign _ pre x V _ hi ht ?_)⟩
   intro a' W' hb hax
   have hr':=hr.below hb
   refine⟨_,run_beginRound hr'.1 rfl,?_⟩
   have hr2:Rc w.heap.size { r with state:=.busy } (W'.putObj (w.heap.size+1) (.loop { r with state:=.busy })):=hr'.put _
   exact wpIn_mono (hbody _ pre x a' V _ (hI.putObj _ (fJ hI hi hb) (by omega) hr'.1 rfl) ((hT pre x).putObj (s:=()) _ (fJ (hT pre x) (s:=()) ht hb) (by omega) hr'.1 rfl) ((hAx _ x a').putObj (s:=()) _ hax (by omega) hr'.1 rfl) (hKt (hKb hb) (hKp _ hr'.1 rfl)) (i8 hb.size (grownBy_putObj' _ _ _).size)) fun e a3 W3 hp=>
    yO (r:=r) (Kp:=Kp x) hKt hKp hI hIx hr2 ((lV hb).trans (iL _ _ (by omega))) hp
  ·rintro e V ⟨⟨v,rfl⟩,(⟨xs,hS,hi,hr⟩ | ⟨pre,hSp,c,hi,hr⟩)⟩
   ·exact⟨none,_,run_endLoop hr.1 (by simp [r]),hdone _ xs _ lz9 hS (hI.putObj _ hi (by omega) hr.1 rfl) ((World.putObj_heap_other (by omega)).trans hr.2)⟩
   ·exact⟨some c,_,run_endLoop hr.1 (by simp),hstop _ c pre _ lz9 hSp ((hIx c).putObj _ hi (by omega) hr.1 rfl) ((World.putObj_heap_other (by omega)).trans hr.2)⟩
end
theorem bG0{w0:World}{L:List El}{l b1:Nat}{J Jx:List El->World->Prop}{B:Nat}{Kp:World->World->Prop}(hK1:∀ {V V':World},Kp V V'->CKeep (fun k=>k < w0.heap.size) V V')(hK2:∀ {V V':World} {k:Nat} {f:Fl},Kp V V'->b1<=k->BoxN V k f->BoxN V' k f)(hJ:OwnFrom B J)(n:Nat)(hL:∀ pre V,J pre V->pre.length<=1000000)
  (hY:∀ pre x V,J pre V->pre ++ [x] <+: L->YieldAt Fence.wide (n - 1) Tryz.prog l (tZ x) V fun e V'=>KeepsFrom B V V'/\((e=.returned (.bool true)/\J (pre ++ [x]) V'/\Kp V V')\/(e=.returned (.bool false)/\Jx (pre ++ [x]) V'))) :
  ∀ (m:Nat) (t:Tr) (p:Way) (pre:List El) (V:World),t.sz<=m->pre ++ pp p t <+: L->TB w0 t->CK w0 V->J pre V->p.length<=pre.length->b1<=V.heap.size ->
   CallsIn Fence.wide n Tryz.prog 130 #[.agg #[.int .i64 t.f.k,.int .i64 t.f.n,.int .i64 t.f.mn,.int .i64 t.f.mx,.slice t.f.rq t.f.rs.length t.f.rc,.slice t.f.kq t.f.kl t.f.kc],.int .i64 ((p.length:Int)+1),.func (.yield l) #[] #[]] V (aA7 w0 b1 L J Jx (pre ++ pp p t)):=by
 intro m
 induction m with
 | zero=>intro t p pre V hm;exact absurd (eV t) (by omega)
 | succ m ih=>
  intro t p pre V hm hpre hta hck hj hpl hb1
  have hfn:∀ f,Fence.wide.fn f:=fun _=>trivial
  have IH:=aD ih
  have HL:=aD hL
  have HPRE:=aD hpre
  have HTA:=aD hta
  have HM:=aD hm
  have hlen:=hL pre V hj
  obtain⟨q,cap,hkv,hk1,hk2,hk3⟩:=hta.node.k.slice
  injection hkv with hkq hkl hkc
  subst hkq
  have HKL:=aD hkl
  have HK3:=aD hk3
  have hkm:t.ks.length<=9223372036854775807:=hk1
  clear hkl hkc hk3 hk1
  have B1:Hid (Below V.heap.size V (V.alloc (.cells #[.int .i64 t.f.k,.int .i64 t.f.n,.int .i64 t.f.mn,.int .i64 t.f.mx,.slice t.f.rq t.f.rs.length t.f.rc,.slice t.f.kq t.f.kl t.f.kc] 25))):=bz9
  have N1:Hid (BoxN (V.alloc (.cells #[.int .i64 t.f.k,.int .i64 t.f.n,.int .i64 t.f.mn,.int .i64 t.f.mx,.slice t.f.rq t.f.rs.length t.f.rc,.slice t.f.kq t.f.kl t.f.kc] 25)) V.heap.size t.f):=aE V _
  have J1:Hid (J pre (V.alloc (.cells #[.int .i64 t.f.k,.int .i64 t.f.n,.int .i64 t.f.mn,.int .i64 t.f.mx,.slice t.f.rq t.f.rs.length t.f.rc,.slice t.f.kq t.f.kl t.f.kc] 25))):=hJ.alloc _ hj
  have C1:Hid (CK w0 (V.alloc (.cells #[.int .i64 t.f.k,.int .i64 t.f.n,.int .i64 t.f.mn,.int .i64 t.f.mx,.slice t.f.rq t.f.rs.length t.f.rc,.slice t.f.kq t.f.kl t.f.kc] 25))):=hck.trans (CK.of_below B1.out)
  have Hb1:=aD hb1
  clear ih hL hpre hta hm hj hck hb1
  refine callsIn_of_wp Tryz.func130 rfl trivial ?_ rfl
  simp only [Tryz.ntmps130,aBB,j8,List.length_nil,Nat.reduceAdd,Nat.reduceSub,aAY,aBI,aBQ,aBK,aAG,r9]
  have cs:=N1.out.six
  obtain⟨fn,tmps,assign,body,hy,hR⟩:=hY pre (p,t) _ J1.out (jX HPRE.out aCA)
  simp only [tZ] at hy
  obtain⟨c0,c1,c2,c3,c4,c5⟩:=cs
  simp only [g8] at c1 c2 c3 c4 c5
  gi_wp2
  refine⟨(fun z=>by cases z),hR.mono ?_⟩
  rintro e W3 ⟨-,(⟨rfl,hJ3,hk3⟩ | ⟨rfl,hJx3⟩)⟩
  ·have cc5:W3.cell? ⟨V.heap.size,5,none⟩=some (.slice t.f.kq t.f.kl t.f.kc):=(hK2 hk3 Hb1.out N1.out).six.2.2.2.2.2
   have J3:=aD hJ3
   have C3:Hid (CK w0 W3):=C1.out.step (hK1 hk3)
   have S3:Hid (b1<=W3.heap.size):=i8 Hb1.out (i8 B1.out.size (hK1 hk3).size)
   rw [HKL.out] at cc5
   clear hJ3 hk3 hy hR c0 c1 c2 c3 c4 c5 J1 C1 N1 B1
   gi_wp2
   gi_loopw [17] (fun i wr=>∃ j:Nat,j<=t.ks.length/\i=.int .i64 (j:Int)/\J (pre ++ (p,t) :: pps t p 0 (t.ks.take j)) wr/\CK w0 wr/\b1<=wr.heap.size) (fun i _=>t.ks.length - (intOf i).toNat)
   case atStart=>exact⟨0,m9 _,rfl,by rw [aAS,cA];exact J3.out,C3.out,S3.out⟩
   case round=>
    clear J3 C3 S3 cc5
    obtain⟨j,hj,rfl,hj1,hj2,hj3⟩:=hrel
    have HJ:=aD hj1
    have HC:=aD hj2
    have HS:=aD hj3
    clear hj1 hj2 hj3
    by_cases hjl:j < t.ks.length
    ·have e0:(j:Int) < (t.ks.length:Int):=by omega
     obtain⟨u,hu⟩:∃ u,t.ks[j]?=some u:=⟨_,g9 hjl⟩
     obtain⟨g,off,hq,hg,hsix⟩:=HK3.out j u hu
     rw [hq]
     have HU:=aD hu
     have hin:u∈t.ks:=i9 hu
     obtain⟨c0,c1,c2,c3,c4,c5⟩:=hsix.ck HC.out hg
     have B4:Hid (Below wr.heap.size wr (wr.alloc (.cells #[.int .i64 u.f.k,.int .i64 u.f.n,.int .i64 u.f.mn,.int .i64 u.f.mx,.slice u.f.rq u.f.rs.length u.f.rc,.slice u.f.kq u.f.kl u.f.kc] 25))):=bz9
     have N4:Hid (BoxN (wr.alloc (.cells #[.int .i64 u.f.k,.int .i64 u.f.n,.int .i64 u.f.mn,.int .i64 u.f.mx,.slice u.f.rq u.f.rs.length u.f.rc,.slice u.f.kq u.f.kl u.f.kc] 25)) wr.heap.size u.f):=aE wr _
     obtain⟨d0,d1,d2,d3,d4,d5⟩:=N4.out.six
     simp only [g8] at d1 d2 d3 d4 d5
     have hj1:=HL.out _ _ HJ.out
     have IHU:=aD (IH.out u ((t,j) :: p) (pre ++ (p,t) :: pps t p 0 (t.ks.take j)) (wr.alloc (.cells #[.int .i64 u.f.k,.int .i64 u.f.n,.int .i64 u.f.mn,.int .i64 u.f.mx,.slice u.f.rq u.f.rs.length u.f.rc,.slice u.f.kq u.f.kl u.f.kc] 25)) (by have:=dM hin;have:=HM.out;omega)
      (by rw [t9,r9,<- lS hu];exact jX HPRE.out (wK _)) (HTA.out.kid hin) (HC.out.trans (CK.of_below B4.out)) (hJ.alloc _ HJ.out) (by simp;omega) (i8 HS.out B4.out.size))
     have e1:((((t,j) :: p).length:Nat):Int)+1=((p.length:Int)+1)+1:=by simp
     rw [e1] at IHU
     clear hsix hu
     gi_wp2
     refine⟨(fun z=>by cases z),(callsIn_wide.2 (callsIn_wide.1 IHU.out)).mono ?_⟩
     rintro e W5 ⟨r5,rfl,h5⟩
     have H5:=aD h5
     clear h5 c0 c1 c2 c3 c4 c5 d0 d1 d2 d3 d4 d5 IHU N4 B4
     cases r5 with
     | true=>
      rcases H5.out with⟨-,h51,h52,h53⟩ | ⟨z,-⟩
      ·have HN:Hid (J (pre ++ (p,t) :: pps t p 0 (t.ks.take (j+1))) W5):=(by rw [lS HU.out,<- r9,<- t9];exact h51)
       have H52:=aD h52
       have H53:=aD h53
       clear h51 h52 h53 H5
       gi_wp2
       go_roundw
       case rel=>exact⟨j+1,by omega,by go_num,HN.out,H52.out,H53.out⟩
       case measure=>simp only [intOf];omega
      ·cases z
     | false=>
      rcases H5.out with⟨z,-⟩ | ⟨-,pre',h51,h52⟩
      ·cases z
      ·have HN:=aD (⟨pre',h51,h52⟩:∃ pre',pre' <+: L/\Jx pre' W5)
       clear H5 h51 h52
       gi_wp2
       go_ret
       exact⟨false,rfl,.inr ⟨rfl,HN.out⟩⟩
    ·have e0:¬ (j:Int) < (t.ks.length:Int):=by omega
     have HN:Hid (J (pre ++ pp p t) wr):=(by rw [cF,show t.ks=t.ks.take j by rw [j9 (by omega)]];exact HJ.out)
     gi_wp2
     go_ret
     exact⟨true,rfl,.inl ⟨rfl,HN.out,HC.out,HS.out⟩⟩
  ·have HN:=aD hJx3
   clear hJx3
   gi_wp2
   go_ret
   exact⟨false,rfl,.inr ⟨rfl,_,jX HPRE.out aCA,HN.out⟩⟩
theorem wN(n:Nat){w0 w:World}{b:Nat}{t:Tr}(hB:BoxN w b t.f)(hta:TB w0 t)(hck:CK w0 w){Kp:World->World->Prop}(hK1:∀ {V V':World},Kp V V'->CKeep (fun k=>k < w0.heap.size) V V')(hK2:∀ {V V':World} {k:Nat} {f:Fl},Kp V V'->w.heap.size<=k->BoxN V k f->BoxN V' k f) :
  aG1 n Tryz.prog 129 #[.pointer (some ⟨b,0,none⟩)] tZ (fun _=>Kp) (tE t) (fun xs=>xs=pp [] t) (fun pre=>pre <+: pp [] t) w:=by
 intro l J Jx V hV hJ hJx hb hY h0
 have hfn:∀ f,Fence.wide.fn f:=fun _=>trivial
 have D:=aD (bG0 (w0:=w0) (L:=pp [] t) (b1:=w.heap.size) (Jx:=Jx) (Kp:=Kp) hK1 hK2 hJ n hb (fun pre x V=>hY pre x V) t.sz t [] [] V lz9 (by rw [aAG];exact List.prefix_refl _) hta (hck.step ⟨hV.size,fun k _ _ _ _ hc=>(hV.block k (aB hc)).trans hc⟩) h0 lz9 hV.size)
 have HB:Hid (BoxN V b t.f):=(hV.block _ (aB hB)).trans hB
 obtain⟨c0,c1,c2,c3,c4,c5⟩:=HB.out.six
 simp only [g8] at c1 c2 c3 c4 c5
 clear hJ hJx hb hY h0 hB hta hck hV
 refine callsIn_of_wp Tryz.func129 rfl trivial ?_ rfl
 simp only [Tryz.ntmps129,aBB,j8,List.length_nil,Nat.reduceAdd,Nat.reduceSub,aAY,aBI,aBQ,aBK,aAG,r9]
 gi_wp2
 refine⟨(fun z=>by cases z),(callsIn_wide.2 (callsIn_wide.1 D.out)).mono ?_⟩
 rintro e W5 ⟨r5,rfl,h5⟩
 have H5:=aD h5
 clear h5 D
 gi_wp2
 go_end0
 refine⟨⟨_,rfl⟩,?_⟩
 rcases H5.out with⟨-,h51,-,-⟩ | ⟨-,pre',h51,h52⟩
 ·exact .inl ⟨_,rfl,by rw [aAG] at h51;exact h51⟩
 ·exact .inr ⟨pre',h51,h52⟩
theorem bD1{g:Operand}{ps:Array Tmp}{assign body:Code}{Q:Exit->Act->World->Prop}{a:Act}{w:World}{n:Nat}(hn:1<=n)(q d:Nat)(b:Nat){w0:World}{t:Tr}
  (hg:a.eval g=.func (.func 129) #[] #[.pointer (some ⟨b,0,none⟩)]) (hps:ps=#[q,d]) (hB:BoxN w b t.f) (hta:TB w0 t) (hck:CK w0 w) {Kp:World->World->Prop} (hKt:∀ {A B C:World},Kp A B->Kp B C->Kp A C) (hKp:∀ {W:World} {l:Nat} {o:Obj} (o':Obj),W.heap[l]?=some o->o.isCells=false->Kp W (W.putObj l o')) (hKb:∀ {W W':World},Below W.heap.size W W'->Kp W W') (hK1:∀ {V V':World},Kp V V'->CKeep (fun k=>k < w0.heap.size) V V') (hK2:∀ {V V':World} {k:Nat} {f:Fl},Kp V V'->w.heap.size<=k->BoxN V k f->BoxN V' k f)
  (I:List El->World->Prop) (Ix:Code->List El->World->Prop) (hI:OwnFrom w.heap.size I) (hIx:∀ c,OwnFrom w.heap.size (Ix c)) (hbd:∀ pre W,I pre W->pre.length<=1000000) (h0:I [] w)
  (Ax:Nat->Act->El->Act->World->Prop) (hAx:∀ s y x a',OwnFrom w.heap.size (fun (_:Unit) W=>Ax s y x a' W))
  (hassign:∀ (l:Nat) (pre:List El) (x:El) (W:World) (K:Act->World->Prop),I pre W->CK w0 W->w.heap.size<=W.heap.size->tE t pre x W->(∀ a' W',Below W.heap.size W W'->Ax W.heap.size (gB a q d x) x a' W'->K a' W') ->
   assign.wpIn (Fence.wide.inRound l) (n - 1 - 1) Tryz.prog (Exit.then K (fun _ _ _=>False)) (gB a q d x) W)
  (hbody:∀ (l:Nat) (pre:List El) (x:El) (a':Act) (V0 V:World),I pre V->CK w0 V->w.heap.size<=V.heap.size->tE t pre x V->Ax V0.heap.size (gB a q d x) x a' V->Kp V0 V->V0.heap.size<=V.heap.size->body.wpIn (Fence.wide.inRound l) (n - 1 - 1) Tryz.prog (ownPostG w.heap.size (fun _ V'=>Kp V0 V'/\CK w0 V') I Ix (pre ++ [x]) V) a' V)
  (hdone:∀ (D:Nat) (V:World),w.heap.size<=D->I (pp [] t) V->CK w0 V->V.heap[D]?=some (.deferred (some []))->Q .normal (gM a D) V)
  (hstop:∀ (D:Nat) (c:Code) (pre:List El) (V:World),w.heap.size<=D->pre <+: pp [] t->Ix c pre V->V.heap[D]?=some (.deferred (some []))->c.wpIn Fence.wide n Tryz.prog Q (gM a D) V) :
  (Code.rangeFunc g ps assign body).wpIn Fence.wide n Tryz.prog Q a w:=by
 subst hps
 refine qL (α:=El) (Kp:=fun _=>Kp) (Told:=tE t) hn (gf:=129) hg (enters_of Tryz.func129 (by kernel_rfl) rfl) (encs:=tZ) (fun _=>rfl)
  hKt hKp hKb (wN (n - 1) hB hta hck (Kp:=Kp) hK1 hK2) (fun pre V=>I pre V/\CK w0 V/\w.heap.size<=V.heap.size) Ix ?_ hIx (fun pre x _ _ _ _ h _ _=>h) (fun pre W h=>hbd pre W h.1) ⟨h0,hck,n8 _⟩ (fun s x=>Ax s (gB a q d x) x) (fun s x=>hAx s _ x) ?_ ?_ ?_ hstop
 ·intro pre A A' row hi hg hr
  exact⟨hI pre A A' row hi.1 hg hr,aZ0 hi.2.1 hg hr,i8 hi.2.2 hg.size⟩
 ·intro l pre x V K hi ht hK
  have:=hassign l pre x V K hi.1 hi.2.1 hi.2.2 ht hK
  simpa [tZ,gB] using this
 ·intro l pre x a' V0 V hi ht hax hk0 hs0
  refine wpIn_mono (hbody l pre x a' V0 V hi.1 hi.2.1 hi.2.2 ht hax hk0 hs0) fun e a3 W3 hp=>?_
  cases e with
  | normal=>exact⟨hp.1,hp.2.1.1,hp.2.2,hp.2.1.2,i8 hi.2.2 hp.1.size⟩
  | ret=>exact hp
  | exit id=>exact hp
  | goto t=>exact hp
  | panic ch=>exact hp
  | outgrown=>exact hp
 ·rintro D xs V hD rfl hi hK
  exact hdone D V hD hi.1 hi.2.1 hK
end
section
inductive Er where
 | mk (k n mn mx:Int) (rs:List (Int × Int)) (ks:List Er)
mutual
def er:Tr->Er | .mk f ks=>.mk f.k f.n f.mn f.mx f.rs (ers ks)
def ers:List Tr->List Er | []=>[] | t :: ts=>er t :: ers ts
end
theorem bF7(l:List Tr):ers l=l.map er:=by
 induction l with
 | nil=>rw [ers];rfl
 | cons t ts ih=>rw [ers,ih];rfl
theorem vB(t:Tr):er t=.mk t.f.k t.f.n t.f.mn t.f.mx t.f.rs (t.ks.map er):=by
 cases t
 rw [er,bF7]
 rfl
theorem lZ(a b:Tr):er a=er b ↔ a.f.k=b.f.k/\a.f.n=b.f.n/\a.f.mn=b.f.mn/\a.f.mx=b.f.mx/\a.f.rs=b.f.rs/\a.ks.map er=b.ks.map er:=by
 rw [vB a,vB b]
 constructor
 ·intro h
  injection h with h1 h2 h3 h4 h5 h6
  exact⟨h1,h2,h3,h4,h5,h6⟩
 ·rintro ⟨h1,h2,h3,h4,h5,h6⟩
  rw [h1,h2,h3,h4,h5,h6]
open Classical in
noncomputable def qJ (a b:Er):Bool:=decide (a=b)
theorem uP(a b:Er):qJ a b=true ↔ a=b:=by unfold qJ;simp
theorem aD3(a:Er):qJ a a=true:=(uP a a).2 rfl
end
def eX(k:Int):Bool:=decide (1<=k) && decide (k<=9)
def cK(k:Int):Bool:=k==2 || k==7 || k==8 || k==9
def fU(a b:Int):Bool:=decide (0<=a) && decide (a<=255) && (b==-1 ||(decide (a<=b) && decide (b<=255)))
def iT(k:Int)(n:Nat):Bool:=if k=5\/k=6 then decide (2<=n) else if k=7\/k=9 then n==1 else n==0
theorem zE(k:Int)(w:World):Calls Tryz.prog 159 #[.int .i64 k] w fun e w'=>e=.returned (.bool (eX k))/\w'=w:=by
 have hid:∀ b,eX k=b->Calls Tryz.prog 159 #[.int .i64 k] w fun e w'=>e=.returned (.bool b)/\w'=w:=by
  intro b hb
  by_cases h1:(1:Int)<=k
  ·by_cases h2:k<=9
   ·have e:b=true:=by rw [<- hb];simp [eX,h1,h2]
    subst e
    clear hb
    go_enter Tryz.func159,Tryz.ntmps159
    go_wp2
    go_ret
    exact⟨rfl,rfl⟩
   ·have e:b=false:=by rw [<- hb];simp [eX,h2]
    subst e
    clear hb
    go_enter Tryz.func159,Tryz.ntmps159
    go_wp2
    go_ret
    exact⟨rfl,rfl⟩
  ·have e:b=false:=by rw [<- hb];simp [eX,h1]
   subst e
   clear hb
   go_enter Tryz.func159,Tryz.ntmps159
   go_wp2
   go_ret
   exact⟨rfl,rfl⟩
 exact hid _ rfl
theorem qM(k:Int)(w:World):Calls Tryz.prog 158 #[.int .i64 k] w fun e w'=>e=.returned (.bool (cK k))/\w'=w:=by
 have hid:∀ b,cK k=b->Calls Tryz.prog 158 #[.int .i64 k] w fun e w'=>e=.returned (.bool b)/\w'=w:=by
  intro b hb
  unfold cK at hb
  cases h1:(k==2) <;> cases h2:(k==7) <;> cases h3:(k==8) <;> cases h4:(k==9) <;> rw [h1,h2,h3,h4] at hb <;> simp at hb <;> subst hb
  all_goals
   go_enter Tryz.func158,Tryz.ntmps158
   go_wp2
   go_ret
   exact⟨rfl,rfl⟩
 exact hid _ rfl
theorem tW(a b:Int)(w:World):Calls Tryz.prog 161 #[.int .i64 a,.int .i64 b] w fun e w'=>e=.returned (.bool (fU a b))/\w'=w:=by
 have hid:∀ r,fU a b=r->Calls Tryz.prog 161 #[.int .i64 a,.int .i64 b] w fun e w'=>e=.returned (.bool r)/\w'=w:=by
  intro r hb
  unfold fU at hb
  by_cases h1:(0:Int)<=a
  ·by_cases h2:a<=255
   ·cases h3:(b==-1) with
    | true=>
     simp [h1,h2,h3] at hb
     subst hb
     go_enter Tryz.func161,Tryz.ntmps161
     go_wp2
     go_ret
     exact⟨rfl,rfl⟩
    | false=>
     by_cases h4:a<=b
     ·by_cases h5:b<=255
      ·simp [h1,h2,h3,h4,h5] at hb
       subst hb
       go_enter Tryz.func161,Tryz.ntmps161
       go_wp2
       go_ret
       exact⟨rfl,rfl⟩
      ·simp [h1,h2,h3,h4,h5] at hb
       subst hb
       go_enter Tryz.func161,Tryz.ntmps161
       go_wp2
       go_ret
       exact⟨rfl,rfl⟩
     ·simp [h1,h2,h3,h4] at hb
      subst hb
      go_enter Tryz.func161,Tryz.ntmps161
      go_wp2
      go_ret
      exact⟨rfl,rfl⟩
   ·simp [h1,h2] at hb
    subst hb
    go_enter Tryz.func161,Tryz.ntmps161
    go_wp2
    go_ret
    exact⟨rfl,rfl⟩
  ·simp [h1] at hb
   subst hb
   go_enter Tryz.func161,Tryz.ntmps161
   go_wp2
   go_ret
   exact⟨rfl,rfl⟩
 exact hid _ rfl
theorem aZ5(n:Nat):((n:Int)==0)=(n==0):=by cases n <;> rfl
theorem bG6(n:Nat):((n:Int)==1)=(n==1):=by rw [aBD];simp;omega
theorem yP(f:Fl)(w:World):Calls Tryz.prog 133 #[.agg #[.int .i64 f.k,.int .i64 f.n,.int .i64 f.mn,.int .i64 f.mx,.slice f.rq f.rs.length f.rc,.slice f.kq f.kl f.kc]] w fun e w'=>e=.returned (.bool (iT f.k f.kl))/\Below w.heap.size w w':=by
 obtain⟨r,hr⟩:∃ r,iT f.k f.kl=r:=⟨_,rfl⟩
 rw [hr]
 have HR:=aD hr
 have B1:Hid (Below w.heap.size w (w.alloc (.cells #[.int .i64 f.k,.int .i64 f.n,.int .i64 f.mn,.int .i64 f.mx,.slice f.rq f.rs.length f.rc,.slice f.kq f.kl f.kc] 25))):=bz9
 have N1:Hid (BoxN (w.alloc (.cells #[.int .i64 f.k,.int .i64 f.n,.int .i64 f.mn,.int .i64 f.mx,.slice f.rq f.rs.length f.rc,.slice f.kq f.kl f.kc] 25)) w.heap.size f):=aE w _
 obtain⟨c0,-,-,-,-,c5⟩:=N1.out.six
 simp only [g8] at c5
 clear hr
 cases h5:(f.k==5) <;> cases h6:(f.k==6) <;> cases h7:(f.k==7) <;> cases h9:(f.k==9)
 all_goals
  go_enter Tryz.func133,Tryz.ntmps133
  go_wp2
  go_ret
  refine⟨?_,B1.out⟩
  rw [<- HR.out]
  unfold iT
  simp at h5 h6 h7 h9
  simp [h5,h6,h7,h9]
  try first | exact aZ5 _ | exact bG6 _ | omega
section
open Go Go.RowKit Go.Shelf
attribute [local go_sem] Oper.semAt_some
def mC(t:Tr):Nat:=min (pp [] t).length 2001
theorem nC{n B:Nat}{w W W':World}{row:Option Nat}(h:Below n w W)(hn:n<=w.heap.size)(hB:n<=B)(hg:W.grownBy W' row)(hr:∀ r,row=some r->B<=r/\∃ o:Obj,W.heap[r]?=some o/\o.isCells=false):Below n w W':=
 h.trans ⟨hg.os,hg.tape,hg.output,hg.size,fun k hk=>hg.block k (by have:=h.size;omega) (fun e=>by have:=(hr k e.symm).1;omega)⟩
theorem pF{n:Nat}{w W:World}{D:Nat}(o:Obj)(h:Below n w W)(hD:n<=D):Below n w (W.putObj D o):=
 h.trans ⟨rfl,rfl,rfl,(grownBy_putObj' W D o).size,fun k hk=>World.putObj_heap_other (by omega)⟩
end
structure eC where
 f:Fl
 s:Int
def Seven(W:World)(g o:Nat)(x:eC):Prop:=Six W g o x.f/\W.cell? ⟨g,o+6,none⟩=some (.int .i64 x.s)
structure CB(W:World)(b:Nat)(c f:Bool)(ah gr:Int)(A:Nat->eC):Prop where
 blk:∃ cur,W.heap[b]?=some (.cells cur 159 (0,0))
 c0:W.cell? ⟨b,0,none⟩=some (.bool c)
 c1:W.cell? ⟨b,1,none⟩=some (.bool f)
 c2:W.cell? ⟨b,2,none⟩=some (.int .i64 ah)
 c3:W.cell? ⟨b,3,none⟩=some (.int .i64 gr)
 sp:∀ d,d < 41->Seven W b (4+d * 7) (A d)
theorem CB.lt{W:World}{b:Nat}{c f:Bool}{ah gr:Int}{A:Nat->eC}(h:CB W b c f ah gr A):b < W.heap.size:=by
 obtain⟨cur,h⟩:=h.blk
 exact aB h
theorem CB.ck{N:Nat->Prop}{W W':World}{b:Nat}{c f:Bool}{ah gr:Int}{A:Nat->eC}(h:CB W b c f ah gr A)(hk:CKeep N W W')(hb:N b):CB W' b c f ah gr A:=by
 obtain⟨cur,hc⟩:=h.blk
 exact⟨⟨cur,hk.same _ _ _ _ hb hc⟩,dP hk (p:=⟨b,0,none⟩) hb h.c0,dP hk (p:=⟨b,1,none⟩) hb h.c1,dP hk (p:=⟨b,2,none⟩) hb h.c2,dP hk (p:=⟨b,3,none⟩) hb h.c3,fun d hd=>⟨(h.sp d hd).1.ck hk hb,dP hk (p:=⟨b,4+d * 7+6,none⟩) hb (h.sp d hd).2⟩⟩
theorem CB.kept{W W':World}{b:Nat}{c f:Bool}{ah gr:Int}{A:Nat->eC}(h:CB W b c f ah gr A)(hb:Below W.heap.size W W'):CB W' b c f ah gr A:=h.ck (CK.of_below hb) h.lt
theorem CB.row{W W':World}{b B:Nat}{c f:Bool}{ah gr:Int}{A:Nat->eC}{row:Option Nat}(h:CB W b c f ah gr A)(hg:W.grownBy W' row)(hr:∀ r,row=some r->B<=r/\∃ o:Obj,W.heap[r]?=some o/\o.isCells=false):CB W' b c f ah gr A:=
 h.ck (N:=fun _=>True) ⟨hg.size,fun _ _ _ _ _ hc=>dA hg hr hc⟩ trivial
theorem bL4{b i j:Nat}(h:i≠j):(⟨b,i,none⟩:Addr)≠⟨b,j,none⟩:=fun e=>h (by injection e)
theorem aI{W:World}{b i j:Nat}{u v:Value}(h:W.cell? ⟨b,i,none⟩=some v)(hij:i≠j):(W.setCell ⟨b,j,none⟩ u).cell? ⟨b,i,none⟩=some v:=by
 rw [World.cell?_setCell_other]
 ·exact h
 ·exact bL4 hij.symm
theorem Six.off{W:World}{b o j:Nat}{u:Value}{f:Fl}(h:Six W b o f)(hj:j < o\/o+6<=j):Six (W.setCell ⟨b,j,none⟩ u) b o f:=
 ⟨aI h.1 (by omega),aI h.2.1 (by omega),aI h.2.2.1 (by omega),aI h.2.2.2.1 (by omega),aI h.2.2.2.2.1 (by omega),aI h.2.2.2.2.2 (by omega)⟩
theorem gT{W:World}{b:Nat}{t:TypeId}(h:∃ cur,W.heap[b]?=some (.cells cur t (0,0)))(j:Nat)(u:Value):∃ cur,(W.setCell ⟨b,j,none⟩ u).heap[b]?=some (.cells cur t (0,0)):=by
 obtain⟨cur,hc⟩:=h
 exact⟨_,aO hc j u⟩
theorem Seven.off{W:World}{b o j:Nat}{u:Value}{x:eC}(h:Seven W b o x)(hj:j < o\/o+7<=j):Seven (W.setCell ⟨b,j,none⟩ u) b o x:=
 ⟨h.1.off (by omega),aI h.2 (by omega)⟩
theorem CB.setAh{W:World}{b:Nat}{c f:Bool}{ah gr:Int}{A:Nat->eC}(h:CB W b c f ah gr A)(x:Int):CB (W.setCell ⟨b,2,none⟩ (.int .i64 x)) b c f x gr A:=
 ⟨gT h.blk _ _,aI h.c0 (by omega),aI h.c1 (by omega),n7 _ _ _ h.c2,aI h.c3 (by omega),fun d hd=>(h.sp d hd).off (by omega)⟩
theorem CB.setGr{W:World}{b:Nat}{c f:Bool}{ah gr:Int}{A:Nat->eC}(h:CB W b c f ah gr A)(x:Int):CB (W.setCell ⟨b,3,none⟩ (.int .i64 x)) b c f ah x A:=
 ⟨gT h.blk _ _,aI h.c0 (by omega),aI h.c1 (by omega),aI h.c2 (by omega),n7 _ _ _ h.c3,fun d hd=>(h.sp d hd).off (by omega)⟩
def pQ(A:Nat->eC)(d:Nat)(x:eC):Nat->eC:=fun i=>if i=d then x else A i
theorem CB.setSeen{W:World}{b:Nat}{c f:Bool}{ah gr:Int}{A:Nat->eC}(h:CB W b c f ah gr A){d:Nat}(hd:d < 41)(x:Int):CB (W.setCell ⟨b,4+d * 7+6,none⟩ (.int .i64 x)) b c f ah gr (pQ A d ⟨(A d).f,x⟩):=
 ⟨gT h.blk _ _,aI h.c0 (by omega),aI h.c1 (by omega),aI h.c2 (by omega),aI h.c3 (by omega),fun i hi=>by
  unfold pQ
  by_cases e:i=d
  ·subst e
   rw [if_pos rfl]
   exact⟨(h.sp i hi).1.off (by omega),n7 _ _ _ (h.sp i hi).2⟩
  ·rw [if_neg e]
   exact(h.sp i hi).off (by omega)⟩
def lR(W:World)(b o:Nat)(x:eC):World:=
 ((((((W.setCell ⟨b,o,none⟩ (.int .i64 x.f.k)).setCell ⟨b,o+1,none⟩ (.int .i64 x.f.n)).setCell ⟨b,o+2,none⟩ (.int .i64 x.f.mn)).setCell ⟨b,o+3,none⟩ (.int .i64 x.f.mx)).setCell ⟨b,o+4,none⟩ (.slice x.f.rq x.f.rs.length x.f.rc)).setCell ⟨b,o+5,none⟩ (.slice x.f.kq x.f.kl x.f.kc)).setCell ⟨b,o+6,none⟩ (.int .i64 x.s)
theorem CB.setSpot{W:World}{b:Nat}{c f:Bool}{ah gr:Int}{A:Nat->eC}(h:CB W b c f ah gr A){d:Nat}(hd:d < 41)(x:eC):CB (lR W b (4+d * 7) x) b c f ah gr (pQ A d x):=by
 have off:∀ {i:Nat} {v:Value},W.cell? ⟨b,i,none⟩=some v->(i < 4+d * 7\/4+d * 7+7<=i)->(lR W b (4+d * 7) x).cell? ⟨b,i,none⟩=some v:=by
  intro i v hv hi
  unfold lR
  exact aI (aI (aI (aI (aI (aI (aI hv (by omega)) (by omega)) (by omega)) (by omega)) (by omega)) (by omega)) (by omega)
 refine⟨?_,off h.c0 (by omega),off h.c1 (by omega),off h.c2 (by omega),off h.c3 (by omega),fun i hi=>?_⟩
 ·unfold lR
  exact gT (gT (gT (gT (gT (gT (gT h.blk _ _) _ _) _ _) _ _) _ _) _ _) _ _
 ·unfold pQ
  by_cases e:i=d
  ·subst e
   rw [if_pos rfl]
   obtain⟨⟨k0,k1,k2,k3,k4,k5⟩,k6⟩:=h.sp i hi
   unfold lR
   refine⟨⟨?_,?_,?_,?_,?_,?_⟩,?_⟩
   ·exact aI (aI (aI (aI (aI (aI (n7 _ _ _ k0) (by omega)) (by omega)) (by omega)) (by omega)) (by omega)) (by omega)
   ·exact aI (aI (aI (aI (aI (n7 _ _ _ (aI k1 (by omega))) (by omega)) (by omega)) (by omega)) (by omega)) (by omega)
   ·exact aI (aI (aI (aI (n7 _ _ _ (aI (aI k2 (by omega)) (by omega))) (by omega)) (by omega)) (by omega)) (by omega)
   ·exact aI (aI (aI (n7 _ _ _ (aI (aI (aI k3 (by omega)) (by omega)) (by omega))) (by omega)) (by omega)) (by omega)
   ·exact aI (aI (n7 _ _ _ (aI (aI (aI (aI k4 (by omega)) (by omega)) (by omega)) (by omega))) (by omega)) (by omega)
   ·exact aI (n7 _ _ _ (aI (aI (aI (aI (aI k5 (by omega)) (by omega)) (by omega)) (by omega)) (by omega))) (by omega)
   ·exact n7 _ _ _ (aI (aI (aI (aI (aI (aI k6 (by omega)) (by omega)) (by omega)) (by omega)) (by omega)) (by omega))
  ·rw [if_neg e]
   obtain⟨⟨k0,k1,k2,k3,k4,k5⟩,k6⟩:=h.sp i hi
   exact⟨⟨off k0 (by omega),off k1 (by omega),off k2 (by omega),off k3 (by omega),off k4 (by omega),off k5 (by omega)⟩,off k6 (by omega)⟩
theorem aI7(W:World)(b o:Nat)(x:eC):Fr (fun z=>z=b) W (lR W b o x):=by
 unfold lR
 exact(((((((Fr.refl (fun z=>z=b) W).setCell (p:=⟨b,o,none⟩) rfl _).setCell (p:=⟨b,o+1,none⟩) rfl _).setCell (p:=⟨b,o+2,none⟩) rfl _).setCell (p:=⟨b,o+3,none⟩) rfl _).setCell (p:=⟨b,o+4,none⟩) rfl _).setCell (p:=⟨b,o+5,none⟩) rfl _).setCell (p:=⟨b,o+6,none⟩) rfl _
def Fl.cells(f:Fl):List Value:=[.int .i64 f.k,.int .i64 f.n,.int .i64 f.mn,.int .i64 f.mx,.slice f.rq f.rs.length f.rc,.slice f.kq f.kl f.kc]
def fA(ks:List Tr):List Value:=ks.flatMap fun t=>t.f.cells
theorem qO(t:Tr)(ks:List Tr):fA (t :: ks)=t.f.cells ++ fA ks:=by simp [fA]
theorem uE(a b:List Tr):fA (a ++ b)=fA a ++ fA b:=by simp [fA]
theorem tB:∀ (ks:List Tr) (i j:Nat) (t:Tr),ks[i]?=some t->j < 6->(fA ks)[i * 6+j]?=t.f.cells[j]?
 | t :: ks,0,j,u,h,hj=>by
  simp at h
  subst h
  rw [qO,aAK,g8,o4 (by simpa [Fl.cells] using hj)]
 | t :: ks,i+1,j,u,h,hj=>by
  rw [qO,aAB (by simp [Fl.cells];omega),show (i+1) * 6+j - t.f.cells.length=i * 6+j by simp [Fl.cells];omega]
  exact tB ks i j u (by simpa using h) hj
theorem xF(b o j:Nat):(⟨b,o,none⟩:Addr).add j=⟨b,o+j,none⟩:=by unfold Addr.add;split <;> simp_all
theorem Six.at{W:World}{g o:Nat}{f:Fl}(h:Six W g o f){j:Nat}{u:Value}(hj:f.cells[j]?=some u):W.cell? ⟨g,o+j,none⟩=some u:=by
 obtain⟨h0,h1,h2,h3,h4,h5⟩:=h
 match j,hj with
 | 0,hj=>simp [Fl.cells] at hj;subst hj;exact h0
 | 1,hj=>simp [Fl.cells] at hj;subst hj;exact h1
 | 2,hj=>simp [Fl.cells] at hj;subst hj;exact h2
 | 3,hj=>simp [Fl.cells] at hj;subst hj;exact h3
 | 4,hj=>simp [Fl.cells] at hj;subst hj;exact h4
 | 5,hj=>simp [Fl.cells] at hj;subst hj;exact h5
 | j+6,hj=>simp [Fl.cells] at hj
theorem vC(W:World)(a:Option Addr)(l c:Nat):(binOp .eql 22 (.slice a l c) (.slice none 0 0)).run Tryz.prog W=.ok (.bool a.isNone) W:=by
 unfold binOp
 simp [run_equal_slice_nil W _ _ a l c bM]
theorem aY9{w:World}{q:Option Addr}{k:Nat}{L:List (Int × Int)}(h:ArgR w (.slice q L.length k) L)(hl:L.length+3<=8796093022208) :
  Calls Tryz.prog 162 #[.slice q L.length k] w fun e w'=>∃ q' k',e=.returned (.slice q' L.length k')/\RR w.heap.size w' (.slice q' L.length k') L/\Below w.heap.size w w':=by
 obtain⟨t0,hi,hz0,hz1,hz2⟩:=bH cY
 cases q with
 | none=>
  have hLn:L=[]/\k=0:=by
   rcases h with⟨p,cap,e,rfl,hp⟩ | ⟨g,off,cap,e,-⟩
   ·cases e;exact⟨rfl,hp rfl⟩
   ·cases e
  obtain⟨rfl,rfl⟩:=hLn
  have hq:=fun W=>vC W none 0 0
  clear h
  go_enter Tryz.func162,Tryz.ntmps162
  go_wp2
  go_ret
  exact⟨none,0,rfl,RR.nil _ _,Below.refl _ _⟩
 | some ad=>
  have hq:=fun W=>vC W (some ad) L.length k
  have B0:Below w.heap.size w (w.alloc (.cells #[] 110)):=bz9
  have OW:Hid ((w.alloc (.cells #[] 110)).ownsRow w.heap.size 110 2 (.slice (some ⟨w.heap.size,0,none⟩) 0 0) 0 []):=⟨rfl,.inr ⟨w.heap.size,0,#[],rfl,n8 _,aE w _,n8 _,m9 _,rfl,rfl⟩⟩
  have HG:=aD (h.kept B0).news
  clear h B0
  go_enter Tryz.func162,Tryz.ntmps162
  go_wp2_with (at_builtin;refine wpList_append_own_at _ rfl _ _ 22 rfl w.heap.size 110 t0 (.agg #[.int .i64 0,.int .i64 0]) 2 16 bM hi hz0 hz1 hz2 rfl (by decide) (.slice (some ⟨w.heap.size,0,none⟩) 0 0) 0 [] rfl OW.out ad L.length k (aS L) rfl (by rw [dS]) HG.out (lA L) (by unfold maxLen;omega) (by omega) (by simp) ?_;intro v' w6 hown' hgrow _ hblk;obtain⟨q6,cap6,rfl⟩:=aZ hown';have O6:Hid (w6.ownsRow w.heap.size 110 2 (.slice q6 (0+L.length) cap6) (0+L.length) ([] ++ aS L)):=hown';have B6:Hid (Below w.heap.size w w6):=((((Fr.refl (fun k=>k=w.heap.size) w).alloc _).grown hgrow (fun k hk=>by(simp [Value.ownBlock] at hk;exact hk.symm))).below lz9 (fun k hk=>by omega));clear hown' hgrow hblk)
  go_ret
  have:=O6.out
  rw [g8,aAG] at this
  exact⟨q6,cap6,by simp,this,B6.out⟩
def aX1(N:Nat->Prop)(t:Tr):Prop:=(∀ a,t.f.rq=some a->t.f.rs≠[]->N a.block)/\(∀ a,t.f.kq=some a->t.ks≠[]->N a.block)
def Foot(N:Nat->Prop)(t:Tr):Prop:=bY (aX1 N) t
theorem Foot.mono{N M:Nat->Prop}{t:Tr}(h:Foot N t)(hm:∀ k,N k->M k):Foot M t:=nA (fun _ q=>⟨fun a e z=>hm _ (q.1 a e z),fun a e z=>hm _ (q.2 a e z)⟩) t h
theorem qA{P Q R:Tr->Prop}(h:∀ t,P t->Q t->R t)(t:Tr):bY P t->bY Q t->bY R t:=by
 refine Tr.ind (P:=fun t=>bY P t->bY Q t->bY R t) (fun t ih hp hq=>?_) t
 exact(bE t).2 ⟨h t ((bE t).1 hp).1 ((bE t).1 hq).1,(bX _).2 fun u hu=>ih u hu (bI hp hu) (bI hq hu)⟩
structure KR(W:World)(g:Nat)(ks:List Tr):Prop where
 blk:∃ cur,W.heap[g]?=some (.cells cur 25 (0,0))
 six:∀ (i:Nat) (t:Tr),ks[i]?=some t->Six W g (i * 6) t.f
theorem KR.of_row{W:World}{base g n c:Nat}{ks:List Tr}(h:W.ownsRow base 25 6 (.slice (some ⟨g,0,none⟩) n c) n (fA ks)):KR W g ks:=by
 obtain⟨-,-,cur,hc⟩:=aH h (g:=g) rfl
 have at':∀ (i j:Nat) (t:Tr) (u:Value),ks[i]?=some t->t.f.cells[j]?=some u->W.cell? ⟨g,i * 6+j,none⟩=some u:=fun i j t u hi hj=>
  aU h ((tB ks i j t hi (by have:=(i5.1 hj).1;simpa [Fl.cells] using this)).trans hj)
 exact⟨⟨cur,hc⟩,fun i t hi=>⟨at' i 0 t _ hi rfl,at' i 1 t _ hi rfl,at' i 2 t _ hi rfl,at' i 3 t _ hi rfl,at' i 4 t _ hi rfl,at' i 5 t _ hi rfl⟩⟩
theorem KR.arg{W:World}{g c:Nat}{ks:List Tr}(h:KR W g ks)(h1:ks.length<=c)(h2:c<=maxLen):ArgK W (.slice (some ⟨g,0,none⟩) ks.length c) ks:=by
 obtain⟨cur,hc⟩:=h.blk
 exact .inr ⟨g,0,c,rfl,aB hc,h1,h2,fun i t hi=>by rw [g8];exact h.six i t hi⟩
def kP(W:World)(b o:Nat)(f:Fl):World:=
 (((((W.setCell ⟨b,o,none⟩ (.int .i64 f.k)).setCell ⟨b,o+1,none⟩ (.int .i64 f.n)).setCell ⟨b,o+2,none⟩ (.int .i64 f.mn)).setCell ⟨b,o+3,none⟩ (.int .i64 f.mx)).setCell ⟨b,o+4,none⟩ (.slice f.rq f.rs.length f.rc)).setCell ⟨b,o+5,none⟩ (.slice f.kq f.kl f.kc)
theorem mV(W:World)(b o:Nat)(f:Fl):Fr (fun z=>z=b) W (kP W b o f):=by
 unfold kP
 exact((((((Fr.refl (fun z=>z=b) W).setCell (p:=⟨b,o,none⟩) rfl _).setCell (p:=⟨b,o+1,none⟩) rfl _).setCell (p:=⟨b,o+2,none⟩) rfl _).setCell (p:=⟨b,o+3,none⟩) rfl _).setCell (p:=⟨b,o+4,none⟩) rfl _).setCell (p:=⟨b,o+5,none⟩) rfl _
theorem jW{W:World}{b o:Nat}{f g:Fl}(h:Six W b o f):Six (kP W b o g) b o g:=by
 obtain⟨k0,k1,k2,k3,k4,k5⟩:=h
 unfold kP
 refine⟨?_,?_,?_,?_,?_,?_⟩
 ·exact aI (aI (aI (aI (aI (n7 _ _ _ k0) (by omega)) (by omega)) (by omega)) (by omega)) (by omega)
 ·exact aI (aI (aI (aI (n7 _ _ _ (aI k1 (by omega))) (by omega)) (by omega)) (by omega)) (by omega)
 ·exact aI (aI (aI (n7 _ _ _ (aI (aI k2 (by omega)) (by omega))) (by omega)) (by omega)) (by omega)
 ·exact aI (aI (n7 _ _ _ (aI (aI (aI k3 (by omega)) (by omega)) (by omega))) (by omega)) (by omega)
 ·exact aI (n7 _ _ _ (aI (aI (aI (aI k4 (by omega)) (by omega)) (by omega)) (by omega))) (by omega)
 ·exact n7 _ _ _ (aI (aI (aI (aI (aI k5 (by omega)) (by omega)) (by omega)) (by omega)) (by omega))
section
open Go Go.RowKit Go.Shelf
attribute [local go_sem] Oper.semAt_some
theorem aC2:Tryz.prog.underlying 193=some (.slice 196):=by kernel_rfl
theorem aD1:(Tryz.prog.info? 196).map (fun i=>(i.zero,i.size,i.bytes))=some (some (.agg #[.int .i64 0,.int .i64 0,.int .i64 0,.int .i64 0,.int .i64 0,.slice none 0 0,.slice none 0 0]),7,88):=by kernel_rfl
def KP(b0 b1:Nat)(V V':World):Prop:=V.heap.size<=V'.heap.size/\∀ (k:Nat) (cur:Array Value) (ty:TypeId) (fr:Nat × Nat),(k < b0\/(b1<=k/\ty=25))->V.heap[k]?=some (.cells cur ty fr)->V'.heap[k]?=some (.cells cur ty fr)
theorem KP.trans{b0 b1:Nat}{A B C:World}(h:KP b0 b1 A B)(k:KP b0 b1 B C):KP b0 b1 A C:=⟨i8 h.1 k.1,fun i cur ty fr hi hc=>k.2 i cur ty fr hi (h.2 i cur ty fr hi hc)⟩
theorem KP.put{b0 b1:Nat}{W:World}{l:Nat}{o:Obj}(o':Obj)(h:W.heap[l]?=some o)(hc:o.isCells=false):KP b0 b1 W (W.putObj l o'):=
 ⟨(grownBy_putObj' W l o').size,fun k cur ty fr _ hk=>by
  have hne:k≠l:=fun e=>by subst e;rw [hk] at h;cases h;cases hc
  exact(World.putObj_heap_other hne).trans hk⟩
theorem KP.below{b0 b1:Nat}{W W':World}(hb:Below W.heap.size W W'):KP b0 b1 W W':=⟨hb.size,fun k _ _ _ _ hc=>(hb.block k (aB hc)).trans hc⟩
structure PlOk(b:Nat)(V:World)(x:El)(m:Fl):Prop where
 k:m.k=x.2.f.k
 n:m.n=x.2.f.n
 mn:m.mn=x.2.f.mn
 mx:m.mx=x.2.f.mx
 rs:m.rs=x.2.f.rs
 kq:m.kq=none/\m.kl=0/\m.kc=0
 rr:RR b V (.slice m.rq m.rs.length m.rc) m.rs
def Ap8(a b:El × Fl):Prop:=∀ k,(Value.slice a.2.rq a.2.rs.length a.2.rc).ownBlock=some k->(Value.slice b.2.rq b.2.rs.length b.2.rc).ownBlock≠some k
def plC(z:El × Fl):List Value:=.int .i64 ((z.1.1.length:Int)+1) :: z.2.cells
def eZ(l:List (El × Fl)):List Value:=l.flatMap plC
theorem zX(l:List (El × Fl))(z:El × Fl):eZ (l ++ [z])=eZ l ++ plC z:=by simp [eZ]
structure PlI(w:World)(t:Tr)(b1 bl:Nat)(pre:List El)(V:World):Prop where
 ms:∃ (ms:List (El × Fl)) (q:Option Addr) (c:Nat),ms.map (·.1)=pre/\V.heap[bl]?=some (.cells #[.slice q ms.length c] 193 (0,0))/\V.ownsRow b1 196 7 (.slice q ms.length c) ms.length (eZ ms)/\(∀ z∈ms,PlOk b1 V z.1 z.2)/\ms.Pairwise Ap8
 pfx:pre <+: pp [] t
 len:pre.length<=2000
 bel:Below w.heap.size w V
theorem PlI.row{w:World}{t:Tr}{b1 bl B:Nat}{pre:List El}{V V':World}{row:Option Nat}(h:PlI w t b1 bl pre V)(hn:w.heap.size<=B)(hg:V.grownBy V' row)(hr:∀ r,row=some r->B<=r/\∃ o:Obj,V.heap[r]?=some o/\o.isCells=false):PlI w t b1 bl pre V':=by
 obtain⟨ms,q,c,h1,h2,h3,h4,h5⟩:=h.ms
 have own:∀ {e:TypeId} {size n:Nat} {v:Value} {xs:List Value},V.ownsRow b1 e size v n xs->V'.ownsRow b1 e size v n xs:=fun {e size n v xs} hh=>by
  refine⟨hh.1,?_⟩
  rcases hh.2 with z | ⟨g,cap,cur,z1,z2,z3,z4⟩
  ·exact .inl z
  ·exact .inr ⟨g,cap,cur,z1,z2,dA hg hr z3,z4⟩
 exact⟨⟨ms,q,c,h1,dA hg hr h2,own h3,fun z hz=>⟨(h4 z hz).k,(h4 z hz).n,(h4 z hz).mn,(h4 z hz).mx,(h4 z hz).rs,(h4 z hz).kq,own (h4 z hz).rr⟩,h5⟩,h.pfx,h.len,nC h.bel lz9 hn hg hr⟩
theorem rB{V:World}{D b:Nat}{o:Obj}(o':Obj)(hD:V.heap[D]?=some o)(hc:o.isCells=false){e:TypeId}{size n:Nat}{v:Value}{xs:List Value}(h:V.ownsRow b e size v n xs):(V.putObj D o').ownsRow b e size v n xs:=by
 refine⟨h.1,?_⟩
 rcases h.2 with z | ⟨g,cap,cur,z1,z2,z3,z4⟩
 ·exact .inl z
 ·refine .inr ⟨g,cap,cur,z1,z2,?_,z4⟩
  have hne:g≠D:=fun e=>by subst e;rw [z3] at hD;cases hD;cases hc
  exact(World.putObj_heap_other hne).trans z3
theorem PlOk.put{V:World}{D b b':Nat}{o:Obj}{x:El}{m:Fl}(o':Obj)(hD:V.heap[D]?=some o)(hc:o.isCells=false)(hb:b'<=b)(h:PlOk b V x m):PlOk b' (V.putObj D o') x m:=
 ⟨h.k,h.n,h.mn,h.mx,h.rs,h.kq,(RR.mono (rB o' hD hc h.rr) hb)⟩
theorem cO{S:Nat->Prop}{V W:World}(hf:Fr S V W){k:Nat}{cur:Array Value}{ty:TypeId}{fr:Nat × Nat}(hk:V.heap[k]?=some (.cells cur ty fr))(hs:¬ S k):W.heap[k]?=some (.cells cur ty fr):=(hf.block _ (aB hk) hs).trans hk
theorem aS4{V:World}{j k:Nat}{c1 c2:Array Value}{t1 t2:TypeId}{f1 f2:Nat × Nat}(h1:V.heap[j]?=some (.cells c1 t1 f1))(h2:V.heap[k]?=some (.cells c2 t2 f2))(ht:t1≠t2):j≠k:=fun e=>by subst e;rw [h1] at h2;cases h2;exact ht rfl
theorem nP{V:World}{b b':Nat}{e1 e2:TypeId}{s1 s2 n1 n2:Nat}{v1 v2:Value}{x1 x2:List Value}(h1:V.ownsRow b e1 s1 v1 n1 x1)(h2:V.ownsRow b' e2 s2 v2 n2 x2)(ht:e1≠e2){k:Nat}(hk:v1.ownBlock=some k):v2.ownBlock≠some k:=fun hk2=>by
 obtain⟨_,_,c1,q1⟩:=aH h1 hk
 obtain⟨_,_,c2,q2⟩:=aH h2 hk2
 rw [q1] at q2;cases q2;exact ht rfl
theorem aV0{w V V0 V5 W7 w6:World}{t:Tr}{b1 bl bx:Nat}{pre:List El}{x:El}{ms:List (El × Fl)}{q q5 q6:Option Addr}{c k5 c6:Nat}{ob:Obj}(hn:w.heap.size<=bl)(hb1:w.heap.size<=b1)(hbv:b1<=V.heap.size)
  (e1:ms.map (·.1)=pre) (h2:V.heap[bl]?=some (.cells #[.slice q ms.length c] 193 (0,0))) (h3:V.ownsRow b1 196 7 (.slice q ms.length c) ms.length (eZ ms)) (h4:∀ z∈ms,PlOk b1 V z.1 z.2) (hap:ms.Pairwise Ap8) (hpfx:pre ++ [x] <+: pp [] t) (hlen:pre.length < 2000) (hbel:Below w.heap.size w V) (hck:CK w V)
  (hbx:BoxN V bx x.2.f) (hbx1:b1<=bx) (hs0:V0.heap.size<=bx) (hk0:KP w.heap.size b1 V0 V) (x5:RR V.heap.size V5 (.slice q5 x.2.f.rs.length k5) x.2.f.rs) (b5:Below V.heap.size V V5) (f7:Fr (fun z=>z=bx) V5 W7)
  (o6:w6.ownsRow b1 196 7 (.slice q6 (ms.length+1) c6) (ms.length+1) (eZ ms ++ plC (x,⟨x.2.f.k,x.2.f.n,x.2.f.mn,x.2.f.mx,x.2.f.rs,q5,k5,none,0,0⟩)))
  (hg:(W7.alloc ob).grownBy w6 (Value.slice q ms.length c).ownBlock) :
  KeepsFrom b1 V (w6.setCell ⟨bl,0,none⟩ (.slice q6 (ms.length+1) c6))/\(KP w.heap.size b1 V0 (w6.setCell ⟨bl,0,none⟩ (.slice q6 (ms.length+1) c6))/\CK w (w6.setCell ⟨bl,0,none⟩ (.slice q6 (ms.length+1) c6)))/\PlI w t b1 bl (pre ++ [x]) (w6.setCell ⟨bl,0,none⟩ (.slice q6 (ms.length+1) c6)):=by
 have F6:Fr (fun z=>z=bx\/(Value.slice q ms.length c).ownBlock=some z) V5 w6:=((f7.mono fun k hk=>.inl hk).alloc ob).grown hg fun k hk=>.inr hk
 have F8:Fr (fun z=>z=bl\/z=bx\/(Value.slice q ms.length c).ownBlock=some z) V5 (w6.setCell ⟨bl,0,none⟩ (.slice q6 (ms.length+1) c6)):=(F6.mono fun k hk=>.inr hk).setCell (p:=⟨bl,0,none⟩) (.inl rfl) _
 have FV:Fr (fun z=>z=bl\/z=bx\/(Value.slice q ms.length c).ownBlock=some z) V (w6.setCell ⟨bl,0,none⟩ (.slice q6 (ms.length+1) c6)):=(Fr.of_below b5).trans F8
 have lo:∀ k,(k=bl\/k=bx\/(Value.slice q ms.length c).ownBlock=some k)->w.heap.size<=k:=fun k hk=>by
  rcases hk with rfl | rfl | hk
  ·exact hn
  ·omega
  ·exact i8 hb1 (aH h3 hk).1
 have bl6:w6.heap[bl]?=some (.cells #[.slice q ms.length c] 193 (0,0)):=cO ((Fr.of_below b5).trans F6) h2 (fun hk=>by
  rcases hk with e | hk
  ·exact aS4 h2 hbx (by decide) e
  ·exact aP h3 h2 (by decide) hk)
 have bl8:=aO bl6 0 (.slice q6 (ms.length+1) c6)
 have own9:∀ {v:Value} {L:List (Int × Int)},RR b1 V v L->RR b1 (w6.setCell ⟨bl,0,none⟩ (.slice q6 (ms.length+1) c6)) v L:=fun {v L} h=>RR.fr h FV fun k hk hs=>by
  rcases hs with rfl | rfl | hs
  ·exact aP h h2 (by decide) hk
  ·exact aP h hbx (by decide) hk
  ·exact nP h h3 (by decide) hk hs
 refine⟨⟨FV.size,fun k o hk ho hc=>(FV.block k (aB ho) fun hs=>?_).trans ho⟩,⟨⟨i8 hk0.1 FV.size,fun k cur ty fr hk hc=>?_⟩,⟨i8 hck.size FV.size,fun k cur ty fr hk hc=>cO FV (hck.same k cur ty fr hk hc) fun hs=>by have:=lo k hs;omega⟩⟩,⟨ms ++ [(x,⟨x.2.f.k,x.2.f.n,x.2.f.mn,x.2.f.mx,x.2.f.rs,q5,k5,none,0,0⟩)],q6,c6,by simp [e1],?_,?_,?_,?_⟩,hpfx,by simp;omega,hbel.trans (FV.below (by have:=hbel.size;omega) lo)⟩
 ·rcases hs with rfl | rfl | hs
  ·rw [h2] at ho;cases ho;cases hc
  ·rw [hbx] at ho;cases ho;cases hc
  ·obtain⟨_,_,cur,q1⟩:=aH h3 hs
   rw [q1] at ho;cases ho;cases hc
 ·have hv:=hk0.2 k cur ty fr hk hc
  refine cO FV hv fun hs=>?_
  rcases hk with hk | ⟨hk,rfl⟩
  ·have:=lo k hs;omega
  ·rcases hs with rfl | rfl | hs
   ·exact aS4 h2 hv (by decide) rfl
   ·have:=aB hc;omega
   ·obtain⟨_,_,c9,q9⟩:=aH h3 hs
    exact aS4 q9 hv (by decide) rfl
 ·rw [m7];exact bl8
 ·rw [m7,zX]
  exact aM o6 ((Fr.refl (fun z=>z=bl) w6).setCell (p:=⟨bl,0,none⟩) rfl _) fun k hk e=>by subst e;exact aP o6 bl6 (by decide) hk
 ·intro z hz
  rcases n9.1 hz with hz | hz
  ·exact⟨(h4 z hz).k,(h4 z hz).n,(h4 z hz).mn,(h4 z hz).mx,(h4 z hz).rs,(h4 z hz).kq,own9 (h4 z hz).rr⟩
  ·rw [aBN] at hz
   subst hz
   refine⟨rfl,rfl,rfl,rfl,rfl,⟨rfl,rfl,rfl⟩,?_⟩
   have x5':=x5
   exact RR.mono (RR.fr x5' F8 fun k hk hs=>by
    have:=(aH x5 hk).1
    rcases hs with rfl | rfl | hs
    ·have:=aB h2;omega
    ·have:=aB hbx;omega
    ·have:=(aH h3 hs).2.1;omega) hbv
 ·rw [List.pairwise_append]
  refine⟨hap,List.pairwise_singleton _ _,fun a ha b hb k hk hk2=>?_⟩
  rw [aBN] at hb
  subst hb
  have y1:=(aH (h4 a ha).rr hk).2.1
  have y2:=(aH x5 hk2).1
  omega
theorem aO2(n:Nat)(hn:3<=n){w:World}{t:Tr}(hta:TB w t) :
  CallsIn Fence.wide n Tryz.prog 137 #[.agg #[.int .i64 t.f.k,.int .i64 t.f.n,.int .i64 t.f.mn,.int .i64 t.f.mx,.slice t.f.rq t.f.rs.length t.f.rc,.slice t.f.kq t.f.kl t.f.kc]] w fun e w'=>∃ (ms:List (El × Fl)) (q:Option Addr) (c:Nat),e=.returned (.slice q ms.length c)/\ms.map (·.1)=(pp [] t).take 2000/\w'.ownsRow w.heap.size 196 7 (.slice q ms.length c) ms.length (eZ ms)/\(∀ z∈ms,PlOk w.heap.size w' z.1 z.2)/\ms.Pairwise Ap8/\Below w.heap.size w w':=by
 have hfn:∀ f,Fence.wide.fn f:=fun _=>trivial
 refine callsIn_of_wp_marks Tryz.func137 rfl trivial ?_ rfl
 simp only [Tryz.ntmps137,aBB,j8,List.length_nil,Nat.reduceAdd,Nat.reduceSub,aAY,aBI,aBQ,aBK,aAG,r9]
 refine wpIn_wide.2 ?_
 have HTA:=aD hta
 have B1:Hid (Below w.heap.size w ((w.alloc (.cells #[.int .i64 t.f.k,.int .i64 t.f.n,.int .i64 t.f.mn,.int .i64 t.f.mx,.slice t.f.rq t.f.rs.length t.f.rc,.slice t.f.kq t.f.kl t.f.kc] 25)).alloc (.cells #[.slice none 0 0] 193))):=(bz9).alloc (by simp) _
 have N1:Hid (BoxN ((w.alloc (.cells #[.int .i64 t.f.k,.int .i64 t.f.n,.int .i64 t.f.mn,.int .i64 t.f.mx,.slice t.f.rq t.f.rs.length t.f.rc,.slice t.f.kq t.f.kl t.f.kc] 25)).alloc (.cells #[.slice none 0 0] 193)) w.heap.size t.f):=(Below.heap_alloc _ _ _ (by simp)).trans (aE w _)
 have N2:Hid (((w.alloc (.cells #[.int .i64 t.f.k,.int .i64 t.f.n,.int .i64 t.f.mn,.int .i64 t.f.mx,.slice t.f.rq t.f.rs.length t.f.rc,.slice t.f.kq t.f.kl t.f.kc] 25)).alloc (.cells #[.slice none 0 0] 193)).heap[w.heap.size+1]?=some (.cells #[.slice none 0 0] 193 (0,0))):=(by
  have:=aE (w.alloc (.cells #[.int .i64 t.f.k,.int .i64 t.f.n,.int .i64 t.f.mn,.int .i64 t.f.mx,.slice t.f.rq t.f.rs.length t.f.rc,.slice t.f.kq t.f.kl t.f.kc] 25)) (.cells #[.slice none 0 0] 193)
  rwa [a7] at this)
 obtain⟨c0,c1,c2,c3,c4,c5⟩:=N1.out.six
 simp only [g8] at c1 c2 c3 c4 c5
 go_wp2_with (go_at_call 99;(with_reducible refine(aJ0 _ _).mono ?_);rintro e w3 ⟨rfl,rfl⟩)
 have N3:BoxN (((w.alloc (.cells #[.int .i64 t.f.k,.int .i64 t.f.n,.int .i64 t.f.mn,.int .i64 t.f.mx,.slice t.f.rq t.f.rs.length t.f.rc,.slice t.f.kq t.f.kl t.f.kc] 25)).alloc (.cells #[.slice none 0 0] 193)).alloc (.cells #[.int .i64 t.f.k,.int .i64 t.f.n,.int .i64 t.f.mn,.int .i64 t.f.mx,.slice t.f.rq t.f.rs.length t.f.rc,.slice t.f.kq t.f.kl t.f.kc] 25)) (w.heap.size+1+1) t.f:=(by
  have:=aE ((w.alloc (.cells #[.int .i64 t.f.k,.int .i64 t.f.n,.int .i64 t.f.mn,.int .i64 t.f.mx,.slice t.f.rq t.f.rs.length t.f.rc,.slice t.f.kq t.f.kl t.f.kc] 25)).alloc (.cells #[.slice none 0 0] 193)) (.cells #[.int .i64 t.f.k,.int .i64 t.f.n,.int .i64 t.f.mn,.int .i64 t.f.mx,.slice t.f.rq t.f.rs.length t.f.rc,.slice t.f.kq t.f.kl t.f.kc] 25)
  rwa [a7,a7] at this)
 have I3:(((w.alloc (.cells #[.int .i64 t.f.k,.int .i64 t.f.n,.int .i64 t.f.mn,.int .i64 t.f.mx,.slice t.f.rq t.f.rs.length t.f.rc,.slice t.f.kq t.f.kl t.f.kc] 25)).alloc (.cells #[.slice none 0 0] 193)).alloc (.cells #[.int .i64 t.f.k,.int .i64 t.f.n,.int .i64 t.f.mn,.int .i64 t.f.mx,.slice t.f.rq t.f.rs.length t.f.rc,.slice t.f.kq t.f.kl t.f.kc] 25)).heap[w.heap.size+1]?=some (.cells #[.slice none 0 0] 193 (0,0)):=(Below.heap_alloc _ _ _ (by simp)).trans N2.out
 have B3:Below w.heap.size w (((w.alloc (.cells #[.int .i64 t.f.k,.int .i64 t.f.n,.int .i64 t.f.mn,.int .i64 t.f.mx,.slice t.f.rq t.f.rs.length t.f.rc,.slice t.f.kq t.f.kl t.f.kc] 25)).alloc (.cells #[.slice none 0 0] 193)).alloc (.cells #[.int .i64 t.f.k,.int .i64 t.f.n,.int .i64 t.f.mn,.int .i64 t.f.mx,.slice t.f.rq t.f.rs.length t.f.rc,.slice t.f.kq t.f.kl t.f.kc] 25)):=B1.out.alloc (by simp;omega) _
 generalize (((w.alloc (.cells #[.int .i64 t.f.k,.int .i64 t.f.n,.int .i64 t.f.mn,.int .i64 t.f.mx,.slice t.f.rq t.f.rs.length t.f.rc,.slice t.f.kq t.f.kl t.f.kc] 25)).alloc (.cells #[.slice none 0 0] 193)).alloc (.cells #[.int .i64 t.f.k,.int .i64 t.f.n,.int .i64 t.f.mn,.int .i64 t.f.mx,.slice t.f.rq t.f.rs.length t.f.rc,.slice t.f.kq t.f.kl t.f.kc] 25))=w4 at N3 I3 B3 ⊢
 have L3:=aB N3
 have L4:=aB I3
 obtain⟨bl,hbl⟩:∃ bl,w.heap.size+1=bl:=⟨_,rfl⟩
 rw [hbl] at I3 N3 L3 L4 ⊢
 obtain⟨bn,hbn⟩:∃ bn,bl+1=bn:=⟨_,rfl⟩
 rw [hbn] at N3 L3 ⊢
 have hwi:w.heap.size<=bl:=by omega
 clear N1 N2 B1 c0 c1 c2 c3 c4 c5 hbl hbn
 refine(wpIn_wide (n:=n)).1 ?_
 refine bD1 (by omega) 8 9 bn rfl rfl N3 HTA.out (CK.of_below B3) (Kp:=KP w.heap.size w4.heap.size) KP.trans KP.put KP.below (fun h=>⟨h.1,fun k cur ty fr hk hc=>h.2 k cur ty fr (.inl hk) hc⟩) (fun h hk hb=>h.2 _ _ _ _ (.inr ⟨hk,rfl⟩) hb) (PlI w t w4.heap.size bl) (fun c pre V=>c=.exit 0/\∃ p x,pre=p ++ [x]/\p.length=2000/\PlI w t w4.heap.size bl p V)
  ?_ ?_ (fun pre W h=>by have:=h.len;omega) ⟨⟨[],none,0,rfl,I3,aAX _ _ _ _,(fun z hz=>by cases hz),List.Pairwise.nil⟩,aCA,by simp,B3⟩ (fun s y x a' W=>∃ bx,BoxN W bx x.2.f/\w4.heap.size<=bx/\s<=bx/\a'={ y with tmps:=(y.tmps.setIfInBounds 4 (.int .i64 ((x.1.length:Int)+1))).setIfInBounds 5 (.pointer (some ⟨bx,0,none⟩)) }) ?_ ?_ ?_ ?_ ?_
 ·rintro pre A A' row h hg hr
  exact h.row B3.size hg hr
 ·rintro c pre A A' row ⟨h0,p,x,e,hl,h⟩ hg hr
  exact⟨h0,p,x,e,hl,h.row B3.size hg hr⟩
 ·rintro s y x a' _ A A' row ⟨bx,h1,h2⟩ hg hr
  exact⟨bx,dA hg hr h1,h2⟩
 ·intro l pre x V K _ _ hs _ hK
  have HS:=aD hs
  simp only [gB]
  gi_wp2
  exact hK _ _ (bz9) ⟨_,aE V _,HS.out,n8 _,rfl⟩
 ·rintro l pre x a' V0 V h hck hsz ht ⟨bx,hbx,hbl2,hs0,rfl⟩ hk0 hv0
  obtain⟨ms,q,c,e1,h2,h3,h4,hap⟩:=h.ms
  have HAP:=aD hap
  have hml:ms.length=pre.length:=by rw [<- e1,o8]
  have k0:=aA h2 (i:=0) rfl
  obtain⟨n0,n1,n2,n3,n4,n5⟩:=hbx.six
  simp only [g8] at n1 n2 n3 n4 n5
  have HH:=aD h
  have H2:=aD h2
  have H3:=aD h3
  have H4:=aD h4
  have HBX:=aD hbx
  have HT:=aD ht
  have HCK:=aD hck
  have HK0:=aD hk0
  have hlen:=h.len
  have hin:x∈pp [] t:=by obtain⟨r,hr⟩:=ht;rw [<- hr];simp
  have NX:=aD ((HTA.out.at hin).node.ck hck)
  have E1:=aD e1
  clear hap h h2 h3 h4 hbx ht hck hk0 e1 hin
  simp only [gB]
  by_cases h2k:ms.length=2000
  ·have e0:((ms.length:Int)==2000)=true:=by simp;omega
   have HML:=aD hml
   have HP:Hid (KeepsFrom w4.heap.size V V):=lV (Below.refl _ _)
   have H2K:=aD h2k
   clear h2k hml
   gi_wp2
   exact⟨HP.out,rfl,pre,x,rfl,by have:=HML.out;have:=H2K.out;omega,HH.out⟩
  ·have e0:((ms.length:Int)==2000)=false:=by simp;omega
   have CR:=aD (aY9 NX.out.r NX.out.len)
   gi_wp2
   refine⟨(fun z=>by cases z),(CallsIn.inRound l (callsIn_wide.2 CR.out)).mono ?_⟩
   rintro e V5 ⟨q5,k5,rfl,a1,a2⟩
   have X5:=aD a1
   have B5:=aD a2
   have N5:V5.heap[bx]?=some (.cells #[.int .i64 x.2.f.k,.int .i64 x.2.f.n,.int .i64 x.2.f.mn,.int .i64 x.2.f.mx,.slice x.2.f.rq x.2.f.rs.length x.2.f.rc,.slice x.2.f.kq x.2.f.kl x.2.f.kc] 25 (0,0)):=(a2.block _ (aB HBX.out)).trans HBX.out
   have N6:(V5.setCell ⟨bx,4,none⟩ (.slice q5 x.2.f.rs.length k5)).heap[bx]?=some (.cells #[.int .i64 x.2.f.k,.int .i64 x.2.f.n,.int .i64 x.2.f.mn,.int .i64 x.2.f.mx,.slice q5 x.2.f.rs.length k5,.slice x.2.f.kq x.2.f.kl x.2.f.kc] 25 (0,0)):=aO N5 4 _
   have N7:((V5.setCell ⟨bx,4,none⟩ (.slice q5 x.2.f.rs.length k5)).setCell ⟨bx,5,none⟩ (.slice none 0 0)).heap[bx]?=some (.cells #[.int .i64 x.2.f.k,.int .i64 x.2.f.n,.int .i64 x.2.f.mn,.int .i64 x.2.f.mx,.slice q5 x.2.f.rs.length k5,.slice none 0 0] 25 (0,0)):=aO N6 5 _
   have F7:Hid (Fr (fun z=>z=bx) V5 ((V5.setCell ⟨bx,4,none⟩ (.slice q5 x.2.f.rs.length k5)).setCell ⟨bx,5,none⟩ (.slice none 0 0))):=((Fr.refl (fun z=>z=bx) V5).setCell (p:=⟨bx,4,none⟩) rfl _).setCell (p:=⟨bx,5,none⟩) rfl _
   have z5:=aA N5 (i:=4) rfl
   have z6:=aA N6 (i:=5) rfl
   have f5:=aG N5 4
   have f6:=aG N6 5
   have hbb:bl≠bx:=fun e=>by have:=H2.out;rw [e,HBX.out] at this;cases this
   have K7:((V5.setCell ⟨bx,4,none⟩ (.slice q5 x.2.f.rs.length k5)).setCell ⟨bx,5,none⟩ (.slice none 0 0)).heap[bl]?=some (.cells #[.slice q ms.length c] 193 (0,0)):=(F7.out.block _ (i6 (aB H2.out) B5.out.size) hbb).trans ((B5.out.block _ (aB H2.out)).trans H2.out)
   have k7:=aA K7 (i:=0) rfl
   have z70:=aA N7 (i:=0) rfl
   have z71:=aA N7 (i:=1) rfl
   have z72:=aA N7 (i:=2) rfl
   have z73:=aA N7 (i:=3) rfl
   have z74:=aA N7 (i:=4) rfl
   have z75:=aA N7 (i:=5) rfl
   have O7:Hid (((V5.setCell ⟨bx,4,none⟩ (.slice q5 x.2.f.rs.length k5)).setCell ⟨bx,5,none⟩ (.slice none 0 0)).ownsRow w4.heap.size 196 7 (.slice q ms.length c) ms.length (eZ ms)):=aM (aM H3.out (Fr.of_below (S:=fun _=>False) B5.out) (fun _ _ z=>z)) F7.out (fun k hk e=>aP H3.out HBX.out (by decide) (e ▸ hk))
   have HML:=aD hml
   have HFX:=aD F7.out
   clear a1 a2 n0 n1 n2 n3 n4 n5 CR hml
   obtain⟨t0,hi,hz0,hz1,hz2⟩:=bH aD1
   have Y7:Hid ((((V5.setCell ⟨bx,4,none⟩ (.slice q5 x.2.f.rs.length k5)).setCell ⟨bx,5,none⟩ (.slice none 0 0)).alloc (.cells #[.int .i64 ((x.1.length:Int)+1),.int .i64 x.2.f.k,.int .i64 x.2.f.n,.int .i64 x.2.f.mn,.int .i64 x.2.f.mx,.slice q5 x.2.f.rs.length k5,.slice none 0 0] 196)).ownsRow w4.heap.size 196 7 (.slice q ms.length c) ms.length (eZ ms)):=aM O7.out (Fr.of_below (S:=fun _=>False) (bz9)) (fun _ _ z=>z)
   have hms:ms.length<=2000:=by have:=HML.out;omega
   gi_upto_region 8 with fail
   have HSZ:Hid (w4.heap.size<=((V5.setCell ⟨bx,4,none⟩ (.slice q5 x.2.f.rs.length k5)).setCell ⟨bx,5,none⟩ (.slice none 0 0)).heap.size):=i8 hsz (i8 B5.out.size F7.out.size)
   generalize ((V5.setCell ⟨bx,4,none⟩ (.slice q5 x.2.f.rs.length k5)).setCell ⟨bx,5,none⟩ (.slice none 0 0))=W7 at *
   have HNEW:Hid (∀ j u,(plC (x,⟨x.2.f.k,x.2.f.n,x.2.f.mn,x.2.f.mx,x.2.f.rs,q5,k5,none,0,0⟩))[j]?=some u->(W7.alloc (.cells #[.int .i64 ((x.1.length:Int)+1),.int .i64 x.2.f.k,.int .i64 x.2.f.n,.int .i64 x.2.f.mn,.int .i64 x.2.f.mx,.slice q5 x.2.f.rs.length k5,.slice none 0 0] 196)).cell? ((⟨W7.heap.size,0,none⟩:Addr).add j)=some u):=fun j u hj=>(by
    rw [xF,g8]
    exact aA (aE _ _) (i:=j) (by simpa [plC,Fl.cells] using hj))
   have HB8:Hid (w4.heap.size<=(W7.alloc (.cells #[.int .i64 ((x.1.length:Int)+1),.int .i64 x.2.f.k,.int .i64 x.2.f.n,.int .i64 x.2.f.mn,.int .i64 x.2.f.mx,.slice q5 x.2.f.rs.length k5,.slice none 0 0] 196)).heap.size):=i8 HSZ.out (by simp)
   have K8:(W7.alloc (.cells #[.int .i64 ((x.1.length:Int)+1),.int .i64 x.2.f.k,.int .i64 x.2.f.n,.int .i64 x.2.f.mn,.int .i64 x.2.f.mx,.slice q5 x.2.f.rs.length k5,.slice none 0 0] 196)).heap[bl]?=some (.cells #[.slice q ms.length c] 193 (0,0)):=(Below.heap_alloc _ _ _ (aB K7)).trans K7
   have HK8:=aD K8
   clear K8 N5 N6 N7 z5 z6 f5 f6 hbb hms
   have hms:ms.length<=2000:=by have:=HML.out;omega
   gi_wp2_with (gi_at_builtin;refine wpListIn_append_own_at _ rfl _ _ 193 rfl w4.heap.size 196 t0 (.agg #[.int .i64 0,.int .i64 0,.int .i64 0,.int .i64 0,.int .i64 0,.slice none 0 0,.slice none 0 0]) 7 88 aC2 hi hz0 hz1 hz2 rfl (by decide) (.slice q ms.length c) ms.length (eZ ms) rfl Y7.out ⟨W7.heap.size,0,none⟩ 1 1 (plC (x,⟨x.2.f.k,x.2.f.n,x.2.f.mn,x.2.f.mx,x.2.f.rs,q5,k5,none,0,0⟩)) rfl rfl HNEW.out (fun v hv=>by simp [plC,Fl.cells] at hv;rcases hv with rfl | rfl | rfl | rfl | rfl | rfl | rfl <;> rfl) (by unfold maxLen;omega) (by omega) HB8.out ?_;intro v' w6 hown' hgrow _ _;obtain⟨q6,c6,rfl⟩:=aZ hown';have O6:=aD hown';have G6:=aD hgrow;have K9:w6.heap[bl]?=some (.cells #[.slice q ms.length c] 193 (0,0)):=(hgrow.block _ (aB HK8.out) (fun e=>aP Y7.out HK8.out (by decide) e.symm)).trans HK8.out;have k9:=aA K9 (i:=0) rfl;have f9:=aG K9 0;clear hown' hgrow)
   exact aV0 hwi B3.size hsz E1.out H2.out H3.out H4.out HAP.out HT.out (by have:=HML.out;omega) HH.out.bel HCK.out HBX.out hbl2 hs0 HK0.out X5.out B5.out HFX.out O6.out G6.out
 ·rintro D V hD h hck hK
  obtain⟨ms,q,c,e1,h2,h3,h4,hap⟩:=h.ms
  have HAP:=aD hap
  have e2:(pp [] t).take 2000=pp [] t:=j9 h.len
  have k0:=aA h2 (i:=0) rfl
  have H:=aD (show ms.map (·.1)=(pp [] t).take 2000 by rw [e2];exact e1)
  have X3:=aD h3
  have X4:=aD h4
  have XB:=aD h.bel
  have HK:=aD hK
  have HD:=aD hD
  clear hap h h2 h3 h4 e1 e2 hck hK hD
  simp only [gM]
  go_wp2
  refine⟨by simp,.inl ⟨_,_,rfl,run_takeDeferred HK.out,?_⟩⟩
  exact⟨.slice q ms.length c,by simp [results,Tryz.results137,go_sem],ms,q,c,rfl,H.out,gG (rB _ HK.out rfl X3.out) B3.size,fun z hz=>(X4.out z hz).put _ HK.out rfl B3.size,HAP.out,pF _ XB.out (i8 B3.size HD.out)⟩
 ·rintro D c pre V hD hpre ⟨rfl,p,x,rfl,hl,h⟩ hK
  obtain⟨ms,q,c,e1,h2,h3,h4,hap⟩:=h.ms
  have HAP:=aD hap
  have e2:(pp [] t).take 2000=p:=by
   obtain⟨r,hr⟩:=h.pfx
   rw [<- hr,aBW (by omega),j9 (by omega)]
  have k0:=aA h2 (i:=0) rfl
  have H:=aD (show ms.map (·.1)=(pp [] t).take 2000 by rw [e2];exact e1)
  have X3:=aD h3
  have X4:=aD h4
  have XB:=aD h.bel
  have HK:=aD hK
  have HD:=aD hD
  clear hap h h2 h3 h4 e1 e2 hK hD hl hpre
  refine(wpIn_wide (n:=n)).2 ?_
  simp only [gM]
  go_wp2
  refine⟨by simp,.inl ⟨_,_,rfl,run_takeDeferred HK.out,?_⟩⟩
  exact⟨.slice q ms.length c,by simp [results,Tryz.results137,go_sem],ms,q,c,rfl,H.out,gG (rB _ HK.out rfl X3.out) B3.size,fun z hz=>(X4.out z hz).put _ HK.out rfl B3.size,HAP.out,pF _ XB.out (i8 B3.size HD.out)⟩
end
section
open Go Go.RowKit Go.Shelf
attribute [local go_sem] Oper.semAt_some
theorem tA:∀ (l:List (El × Fl)) (i j:Nat) (z:El × Fl),l[i]?=some z->j < 7->(eZ l)[i * 7+j]?=(plC z)[j]?
 | y :: l,0,j,z,h,hj=>by
  simp at h
  subst h
  simp only [eZ,aBA]
  rw [aAK,g8,o4 (by simpa [plC,Fl.cells] using hj)]
 | y :: l,i+1,j,z,h,hj=>by
  have ih:=tA l i j z (by simpa using h) hj
  simp only [eZ,aBA] at ih ⊢
  rw [aAB (by simp [plC,Fl.cells];omega),<- ih]
  congr 1
  simp [plC,Fl.cells]
  omega
theorem aO1{W:World}{b g n c:Nat}{l:List (El × Fl)}(h:W.ownsRow b 196 7 (.slice (some ⟨g,0,none⟩) n c) n (eZ l)){i:Nat}{z:El × Fl}(hi:l[i]?=some z) :
  W.cell? ⟨g,i * 7,none⟩=some (.int .i64 ((z.1.1.length:Int)+1))/\Six W g (i * 7+1) z.2:=by
 have at':∀ (j:Nat) (u:Value),(plC z)[j]?=some u->W.cell? ⟨g,i * 7+j,none⟩=some u:=fun j u hj=>
  aU h ((tA l i j z hi (by have:=(i5.1 hj).1;simpa [plC,Fl.cells] using this)).trans hj)
 exact⟨at' 0 _ rfl,at' 1 _ rfl,at' 2 _ rfl,at' 3 _ rfl,at' 4 _ rfl,at' 5 _ rfl,at' 6 _ rfl⟩
theorem PlOk.row{W W':World}{b B:Nat}{x:El}{m:Fl}{row:Option Nat}(h:PlOk b W x m)(hg:W.grownBy W' row)(hr:∀ r,row=some r->B<=r/\∃ o:Obj,W.heap[r]?=some o/\o.isCells=false):PlOk b W' x m:=by
 refine⟨h.k,h.n,h.mn,h.mx,h.rs,h.kq,h.rr.1,?_⟩
 rcases h.rr.2 with z | ⟨g,cap,cur,z1,z2,z3,z4⟩
 ·exact .inl z
 ·exact .inr ⟨g,cap,cur,z1,z2,dA hg hr z3,z4⟩
theorem PlOk.ckN{N:Nat->Prop}{W W':World}{b:Nat}{x:El}{m:Fl}(h:PlOk b W x m)(hc:CKeep N W W')(hN:∀ k,(Value.slice m.rq m.rs.length m.rc).ownBlock=some k->N k):PlOk b W' x m:=by
 refine⟨h.k,h.n,h.mn,h.mx,h.rs,h.kq,h.rr.1,?_⟩
 rcases h.rr.2 with z | ⟨g,cap,cur,z1,z2,z3,z4⟩
 ·exact .inl z
 ·exact .inr ⟨g,cap,cur,z1,z2,hc.same _ _ _ _ (hN g (by rw [z1];rfl)) z3,z4⟩
theorem yV{N:Nat->Prop}{W W':World}{b:Nat}{e:TypeId}{size n:Nat}{v:Value}{xs:List Value}(h:W.ownsRow b e size v n xs)(hc:CKeep N W W')(hN:∀ k,v.ownBlock=some k->N k):W'.ownsRow b e size v n xs:=by
 refine⟨h.1,?_⟩
 rcases h.2 with z | ⟨g,cap,cur,z1,z2,z3,z4⟩
 ·exact .inl z
 ·exact .inr ⟨g,cap,cur,z1,z2,hc.same _ _ _ _ (hN g (by rw [z1];rfl)) z3,z4⟩
def bF9(z:El × Fl):Array Value:=#[.int .i64 ((z.1.1.length:Int)+1),.agg #[.int .i64 z.2.k,.int .i64 z.2.n,.int .i64 z.2.mn,.int .i64 z.2.mx,.slice z.2.rq z.2.rs.length z.2.rc,.slice z.2.kq z.2.kl z.2.kc]]
structure aA4(b:Nat)(t:Tr)(pre:List (El × Fl))(z:El × Fl)(V:World):Prop where
 ok:PlOk b V z.1 z.2
 pfx:(pre ++ [z]).map (·.1) <+: (pp [] t).take 2000
def nN(a:Act)(q d:Nat)(z:El × Fl):Act:={ tmps:=(a.tmps.setIfInBounds q (.int .i64 ((z.1.1.length:Int)+1))).setIfInBounds d (.agg #[.int .i64 z.2.k,.int .i64 z.2.n,.int .i64 z.2.mn,.int .i64 z.2.mx,.slice z.2.rq z.2.rs.length z.2.rc,.slice z.2.kq z.2.kl z.2.kc]),defers:=[] }
theorem bO9(w:World)(f:Fl):Calls Tryz.prog 101 #[.agg #[.int .i64 f.k,.int .i64 f.n,.int .i64 f.mn,.int .i64 f.mx,.slice f.rq f.rs.length f.rc,.slice f.kq f.kl f.kc]] w fun e w'=>e=.returned (.func (.func 136) #[] #[.pointer (some ⟨w.heap.size,0,none⟩)])/\w'=w.alloc (.cells #[.int .i64 f.k,.int .i64 f.n,.int .i64 f.mn,.int .i64 f.mx,.slice f.rq f.rs.length f.rc,.slice f.kq f.kl f.kc] 25):=by
 go_enter Tryz.func101,Tryz.ntmps101
 go_wp2
 go_ret
 exact⟨rfl,rfl⟩
end
end Go.Proofs.YtlaimbkenbijeaaGreatDoor
