/-
  Parts of the proof.
-/
import Derived.Test.YticfnglebbakkaaGreatDoorPrintsProofB0
set_option maxRecDepth 100000
set_option maxHeartbeats 8000000
namespace Go.Proofs.YticfnglebbakkaaGreatDoor
open Go Go.RowKit
section
open Go Go.RowKit Go.Shelf
def nO(x:El):Array Value:=#[.int .i64 ((x.1.length:Int)+1),.agg #[.int .i64 x.2.f.k,.int .i64 x.2.f.n,.int .i64 x.2.f.mn,.int .i64 x.2.f.mx,.slice x.2.f.rq x.2.f.rs.length x.2.f.rc,.slice x.2.f.kq x.2.f.kl x.2.f.kc]]
theorem iR(par:Tr)(p:Way)(a b:List Tr):∀ i,pps par p i (a ++ b)=pps par p i a ++ pps par p (i+a.length) b:=by
 induction a with
 | nil=>intro i;rw [aV];rfl
 | cons x a ih=>intro i;rw [List.cons_append,aT,aT,ih (i+1),List.append_assoc,List.length_cons,show i+1+a.length=i+(a.length+1) by omega]
theorem gA{par:Tr}{p:Way}{ks:List Tr}{j:Nat}{u:Tr}(h:ks[j]?=some u):pps par p 0 (ks.take (j+1))=pps par p 0 (ks.take j) ++ pp ((par,j) :: p) u:=by
 have hj:=(List.getElem?_eq_some_iff.1 h).1
 rw [List.take_add_one,h,Option.toList_some,iR,aT,aV,List.append_nil,List.length_take,Nat.zero_add,Nat.min_eq_left (by omega)]
theorem pE{par:Tr}{p:Way}{ks:List Tr}(j:Nat):pps par p 0 (ks.take j) <+: pps par p 0 ks:=by
 have:=iR par p (ks.take j) (ks.drop j) 0
 rw [List.take_append_drop] at this
 rw [this]
 exact List.prefix_append _ _
def Nn(b0 b1:Nat):Nat->Prop:=fun k=>k < b0\/b1<=k
theorem eX{L pre:List El}{p:Way}{t:Tr}{r:List El}(h:pre ++ pp p t <+: L)(hr:r <+: pps t p 0 t.ks):pre ++ (p,t) :: r <+: L:=by
 refine List.IsPrefix.trans ?_ h
 rw [bQ]
 exact(List.prefix_append_right_inj _).2 (List.cons_prefix_cons.2 ⟨rfl,hr⟩)
def sA(w0:World)(b1:Nat)(L:List El)(J Jx:List El->World->Prop)(xs:List El)(e:Ending)(V':World):Prop:=
 ∃ r:Bool,e=.returned (.bool r)/\((r=true/\J xs V'/\CK w0 V'/\b1<=V'.heap.size)\/(r=false/\∃ pre',pre' <+: L/\Jx pre' V'))
theorem aK1{w0:World}{L:List El}{l b1:Nat}{J Jx:List El->World->Prop}{B:Nat}(hJ:OwnFrom B J)(n:Nat)(hL:∀ pre V,J pre V->pre.length<=1000000)
  (hY:∀ pre x V,J pre V->pre ++ [x] <+: L->YieldAt Fence.wide (n - 1) Tryz.prog l (nO x) V fun e V'=>KeepsFrom B V V'/\((e=.returned (.bool true)/\J (pre ++ [x]) V'/\CKeep (Nn w0.heap.size b1) V V')\/(e=.returned (.bool false)/\Jx (pre ++ [x]) V'))) :
  ∀ (m:Nat) (t:Tr) (p:Way) (pre:List El) (V:World),t.sz<=m->pre ++ pp p t <+: L->TB w0 t->CK w0 V->J pre V->p.length<=pre.length->b1<=V.heap.size ->
   CallsIn Fence.wide n Tryz.prog 58 #[.agg #[.int .i64 t.f.k,.int .i64 t.f.n,.int .i64 t.f.mn,.int .i64 t.f.mx,.slice t.f.rq t.f.rs.length t.f.rc,.slice t.f.kq t.f.kl t.f.kc],.int .i64 ((p.length:Int)+1),.func (.yield l) #[] #[]] V (sA w0 b1 L J Jx (pre ++ pp p t)):=by
 intro m
 induction m with
 | zero=>intro t p pre V hm;exact absurd (kI t) (by omega)
 | succ m ih=>
  intro t p pre V hm hpre hta hck hj hpl hb1
  have hfn:∀ f,Fence.wide.fn f:=fun _=>trivial
  have IH:=aB ih
  have HL:=aB hL
  have HPRE:=aB hpre
  have HTA:=aB hta
  have HM:=aB hm
  have hlen:=hL pre V hj
  obtain⟨q,cap,hkv,hk1,hk2,hk3⟩:=hta.node.k.slice
  injection hkv with hkq hkl hkc
  subst hkq
  have HKL:=aB hkl
  have HK3:=aB hk3
  have hkm:t.ks.length<=9223372036854775807:=hk1
  clear hkl hkc hk3 hk1
  have B1:Hid (Below V.heap.size V (V.alloc (.cells #[.int .i64 t.f.k,.int .i64 t.f.n,.int .i64 t.f.mn,.int .i64 t.f.mx,.slice t.f.rq t.f.rs.length t.f.rc,.slice t.f.kq t.f.kl t.f.kc] 25))):=bz9
  have N1:Hid (BoxN (V.alloc (.cells #[.int .i64 t.f.k,.int .i64 t.f.n,.int .i64 t.f.mn,.int .i64 t.f.mx,.slice t.f.rq t.f.rs.length t.f.rc,.slice t.f.kq t.f.kl t.f.kc] 25)) V.heap.size t.f):=aF V _
  have J1:Hid (J pre (V.alloc (.cells #[.int .i64 t.f.k,.int .i64 t.f.n,.int .i64 t.f.mn,.int .i64 t.f.mx,.slice t.f.rq t.f.rs.length t.f.rc,.slice t.f.kq t.f.kl t.f.kc] 25))):=hJ.alloc _ hj
  have C1:Hid (CK w0 (V.alloc (.cells #[.int .i64 t.f.k,.int .i64 t.f.n,.int .i64 t.f.mn,.int .i64 t.f.mx,.slice t.f.rq t.f.rs.length t.f.rc,.slice t.f.kq t.f.kl t.f.kc] 25))):=hck.trans (CK.of_below B1.out)
  have Hb1:=aB hb1
  clear ih hL hpre hta hm hj hck hb1
  refine callsIn_of_wp Tryz.func58 rfl trivial ?_ rfl
  simp only [Tryz.ntmps58,List.size_toArray,List.length_cons,List.length_nil,Nat.reduceAdd,Nat.reduceSub,Array.replicate_succ,Array.replicate_zero,List.push_toArray,List.append_toArray,List.nil_append,List.cons_append]
  have cs:=N1.out.six
  obtain⟨fn,tmps,assign,body,hy,hR⟩:=hY pre (p,t) _ J1.out (eX HPRE.out List.nil_prefix)
  simp only [nO] at hy
  obtain⟨c0,c1,c2,c3,c4,c5⟩:=cs
  simp only [Nat.zero_add] at c1 c2 c3 c4 c5
  gi_wp2
  refine⟨(fun z=>by cases z),hR.mono ?_⟩
  rintro e W3 ⟨-,(⟨rfl,hJ3,hk3⟩ | ⟨rfl,hJx3⟩)⟩
  ·have cc5:W3.cell? ⟨V.heap.size,5,none⟩=some (.slice t.f.kq t.f.kl t.f.kc):=cC hk3 (p:=⟨V.heap.size,5,none⟩) (.inr Hb1.out) c5
   have J3:=aB hJ3
   have C3:Hid (CK w0 W3):=C1.out.step ⟨hk3.size,fun i cur ty fr hi hc=>hk3.same i cur ty fr (.inl hi) hc⟩
   have S3:Hid (b1<=W3.heap.size):=Nat.le_trans Hb1.out (Nat.le_trans B1.out.size hk3.size)
   rw [HKL.out] at cc5
   clear hJ3 hk3 hy hR c0 c1 c2 c3 c4 c5 J1 C1 N1 B1
   gi_wp2
   gi_loopw [17] (fun i wr=>∃ j:Nat,j<=t.ks.length/\i=.int .i64 (j:Int)/\J (pre ++ (p,t) :: pps t p 0 (t.ks.take j)) wr/\CK w0 wr/\b1<=wr.heap.size) (fun i _=>t.ks.length - (intOf i).toNat)
   case atStart=>exact⟨0,Nat.zero_le _,rfl,by rw [List.take_zero,aV];exact J3.out,C3.out,S3.out⟩
   case round=>
    clear J3 C3 S3 cc5
    obtain⟨j,hj,rfl,hj1,hj2,hj3⟩:=hrel
    have HJ:=aB hj1
    have HC:=aB hj2
    have HS:=aB hj3
    clear hj1 hj2 hj3
    by_cases hjl:j < t.ks.length
    ·have e0:(j:Int) < (t.ks.length:Int):=by omega
     obtain⟨u,hu⟩:∃ u,t.ks[j]?=some u:=⟨_,List.getElem?_eq_getElem hjl⟩
     obtain⟨g,off,hq,hg,hsix⟩:=HK3.out j u hu
     rw [hq]
     have HU:=aB hu
     have hin:u∈t.ks:=List.mem_of_getElem? hu
     obtain⟨c0,c1,c2,c3,c4,c5⟩:=hsix.ck HC.out hg
     have B4:Hid (Below wr.heap.size wr (wr.alloc (.cells #[.int .i64 u.f.k,.int .i64 u.f.n,.int .i64 u.f.mn,.int .i64 u.f.mx,.slice u.f.rq u.f.rs.length u.f.rc,.slice u.f.kq u.f.kl u.f.kc] 25))):=bz9
     have N4:Hid (BoxN (wr.alloc (.cells #[.int .i64 u.f.k,.int .i64 u.f.n,.int .i64 u.f.mn,.int .i64 u.f.mx,.slice u.f.rq u.f.rs.length u.f.rc,.slice u.f.kq u.f.kl u.f.kc] 25)) wr.heap.size u.f):=aF wr _
     obtain⟨d0,d1,d2,d3,d4,d5⟩:=N4.out.six
     simp only [Nat.zero_add] at d1 d2 d3 d4 d5
     have hj1:=HL.out _ _ HJ.out
     have IHU:=aB (IH.out u ((t,j) :: p) (pre ++ (p,t) :: pps t p 0 (t.ks.take j)) (wr.alloc (.cells #[.int .i64 u.f.k,.int .i64 u.f.n,.int .i64 u.f.mn,.int .i64 u.f.mx,.slice u.f.rq u.f.rs.length u.f.rc,.slice u.f.kq u.f.kl u.f.kc] 25)) (by have:=dX hin;have:=HM.out;omega)
      (by rw [List.append_assoc,List.cons_append,<- gA hu];exact eX HPRE.out (pE _)) (HTA.out.kid hin) (HC.out.trans (CK.of_below B4.out)) (hJ.alloc _ HJ.out) (by simp;omega) (Nat.le_trans HS.out B4.out.size))
     have e1:((((t,j) :: p).length:Nat):Int)+1=((p.length:Int)+1)+1:=by simp
     rw [e1] at IHU
     clear hsix hu
     gi_wp2
     refine⟨(fun z=>by cases z),(callsIn_wide.2 (callsIn_wide.1 IHU.out)).mono ?_⟩
     rintro e W5 ⟨r5,rfl,h5⟩
     have H5:=aB h5
     clear h5 c0 c1 c2 c3 c4 c5 d0 d1 d2 d3 d4 d5 IHU N4 B4
     cases r5 with
     | true=>
      rcases H5.out with⟨-,h51,h52,h53⟩ | ⟨z,-⟩
      ·have HN:Hid (J (pre ++ (p,t) :: pps t p 0 (t.ks.take (j+1))) W5):=(by rw [gA HU.out,<- List.cons_append,<- List.append_assoc];exact h51)
       have H52:=aB h52
       have H53:=aB h53
       clear h51 h52 h53 H5
       gi_wp2
       go_roundw
       case rel=>exact⟨j+1,by omega,by go_num,HN.out,H52.out,H53.out⟩
       case measure=>simp only [intOf];omega
      ·cases z
     | false=>
      rcases H5.out with⟨z,-⟩ | ⟨-,pre',h51,h52⟩
      ·cases z
      ·have HN:=aB (⟨pre',h51,h52⟩:∃ pre',pre' <+: L/\Jx pre' W5)
       clear H5 h51 h52
       gi_wp2
       go_ret
       exact⟨false,rfl,.inr ⟨rfl,HN.out⟩⟩
    ·have e0:¬ (j:Int) < (t.ks.length:Int):=by omega
     have HN:Hid (J (pre ++ pp p t) wr):=(by rw [bQ,show t.ks=t.ks.take j by rw [List.take_of_length_le (by omega)]];exact HJ.out)
     gi_wp2
     go_ret
     exact⟨true,rfl,.inl ⟨rfl,HN.out,HC.out,HS.out⟩⟩
  ·have HN:=aB hJx3
   clear hJx3
   gi_wp2
   go_ret
   exact⟨false,rfl,.inr ⟨rfl,_,eX HPRE.out List.nil_prefix,HN.out⟩⟩
theorem uF(f:Fl)(w:World) :
  Calls Tryz.prog 26 #[.agg #[.int .i64 f.k,.int .i64 f.n,.int .i64 f.mn,.int .i64 f.mx,.slice f.rq f.rs.length f.rc,.slice f.kq f.kl f.kc]] w fun e w'=>e=.returned (.func (.func 57) #[] #[.pointer (some ⟨w.heap.size,0,none⟩)])/\w'=w.alloc (.cells #[.int .i64 f.k,.int .i64 f.n,.int .i64 f.mn,.int .i64 f.mx,.slice f.rq f.rs.length f.rc,.slice f.kq f.kl f.kc] 25):=by
 go_enter Tryz.func26,Tryz.ntmps26
 go_wp2
 go_ret
 exact⟨rfl,rfl⟩
def nD(t:Tr)(pre:List El)(x:El)(_:World):Prop:=pre ++ [x] <+: pp [] t
theorem qS(n:Nat){w0 w:World}{b:Nat}{t:Tr}(hB:BoxN w b t.f)(hta:TB w0 t)(hck:CK w0 w) :
  aH2 n Tryz.prog 57 #[.pointer (some ⟨b,0,none⟩)] nO (Nn w0.heap.size w.heap.size) (nD t) (fun xs=>xs=pp [] t) (fun pre=>pre <+: pp [] t) w:=by
 intro l J Jx V hV hJ hJx hb hY h0
 have hfn:∀ f,Fence.wide.fn f:=fun _=>trivial
 have D:=aB (aK1 (w0:=w0) (L:=pp [] t) (b1:=w.heap.size) (Jx:=Jx) hJ n hb (fun pre x V=>hY pre x V) t.sz t [] [] V lz9 (by rw [List.nil_append];exact List.prefix_refl _) hta (hck.step ⟨hV.size,fun k _ _ _ _ hc=>(hV.block k (aC hc)).trans hc⟩) h0 lz9 hV.size)
 have HB:Hid (BoxN V b t.f):=(hV.block _ (aC hB)).trans hB
 obtain⟨c0,c1,c2,c3,c4,c5⟩:=HB.out.six
 simp only [Nat.zero_add] at c1 c2 c3 c4 c5
 clear hJ hJx hb hY h0 hB hta hck hV
 refine callsIn_of_wp Tryz.func57 rfl trivial ?_ rfl
 simp only [Tryz.ntmps57,List.size_toArray,List.length_cons,List.length_nil,Nat.reduceAdd,Nat.reduceSub,Array.replicate_succ,Array.replicate_zero,List.push_toArray,List.append_toArray,List.nil_append,List.cons_append]
 gi_wp2
 refine⟨(fun z=>by cases z),(callsIn_wide.2 (callsIn_wide.1 D.out)).mono ?_⟩
 rintro e W5 ⟨r5,rfl,h5⟩
 have H5:=aB h5
 clear h5 D
 gi_wp2
 go_end0
 refine⟨⟨_,rfl⟩,?_⟩
 rcases H5.out with⟨-,h51,-,-⟩ | ⟨-,pre',h51,h52⟩
 ·exact .inl ⟨_,rfl,by rw [List.nil_append] at h51;exact h51⟩
 ·exact .inr ⟨pre',h51,h52⟩
theorem zJ{w0 W W':World}{B:Nat}{row:Option Nat}(h:CK w0 W)(hg:W.grownBy W' row)(hr:∀ r,row=some r->B<=r/\∃ o:Obj,W.heap[r]?=some o/\o.isCells=false):CK w0 W':=
 ⟨Nat.le_trans h.size hg.size,fun k cur t fr hk hc=>bP hg hr (h.same k cur t fr hk hc)⟩
def dG(a:Act)(q d:Nat)(x:El):Act:={ tmps:=(a.tmps.setIfInBounds q (.int .i64 ((x.1.length:Int)+1))).setIfInBounds d (.agg #[.int .i64 x.2.f.k,.int .i64 x.2.f.n,.int .i64 x.2.f.mn,.int .i64 x.2.f.mx,.slice x.2.f.rq x.2.f.rs.length x.2.f.rc,.slice x.2.f.kq x.2.f.kl x.2.f.kc]),defers:=[] }
def dJ(a:Act)(D:Nat):Act:={ a with defers:={ target:=.collected D,args:=#[] } :: a.defers }
theorem aI3{g:Operand}{ps:Array Tmp}{assign body:Code}{Q:Exit->Act->World->Prop}{a:Act}{w:World}{n:Nat}(hn:1<=n)(q d:Nat)(b:Nat){w0:World}{t:Tr}
  (hg:a.eval g=.func (.func 57) #[] #[.pointer (some ⟨b,0,none⟩)]) (hps:ps=#[q,d]) (hB:BoxN w b t.f) (hta:TB w0 t) (hck:CK w0 w)
  (I:List El->World->Prop) (Ix:Code->List El->World->Prop) (hI:OwnFrom w.heap.size I) (hIx:∀ c,OwnFrom w.heap.size (Ix c)) (hbd:∀ pre W,I pre W->pre.length<=1000000) (h0:I [] w)
  (Ax:Act->El->Act->World->Prop) (hAx:∀ y x a',OwnFrom w.heap.size (fun (_:Unit) W=>Ax y x a' W))
  (hassign:∀ (l:Nat) (pre:List El) (x:El) (W:World) (K:Act->World->Prop),I pre W->CK w0 W->w.heap.size<=W.heap.size->nD t pre x W->(∀ a' W',Below W.heap.size W W'->Ax (dG a q d x) x a' W'->K a' W') ->
   assign.wpIn (Fence.wide.inRound l) (n - 1 - 1) Tryz.prog (Exit.then K (fun _ _ _=>False)) (dG a q d x) W)
  (hbody:∀ (l:Nat) (pre:List El) (x:El) (a':Act) (V:World),I pre V->CK w0 V->w.heap.size<=V.heap.size->nD t pre x V->Ax (dG a q d x) x a' V->body.wpIn (Fence.wide.inRound l) (n - 1 - 1) Tryz.prog (ownPostG w.heap.size (CKeep (Nn w0.heap.size w.heap.size)) I Ix (pre ++ [x]) V) a' V)
  (hdone:∀ (D:Nat) (V:World),w.heap.size<=D->I (pp [] t) V->CK w0 V->V.heap[D]?=some (.deferred (some []))->Q .normal (dJ a D) V)
  (hstop:∀ (D:Nat) (c:Code) (pre:List El) (V:World),w.heap.size<=D->pre <+: pp [] t->Ix c pre V->V.heap[D]?=some (.deferred (some []))->c.wpIn Fence.wide n Tryz.prog Q (dJ a D) V) :
  (Code.rangeFunc g ps assign body).wpIn Fence.wide n Tryz.prog Q a w:=by
 subst hps
 refine sU (α:=El) hn (gf:=57) hg (enters_of Tryz.func57 (by kernel_rfl) rfl) (aY:=nO) (fun _=>rfl)
  (qS (n - 1) hB hta hck) (fun pre V=>I pre V/\CK w0 V/\w.heap.size<=V.heap.size) Ix ?_ hIx (fun pre x _ _ _ _ h _ _=>h) (fun pre W h=>hbd pre W h.1) ⟨h0,hck,Nat.le_refl _⟩ (fun x=>Ax (dG a q d x) x) (fun x=>hAx _ x) ?_ ?_ ?_ hstop
 ·intro pre A A' row hi hg hr
  exact⟨hI pre A A' row hi.1 hg hr,zJ hi.2.1 hg hr,Nat.le_trans hi.2.2 hg.size⟩
 ·intro l pre x V K hi ht hK
  have:=hassign l pre x V K hi.1 hi.2.1 hi.2.2 ht hK
  simpa [nO,dG] using this
 ·intro l pre x a' V hi ht hax
  refine wpIn_mono (hbody l pre x a' V hi.1 hi.2.1 hi.2.2 ht hax) fun e a3 W3 hp=>?_
  cases e with
  | normal=>exact⟨hp.1,hp.2.1,hp.2.2,hi.2.1.step ⟨hp.2.1.size,fun k cur ty fr hk hc=>hp.2.1.same k cur ty fr (.inl hk) hc⟩,Nat.le_trans hi.2.2 hp.1.size⟩
  | ret=>exact hp
  | exit id=>exact hp
  | goto t=>exact hp
  | panic ch=>exact hp
  | outgrown=>exact hp
 ·rintro D xs V hD rfl hi hK
  exact hdone D V hD hi.1 hi.2.1 hK
end
section
open Go Go.RowKit Go.Shelf
attribute [local go_sem] Oper.semAt_some
def iZ(t:Tr):Nat:=min (pp [] t).length 2001
theorem iD{n B:Nat}{w W W':World}{row:Option Nat}(h:Below n w W)(hn:n<=w.heap.size)(hB:n<=B)(hg:W.grownBy W' row)(hr:∀ r,row=some r->B<=r/\∃ o:Obj,W.heap[r]?=some o/\o.isCells=false):Below n w W':=
 h.trans ⟨hg.os,hg.tape,hg.output,hg.size,fun k hk=>hg.block k (by have:=h.size;omega) (fun e=>by have:=(hr k e.symm).1;omega)⟩
theorem kD{n:Nat}{w W:World}{D:Nat}(o:Obj)(h:Below n w W)(hD:n<=D):Below n w (W.putObj D o):=
 h.trans ⟨rfl,rfl,rfl,(grownBy_putObj' W D o).size,fun k hk=>World.putObj_heap_other (by omega)⟩
end
structure cH where
 f:Fl
 s:Int
def Seven(W:World)(g o:Nat)(x:cH):Prop:=Six W g o x.f/\W.cell? ⟨g,o+6,none⟩=some (.int .i64 x.s)
structure CB(W:World)(b:Nat)(c f:Bool)(ah gr:Int)(A:Nat->cH):Prop where
 blk:∃ cur,W.heap[b]?=some (.cells cur 63 (0,0))
 c0:W.cell? ⟨b,0,none⟩=some (.bool c)
 c1:W.cell? ⟨b,1,none⟩=some (.bool f)
 c2:W.cell? ⟨b,2,none⟩=some (.int .i64 ah)
 c3:W.cell? ⟨b,3,none⟩=some (.int .i64 gr)
 sp:∀ d,d < 41->Seven W b (4+d * 7) (A d)
theorem CB.lt{W:World}{b:Nat}{c f:Bool}{ah gr:Int}{A:Nat->cH}(h:CB W b c f ah gr A):b < W.heap.size:=by
 obtain⟨cur,h⟩:=h.blk
 exact aC h
theorem CB.ck{N:Nat->Prop}{W W':World}{b:Nat}{c f:Bool}{ah gr:Int}{A:Nat->cH}(h:CB W b c f ah gr A)(hk:CKeep N W W')(hb:N b):CB W' b c f ah gr A:=by
 obtain⟨cur,hc⟩:=h.blk
 exact⟨⟨cur,hk.same _ _ _ _ hb hc⟩,cC hk (p:=⟨b,0,none⟩) hb h.c0,cC hk (p:=⟨b,1,none⟩) hb h.c1,cC hk (p:=⟨b,2,none⟩) hb h.c2,cC hk (p:=⟨b,3,none⟩) hb h.c3,fun d hd=>⟨(h.sp d hd).1.ck hk hb,cC hk (p:=⟨b,4+d * 7+6,none⟩) hb (h.sp d hd).2⟩⟩
theorem CB.kept{W W':World}{b:Nat}{c f:Bool}{ah gr:Int}{A:Nat->cH}(h:CB W b c f ah gr A)(hb:Below W.heap.size W W'):CB W' b c f ah gr A:=h.ck (CK.of_below hb) h.lt
theorem CB.row{W W':World}{b B:Nat}{c f:Bool}{ah gr:Int}{A:Nat->cH}{row:Option Nat}(h:CB W b c f ah gr A)(hg:W.grownBy W' row)(hr:∀ r,row=some r->B<=r/\∃ o:Obj,W.heap[r]?=some o/\o.isCells=false):CB W' b c f ah gr A:=
 h.ck (N:=fun _=>True) ⟨hg.size,fun _ _ _ _ _ hc=>bP hg hr hc⟩ trivial
theorem aI9{b i j:Nat}(h:i≠j):(⟨b,i,none⟩:Addr)≠⟨b,j,none⟩:=fun e=>h (by injection e)
theorem aE{W:World}{b i j:Nat}{u v:Value}(h:W.cell? ⟨b,i,none⟩=some v)(hij:i≠j):(W.setCell ⟨b,j,none⟩ u).cell? ⟨b,i,none⟩=some v:=by
 rw [World.cell?_setCell_other]
 ·exact h
 ·exact aI9 hij.symm
theorem Six.off{W:World}{b o j:Nat}{u:Value}{f:Fl}(h:Six W b o f)(hj:j < o\/o+6<=j):Six (W.setCell ⟨b,j,none⟩ u) b o f:=
 ⟨aE h.1 (by omega),aE h.2.1 (by omega),aE h.2.2.1 (by omega),aE h.2.2.2.1 (by omega),aE h.2.2.2.2.1 (by omega),aE h.2.2.2.2.2 (by omega)⟩
theorem dS{W:World}{b:Nat}{t:TypeId}(h:∃ cur,W.heap[b]?=some (.cells cur t (0,0)))(j:Nat)(u:Value):∃ cur,(W.setCell ⟨b,j,none⟩ u).heap[b]?=some (.cells cur t (0,0)):=by
 obtain⟨cur,hc⟩:=h
 exact⟨_,aU hc j u⟩
theorem Seven.off{W:World}{b o j:Nat}{u:Value}{x:cH}(h:Seven W b o x)(hj:j < o\/o+7<=j):Seven (W.setCell ⟨b,j,none⟩ u) b o x:=
 ⟨h.1.off (by omega),aE h.2 (by omega)⟩
theorem CB.setAh{W:World}{b:Nat}{c f:Bool}{ah gr:Int}{A:Nat->cH}(h:CB W b c f ah gr A)(x:Int):CB (W.setCell ⟨b,2,none⟩ (.int .i64 x)) b c f x gr A:=
 ⟨dS h.blk _ _,aE h.c0 (by omega),aE h.c1 (by omega),World.cell?_setCell_same _ _ _ h.c2,aE h.c3 (by omega),fun d hd=>(h.sp d hd).off (by omega)⟩
theorem CB.setGr{W:World}{b:Nat}{c f:Bool}{ah gr:Int}{A:Nat->cH}(h:CB W b c f ah gr A)(x:Int):CB (W.setCell ⟨b,3,none⟩ (.int .i64 x)) b c f ah x A:=
 ⟨dS h.blk _ _,aE h.c0 (by omega),aE h.c1 (by omega),aE h.c2 (by omega),World.cell?_setCell_same _ _ _ h.c3,fun d hd=>(h.sp d hd).off (by omega)⟩
def kM(A:Nat->cH)(d:Nat)(x:cH):Nat->cH:=fun i=>if i=d then x else A i
theorem CB.setSeen{W:World}{b:Nat}{c f:Bool}{ah gr:Int}{A:Nat->cH}(h:CB W b c f ah gr A){d:Nat}(hd:d < 41)(x:Int):CB (W.setCell ⟨b,4+d * 7+6,none⟩ (.int .i64 x)) b c f ah gr (kM A d ⟨(A d).f,x⟩):=
 ⟨dS h.blk _ _,aE h.c0 (by omega),aE h.c1 (by omega),aE h.c2 (by omega),aE h.c3 (by omega),fun i hi=>by
  unfold kM
  by_cases e:i=d
  ·subst e
   rw [if_pos rfl]
   exact⟨(h.sp i hi).1.off (by omega),World.cell?_setCell_same _ _ _ (h.sp i hi).2⟩
  ·rw [if_neg e]
   exact(h.sp i hi).off (by omega)⟩
def fZ(W:World)(b o:Nat)(x:cH):World:=
 ((((((W.setCell ⟨b,o,none⟩ (.int .i64 x.f.k)).setCell ⟨b,o+1,none⟩ (.int .i64 x.f.n)).setCell ⟨b,o+2,none⟩ (.int .i64 x.f.mn)).setCell ⟨b,o+3,none⟩ (.int .i64 x.f.mx)).setCell ⟨b,o+4,none⟩ (.slice x.f.rq x.f.rs.length x.f.rc)).setCell ⟨b,o+5,none⟩ (.slice x.f.kq x.f.kl x.f.kc)).setCell ⟨b,o+6,none⟩ (.int .i64 x.s)
theorem CB.setSpot{W:World}{b:Nat}{c f:Bool}{ah gr:Int}{A:Nat->cH}(h:CB W b c f ah gr A){d:Nat}(hd:d < 41)(x:cH):CB (fZ W b (4+d * 7) x) b c f ah gr (kM A d x):=by
 have off:∀ {i:Nat} {v:Value},W.cell? ⟨b,i,none⟩=some v->(i < 4+d * 7\/4+d * 7+7<=i)->(fZ W b (4+d * 7) x).cell? ⟨b,i,none⟩=some v:=by
  intro i v hv hi
  unfold fZ
  exact aE (aE (aE (aE (aE (aE (aE hv (by omega)) (by omega)) (by omega)) (by omega)) (by omega)) (by omega)) (by omega)
 refine⟨?_,off h.c0 (by omega),off h.c1 (by omega),off h.c2 (by omega),off h.c3 (by omega),fun i hi=>?_⟩
 ·unfold fZ
  exact dS (dS (dS (dS (dS (dS (dS h.blk _ _) _ _) _ _) _ _) _ _) _ _) _ _
 ·unfold kM
  by_cases e:i=d
  ·subst e
   rw [if_pos rfl]
   obtain⟨⟨k0,k1,k2,k3,k4,k5⟩,k6⟩:=h.sp i hi
   unfold fZ
   refine⟨⟨?_,?_,?_,?_,?_,?_⟩,?_⟩
   ·exact aE (aE (aE (aE (aE (aE (World.cell?_setCell_same _ _ _ k0) (by omega)) (by omega)) (by omega)) (by omega)) (by omega)) (by omega)
   ·exact aE (aE (aE (aE (aE (World.cell?_setCell_same _ _ _ (aE k1 (by omega))) (by omega)) (by omega)) (by omega)) (by omega)) (by omega)
   ·exact aE (aE (aE (aE (World.cell?_setCell_same _ _ _ (aE (aE k2 (by omega)) (by omega))) (by omega)) (by omega)) (by omega)) (by omega)
   ·exact aE (aE (aE (World.cell?_setCell_same _ _ _ (aE (aE (aE k3 (by omega)) (by omega)) (by omega))) (by omega)) (by omega)) (by omega)
   ·exact aE (aE (World.cell?_setCell_same _ _ _ (aE (aE (aE (aE k4 (by omega)) (by omega)) (by omega)) (by omega))) (by omega)) (by omega)
   ·exact aE (World.cell?_setCell_same _ _ _ (aE (aE (aE (aE (aE k5 (by omega)) (by omega)) (by omega)) (by omega)) (by omega))) (by omega)
   ·exact World.cell?_setCell_same _ _ _ (aE (aE (aE (aE (aE (aE k6 (by omega)) (by omega)) (by omega)) (by omega)) (by omega)) (by omega))
  ·rw [if_neg e]
   obtain⟨⟨k0,k1,k2,k3,k4,k5⟩,k6⟩:=h.sp i hi
   exact⟨⟨off k0 (by omega),off k1 (by omega),off k2 (by omega),off k3 (by omega),off k4 (by omega),off k5 (by omega)⟩,off k6 (by omega)⟩
theorem uC(W:World)(b o:Nat)(x:cH):Fr (fun z=>z=b) W (fZ W b o x):=by
 unfold fZ
 exact(((((((Fr.refl (fun z=>z=b) W).setCell (p:=⟨b,o,none⟩) rfl _).setCell (p:=⟨b,o+1,none⟩) rfl _).setCell (p:=⟨b,o+2,none⟩) rfl _).setCell (p:=⟨b,o+3,none⟩) rfl _).setCell (p:=⟨b,o+4,none⟩) rfl _).setCell (p:=⟨b,o+5,none⟩) rfl _).setCell (p:=⟨b,o+6,none⟩) rfl _
section
attribute [local go_sem] bC
def cE(pk:Int)(seen:Int)(kl:Nat)(k:Int):Bool:=
 if pk=5 then aZ k ||(k==3 && seen==0) ||(k==4 && seen==(kl:Int) - 1)
 else if pk=9 then aZ k
 else if pk=6 then cB k && k != 6
 else cB k
theorem tG{w:World}{b:Nat}{c f:Bool}{ah gr:Int}{A:Nat->cH}(h:CB w b c f ah gr A){d:Nat}(hd:d < 41)(k:Int)(hkl:(A d).f.kl<=9223372036854775807) :
  Calls Tryz.prog 59 #[.pointer (some ⟨b,0,none⟩),.int .i64 ((d:Int)+1),.int .i64 k] w fun e w'=>e=.returned (.bool (cE (A d).f.k (A d).s (A d).f.kl k))/\Below w.heap.size w w':=by
 obtain⟨⟨k0,k1,k2,k3,k4,k5⟩,k6⟩:=h.sp d hd
 have hlt:=h.lt
 have e1:((d:Int)+1) - 1=(d:Int):=by omega
 have e2:(d:Int) < 41:=by omega
 have B1:Hid (Below w.heap.size w (w.alloc (.cells #[.int .i64 (A d).f.k,.int .i64 (A d).f.n,.int .i64 (A d).f.mn,.int .i64 (A d).f.mx,.slice (A d).f.rq (A d).f.rs.length (A d).f.rc,.slice (A d).f.kq (A d).f.kl (A d).f.kc,.int .i64 (A d).s] 60))):=bz9
 have N1:=aF w (.cells #[.int .i64 (A d).f.k,.int .i64 (A d).f.n,.int .i64 (A d).f.mn,.int .i64 (A d).f.mx,.slice (A d).f.rq (A d).f.rs.length (A d).f.rc,.slice (A d).f.kq (A d).f.kl (A d).f.kc,.int .i64 (A d).s] 60)
 obtain⟨r,hr⟩:∃ r,cE (A d).f.k (A d).s (A d).f.kl k=r:=⟨_,rfl⟩
 rw [hr]
 have HR:=aB hr
 clear hr
 go_enter Tryz.func59,Tryz.ntmps59
 go_upto_region 2 with fail
 have m0:(w.alloc (.cells #[.int .i64 (A d).f.k,.int .i64 (A d).f.n,.int .i64 (A d).f.mn,.int .i64 (A d).f.mx,.slice (A d).f.rq (A d).f.rs.length (A d).f.rc,.slice (A d).f.kq (A d).f.kl (A d).f.kc,.int .i64 (A d).s] 60)).cell? ⟨w.heap.size,0,none⟩=some (.int .i64 (A d).f.k):=aA N1 (i:=0) rfl
 have m5:(w.alloc (.cells #[.int .i64 (A d).f.k,.int .i64 (A d).f.n,.int .i64 (A d).f.mn,.int .i64 (A d).f.mx,.slice (A d).f.rq (A d).f.rs.length (A d).f.rc,.slice (A d).f.kq (A d).f.kl (A d).f.kc,.int .i64 (A d).s] 60)).cell? ⟨w.heap.size,5,none⟩=some (.slice (A d).f.kq (A d).f.kl (A d).f.kc):=aA N1 (i:=5) rfl
 have m6:(w.alloc (.cells #[.int .i64 (A d).f.k,.int .i64 (A d).f.n,.int .i64 (A d).f.mn,.int .i64 (A d).f.mx,.slice (A d).f.rq (A d).f.rs.length (A d).f.rc,.slice (A d).f.kq (A d).f.kl (A d).f.kc,.int .i64 (A d).s] 60)).cell? ⟨w.heap.size,6,none⟩=some (.int .i64 (A d).s):=aA N1 (i:=6) rfl
 have hlw:=aC N1
 generalize (w.alloc (.cells #[.int .i64 (A d).f.k,.int .i64 (A d).f.n,.int .i64 (A d).f.mn,.int .i64 (A d).f.mx,.slice (A d).f.rq (A d).f.rs.length (A d).f.rc,.slice (A d).f.kq (A d).f.kl (A d).f.kc,.int .i64 (A d).s] 60))=W1 at B1 m0 m5 m6 hlw ⊢
 clear N1 k0 k1 k2 k3 k4 k5 k6 hlt e1 e2 h hd
 generalize (A d).f.k=pk at m0 HR ⊢
 generalize (A d).f.kl=kl at m5 HR hkl ⊢
 generalize (A d).s=se at m6 HR ⊢
 cases h5:(pk==5) with
 | true=>
  obtain rfl:pk=5:=by simpa using h5
  go_upto_region 4 with fail
  refine wx9 ?_
  repeat (go_big_quiet_step (first | exact rfl))
  refine wpQuiet_nil ?_
  intro w2 hw
  have B2:Hid (Below w.heap.size w w2):=aG B1.out (aM hw) lz9
  clear hw B1
  have RR0:r=(aZ k ||(k==3 && se==0) ||(k==4 && se==(kl:Int) - 1)):=by rw [<- HR.out];simp [cE]
  have HK:=aB (lI k)
  obtain⟨tb,htb⟩:∃ tb,aZ k=tb:=⟨_,rfl⟩
  rw [htb] at HK RR0
  obtain⟨b1,hb1⟩:∃ b1,(se==0)=b1:=⟨_,rfl⟩
  obtain⟨b2,hb2⟩:∃ b2,(se==(kl:Int) - 1)=b2:=⟨_,rfl⟩
  rw [hb1,hb2] at RR0
  rw [hb1,hb2]
  have RRX:=aB RR0
  clear htb hb1 hb2 m0 m5 m6 RR0
  cases tb
  ·cases h3:(k==3)
   ·cases h4:(k==4)
    ·go_wp2_with (go_at_call 101;(with_reducible refine(HK.out _).mono ?_);rintro e w5 ⟨rfl,h5⟩;subst w5)
     go_ret
     exact⟨by rw [RRX.out,h3,h4];rfl,B2.out⟩
    ·go_wp2_with (go_at_call 101;(with_reducible refine(HK.out _).mono ?_);rintro e w5 ⟨rfl,h5⟩;subst w5)
     go_ret
     exact⟨by rw [RRX.out,h3,h4];simp,B2.out⟩
   ·obtain rfl:k=3:=by simpa using h3
    cases b1
    all_goals
     go_wp2_with (go_at_call 101;(with_reducible refine(HK.out _).mono ?_);rintro e w5 ⟨rfl,h5⟩;subst w5)
     go_ret
     exact⟨by rw [RRX.out];rfl,B2.out⟩
  ·go_wp2_with (go_at_call 101;(with_reducible refine(HK.out _).mono ?_);rintro e w5 ⟨rfl,h5⟩;subst w5)
   go_ret
   exact⟨by rw [RRX.out];rfl,B2.out⟩
 | false=>
  cases h9:(pk==9) with
  | true=>
   obtain rfl:pk=9:=by simpa using h9
   go_wp2_with (go_at_call 101;(with_reducible refine(lI _ _).mono ?_);rintro e w5 ⟨rfl,h5⟩;subst w5)
   go_ret
   exact⟨by rw [<- HR.out];simp [cE],B1.out⟩
  | false=>
   cases h6:(pk==6) with
   | true=>
    obtain rfl:pk=6:=by simpa using h6
    obtain⟨kb,hkb⟩:∃ kb,cB k=kb:=⟨_,rfl⟩
    have HK:=aB (qY k)
    rw [hkb] at HK
    have R2:r=(kb && k != 6):=by rw [<- HR.out,<- hkb];simp [cE]
    clear hkb
    cases kb with
    | true=>
     go_wp2_with (go_at_call 102;(with_reducible refine(HK.out _).mono ?_);rintro e w5 ⟨rfl,h5⟩;subst w5)
     go_ret
     exact⟨by rw [R2,Bool.true_and];rfl,B1.out⟩
    | false=>
     go_wp2_with (go_at_call 102;(with_reducible refine(HK.out _).mono ?_);rintro e w5 ⟨rfl,h5⟩;subst w5)
     go_ret
     exact⟨by rw [R2,Bool.false_and];rfl,B1.out⟩
   | false=>
    have R2:cB k=r:=by rw [<- HR.out];simp at h5 h9 h6;simp [cE,h5,h9,h6]
    go_wp2_with (go_at_call 102;(with_reducible refine(qY _ _).mono ?_);rintro e w5 ⟨rfl,h5⟩;subst w5)
    go_ret
    exact⟨by rw [<- R2];rfl,B1.out⟩
end
section
attribute [local go_sem] bC
def inB(A:Nat->cH)(d:Nat)(num:Int):Bool:=(List.range d).any fun i=>(A i).f.k==7 && (A i).f.n==num
theorem jU(A:Nat->cH)(d:Nat)(num:Int):inB A (d+1) num=(inB A d num ||((A d).f.k==7 && (A d).f.n==num)):=by
 unfold inB
 rw [List.range_succ,List.any_append]
 simp
theorem aJ5{A:Nat->cH}{d e:Nat}{num:Int}(h:inB A d num=true)(hde:d<=e):inB A e num=true:=by
 unfold inB at *
 rw [List.any_eq_true] at *
 obtain⟨x,hx,h⟩:=h
 exact⟨x,by rw [List.mem_range] at *;omega,h⟩
theorem tJ{w:World}{b:Nat}{c f:Bool}{ah gr:Int}{A:Nat->cH}(h:CB w b c f ah gr A){d:Nat}(hd:d<=41)(num:Int) :
  Calls Tryz.prog 62 #[.pointer (some ⟨b,0,none⟩),.int .i64 (d:Int),.int .i64 num] w fun e w'=>e=.returned (.bool (!inB A d num && decide (num<=gr)))/\Below w.heap.size w w':=by
 have H:=aB h
 have hlt:=h.lt
 have e2:(d:Int)<=41:=by omega
 obtain⟨r,hr⟩:∃ r,(!inB A d num && decide (num<=gr))=r:=⟨_,rfl⟩
 rw [hr]
 have HR:=aB hr
 clear h hr
 go_enter Tryz.func62,Tryz.ntmps62
 go_wp2
 go_loopw [15] (fun i wr=>∃ j:Nat,j<=d/\i=.int .i64 (j:Int)/\inB A j num=false/\Below w.heap.size w wr) (fun i _=>d - (intOf i).toNat)
 case atStart=>exact⟨0,Nat.zero_le _,rfl,rfl,Below.refl _ _⟩
 case round=>
  obtain⟨j,hj,rfl,hin,hb⟩:=hrel
  have HI:=aB hin
  have HB:=aB hb
  have H1:Hid (CB wr b c f ah gr A):=H.out.kept hb
  clear hin hb hlt
  have hlt:=H1.out.lt
  by_cases hjl:j < d
  ·have e0:(j:Int) < (d:Int):=by omega
   obtain⟨⟨k0,k1,k2,k3,k4,k5⟩,k6⟩:=H1.out.sp j (by omega)
   have B2:Hid (Below w.heap.size w (wr.alloc (.cells #[.int .i64 (A j).f.k,.int .i64 (A j).f.n,.int .i64 (A j).f.mn,.int .i64 (A j).f.mx,.slice (A j).f.rq (A j).f.rs.length (A j).f.rc,.slice (A j).f.kq (A j).f.kl (A j).f.kc,.int .i64 (A j).s] 60))):=HB.out.alloc HB.out.size _
   have N2:=aF wr (.cells #[.int .i64 (A j).f.k,.int .i64 (A j).f.n,.int .i64 (A j).f.mn,.int .i64 (A j).f.mx,.slice (A j).f.rq (A j).f.rs.length (A j).f.rc,.slice (A j).f.kq (A j).f.kl (A j).f.kc,.int .i64 (A j).s] 60)
   have m0:(wr.alloc (.cells #[.int .i64 (A j).f.k,.int .i64 (A j).f.n,.int .i64 (A j).f.mn,.int .i64 (A j).f.mx,.slice (A j).f.rq (A j).f.rs.length (A j).f.rc,.slice (A j).f.kq (A j).f.kl (A j).f.kc,.int .i64 (A j).s] 60)).cell? ⟨wr.heap.size,0,none⟩=some (.int .i64 (A j).f.k):=aA N2 (i:=0) rfl
   have m1:(wr.alloc (.cells #[.int .i64 (A j).f.k,.int .i64 (A j).f.n,.int .i64 (A j).f.mn,.int .i64 (A j).f.mx,.slice (A j).f.rq (A j).f.rs.length (A j).f.rc,.slice (A j).f.kq (A j).f.kl (A j).f.kc,.int .i64 (A j).s] 60)).cell? ⟨wr.heap.size,1,none⟩=some (.int .i64 (A j).f.n):=aA N2 (i:=1) rfl
   have HS:=aB (jU A j num)
   clear N2
   go_upto_region 4 with fail
   generalize (wr.alloc (.cells #[.int .i64 (A j).f.k,.int .i64 (A j).f.n,.int .i64 (A j).f.mn,.int .i64 (A j).f.mx,.slice (A j).f.rq (A j).f.rs.length (A j).f.rc,.slice (A j).f.kq (A j).f.kl (A j).f.kc,.int .i64 (A j).s] 60))=W2 at B2 m0 m1 ⊢
   cases h7:((A j).f.k==7)
   ·have HN:Hid (inB A (j+1) num=false):=(by rw [HS.out,HI.out,h7];rfl)
    clear HS
    go_wp2
    go_roundw
    case rel=>exact⟨j+1,by omega,by go_num,HN.out,B2.out⟩
    case measure=>simp only [intOf];omega
   ·cases hn:((A j).f.n==num)
    ·have HN:Hid (inB A (j+1) num=false):=(by rw [HS.out,HI.out,h7,hn];rfl)
     clear HS
     go_wp2
     go_roundw
     case rel=>exact⟨j+1,by omega,by go_num,HN.out,B2.out⟩
     case measure=>simp only [intOf];omega
    ·have HN:Hid (inB A d num=true):=aJ5 (d:=j+1) (by rw [HS.out,HI.out,h7,hn];rfl) (by omega)
     clear HS
     go_wp2
     go_ret
     exact⟨by rw [<- HR.out,HN.out];rfl,B2.out⟩
  ·have e0:¬ (j:Int) < (d:Int):=by omega
   obtain rfl:j=d:=by omega
   have k3:=H1.out.c3
   go_wp2
   go_ret
   exact⟨by rw [<- HR.out,HI.out];rfl,HB.out⟩
theorem CB.frz{W:World}{b:Nat}{c f:Bool}{ah gr:Int}{A:Nat->cH}(h:CB W b c f ah gr A)(j:Nat):W.frozen? ⟨b,j,none⟩=false:=by
 obtain⟨cur,hc⟩:=h.blk
 exact bE hc j
theorem lQ{W:World}{k b j:Nat}{f:Fl}{u:Value}(h:BoxN W k f)(hk:k≠b):BoxN (W.setCell ⟨b,j,none⟩ u) k f:=(((Fr.refl (fun z=>z=b) W).setCell (p:=⟨b,j,none⟩) rfl u).block _ (aC h) hk).trans h
theorem pN{w:World}{b:Nat}{c f:Bool}{ah gr:Int}{A:Nat->cH}(h:CB w b c f ah gr A){d:Nat}(hd:d+1 < 41)(x:Fl)(ha:0<=ah/\ah<=1000000)(hg:0<=gr/\gr<=1000000)(hs:0<=(A d).s/\(A d).s<=1000000) :
  Calls Tryz.prog 63 #[.pointer (some ⟨b,0,none⟩),.int .i64 ((d:Int)+1),.agg #[.int .i64 x.k,.int .i64 x.n,.int .i64 x.mn,.int .i64 x.mx,.slice x.rq x.rs.length x.rc,.slice x.kq x.kl x.kc]] w fun e w'=>e=.returned (.tuple #[])/\CB w' b c f (ah+1) (gr+(if x.k=7 then 1 else 0)) (kM (kM A d ⟨(A d).f,(A d).s+1⟩) (d+1) ⟨x,0⟩)/\Fr (fun z=>z=b) w w':=by
 have H:=aB h
 have hlt:=h.lt
 have B1:Hid (Below w.heap.size w (w.alloc (.cells #[.int .i64 x.k,.int .i64 x.n,.int .i64 x.mn,.int .i64 x.mx,.slice x.rq x.rs.length x.rc,.slice x.kq x.kl x.kc] 25))):=bz9
 have N1:Hid (BoxN (w.alloc (.cells #[.int .i64 x.k,.int .i64 x.n,.int .i64 x.mn,.int .i64 x.mx,.slice x.rq x.rs.length x.rc,.slice x.kq x.kl x.kc] 25)) w.heap.size x):=aF w _
 have H1:Hid (CB (w.alloc (.cells #[.int .i64 x.k,.int .i64 x.n,.int .i64 x.mn,.int .i64 x.mx,.slice x.rq x.rs.length x.rc,.slice x.kq x.kl x.kc] 25)) b c f ah gr A):=h.kept B1.out
 have F1:Hid (Fr (fun z=>z=b) w (w.alloc (.cells #[.int .i64 x.k,.int .i64 x.n,.int .i64 x.mn,.int .i64 x.mx,.slice x.rq x.rs.length x.rc,.slice x.kq x.kl x.kc] 25))):=Fr.of_below B1.out
 have hne:w.heap.size≠b:=by omega
 clear h H
 obtain⟨g2,hg2⟩:∃ g2,gr+(if x.k=7 then 1 else 0)=g2:=⟨_,rfl⟩
 rw [hg2]
 have HG:=aB hg2
 clear hg2
 go_enter Tryz.func63,Tryz.ntmps63
 go_upto_region 1 with fail
 generalize (w.alloc (.cells #[.int .i64 x.k,.int .i64 x.n,.int .i64 x.mn,.int .i64 x.mx,.slice x.rq x.rs.length x.rc,.slice x.kq x.kl x.kc] 25))=w1 at B1 N1 H1 F1 ⊢
 have c2:=H1.out.c2
 have f2:=H1.out.frz 2
 have lb:=H1.out.lt
 have H2:Hid (CB (w1.setCell ⟨b,2,none⟩ (.int .i64 (ah+1))) b c f (ah+1) gr A):=H1.out.setAh _
 have N2:Hid (BoxN (w1.setCell ⟨b,2,none⟩ (.int .i64 (ah+1))) w.heap.size x):=lQ N1.out hne
 have F2:Hid (Fr (fun z=>z=b) w (w1.setCell ⟨b,2,none⟩ (.int .i64 (ah+1)))):=F1.out.setCell (p:=⟨b,2,none⟩) rfl _
 clear B1 N1 H1 F1
 go_upto_region 2 with fail
 generalize (w1.setCell ⟨b,2,none⟩ (.int .i64 (ah+1)))=w2 at H2 N2 F2 ⊢
 clear c2 f2 lb hlt
 obtain⟨c0,-⟩:=N2.out.six
 have c3:=H2.out.c3
 have f3:=H2.out.frz 3
 have lb:=H2.out.lt
 have e1:((d:Int)+1) - 1=(d:Int):=by omega
 have e2:(d:Int) < 41:=by omega
 have e3:(d:Int)+1 < 41:=by omega
 by_cases hk:x.k=7
 ·have hkb:(x.k==7)=true:=by simpa using hk
  have E2:=HG.out
  rw [if_pos hk] at E2
  subst E2
  have H3:Hid (CB (w2.setCell ⟨b,3,none⟩ (.int .i64 (gr+1))) b c f (ah+1) (gr+1) A):=H2.out.setGr _
  have N3:Hid (BoxN (w2.setCell ⟨b,3,none⟩ (.int .i64 (gr+1))) w.heap.size x):=lQ N2.out hne
  have F3:Hid (Fr (fun z=>z=b) w (w2.setCell ⟨b,3,none⟩ (.int .i64 (gr+1)))):=F2.out.setCell (p:=⟨b,3,none⟩) rfl _
  clear H2 N2 F2 hk
  go_upto_region 4 with fail
  generalize (w2.setCell ⟨b,3,none⟩ (.int .i64 (gr+1)))=w3 at H3 N3 F3 ⊢
  clear c0 c3 f3 lb
  have p6:=(H3.out.sp d (by omega)).2
  have lb:=H3.out.lt
  have f6:=H3.out.frz (4+d * 7+6)
  have H5:=aB ((H3.out.setSeen (d:=d) (by omega) ((A d).s+1)).kept ((Below.refl _ _).drew))
  have N5:Hid (BoxN (w3.setCell ⟨b,4+d * 7+6,none⟩ (.int .i64 ((A d).s+1))).drew w.heap.size x):=lQ N3.out hne
  have F5:Hid (Fr (fun z=>z=b) w (w3.setCell ⟨b,4+d * 7+6,none⟩ (.int .i64 ((A d).s+1))).drew):=(F3.out.setCell (p:=⟨b,4+d * 7+6,none⟩) rfl _).trans (Fr.of_below ((Below.refl _ _).drew))
  clear H3 N3 F3
  go_region
  go_upto_region 5 with fail
  generalize (w3.setCell ⟨b,4+d * 7+6,none⟩ (.int .i64 ((A d).s+1))).drew=w5 at H5 N5 F5 ⊢
  clear p6 f6 lb
  have lb:=H5.out.lt
  have ln:=aC N5.out
  obtain⟨n0,n1,n2,n3,n4,n5⟩:=N5.out.six
  simp only [Nat.zero_add] at n1 n2 n3 n4 n5
  have fr:=fun j=>H5.out.frz j
  obtain⟨⟨q0,q1,q2,q3,q4,q5⟩,q6⟩:=H5.out.sp (d+1) (by omega)
  have H7:=aB ((H5.out.setSpot (d:=d+1) (by omega) ⟨x,0⟩).kept ((Below.refl _ _).drew))
  have F7:Hid (Fr (fun z=>z=b) w (fZ w5 b (4+(d+1) * 7) ⟨x,0⟩).drew):=(F5.out.trans (uC _ _ _ _)).trans (Fr.of_below ((Below.refl _ _).drew))
  unfold fZ at H7 F7
  clear H5 F5
  go_region
  go_wp2
  go_end0
  exact⟨rfl,H7.out,F7.out⟩
 ·have hkb:(x.k==7)=false:=by simpa using hk
  have E2:=HG.out
  rw [if_neg hk,Int.add_zero] at E2
  subst E2
  have H3:=H2
  have N3:=N2
  have F3:=F2
  clear H2 N2 F2 hk
  go_upto_region 4 with fail
  clear c0 c3 f3 lb
  have p6:=(H3.out.sp d (by omega)).2
  have lb:=H3.out.lt
  have f6:=H3.out.frz (4+d * 7+6)
  have H5:=aB ((H3.out.setSeen (d:=d) (by omega) ((A d).s+1)).kept ((Below.refl _ _).drew))
  have N5:Hid (BoxN (w2.setCell ⟨b,4+d * 7+6,none⟩ (.int .i64 ((A d).s+1))).drew w.heap.size x):=lQ N3.out hne
  have F5:Hid (Fr (fun z=>z=b) w (w2.setCell ⟨b,4+d * 7+6,none⟩ (.int .i64 ((A d).s+1))).drew):=(F3.out.setCell (p:=⟨b,4+d * 7+6,none⟩) rfl _).trans (Fr.of_below ((Below.refl _ _).drew))
  clear H3 N3 F3
  go_region
  go_upto_region 5 with fail
  generalize (w2.setCell ⟨b,4+d * 7+6,none⟩ (.int .i64 ((A d).s+1))).drew=w5 at H5 N5 F5 ⊢
  clear p6 f6 lb
  have lb:=H5.out.lt
  have ln:=aC N5.out
  obtain⟨n0,n1,n2,n3,n4,n5⟩:=N5.out.six
  simp only [Nat.zero_add] at n1 n2 n3 n4 n5
  have fr:=fun j=>H5.out.frz j
  obtain⟨⟨q0,q1,q2,q3,q4,q5⟩,q6⟩:=H5.out.sp (d+1) (by omega)
  have H7:=aB ((H5.out.setSpot (d:=d+1) (by omega) ⟨x,0⟩).kept ((Below.refl _ _).drew))
  have F7:Hid (Fr (fun z=>z=b) w (fZ w5 b (4+(d+1) * 7) ⟨x,0⟩).drew):=(F5.out.trans (uC _ _ _ _)).trans (Fr.of_below ((Below.refl _ _).drew))
  unfold fZ at H7 F7
  clear H5 F5
  go_region
  go_wp2
  go_end0
  exact⟨rfl,H7.out,F7.out⟩
end
end Go.Proofs.YticfnglebbakkaaGreatDoor
