/-
  Parts of the proof.
-/
import Derived.Test.YticfnglebbakkaaGreatDoorPrintsProofB1
import Derived.Test.YticfnglebbakkaaGreatDoorPrintsProofB10
import Derived.Maps.OwnIn
import Derived.Sort.CutIn
import Derived.Test.YticfnglebbakkaaGreatDoorPrintsProofB18
set_option maxRecDepth 100000
set_option maxHeartbeats 8000000
namespace Go.Proofs.YticfnglebbakkaaGreatDoor
open Go Go.RowKit
section
open Go Go.RowKit Go.Shelf
def tU{α:Type}(n:Nat)(P:Program)(gf:Nat)(lb:Array Value)(aY:α->Array Value)(Kp:α->World->World->Prop)(Told:List α->α->World->Prop)(S Sp:List α->Prop)(w:World):Prop:=
 ∀ (l:Nat) (J Jx:List α->World->Prop) (W:World),Below w.heap.size w W->OwnFrom W.heap.size J->OwnFrom W.heap.size Jx->(∀ pre V,J pre V->pre.length<=1000000) ->
  (∀ pre x V,J pre V->Told pre x V->YieldAt Fence.wide (n - 1) P l (aY x) V fun e V'=>KeepsFrom W.heap.size V V'/\((e=.returned (.bool true)/\J (pre ++ [x]) V'/\Kp x V V')\/(e=.returned (.bool false)/\Jx (pre ++ [x]) V'))) ->
  J [] W->CallsIn Fence.wide n P gf (#[.func (.yield l) #[] #[]] ++ lb) W fun e V=>(∃ v,e=.returned v)/\((∃ xs,S xs/\J xs V)\/(∃ pre,Sp pre/\Jx pre V))
section
variable {α:Type} {P:Program}
theorem qJ{D:Nat}{Kp:World->World->Prop}{r:Loop}{I:List α->World->Prop}{Ix:Code->List α->World->Prop}{xs:List α}{V W W3:World}{e:Exit}{a3:Act}
  (hKt:∀ {A B C:World},Kp A B->Kp B C->Kp A C) (hKp:∀ {W:World} {l:Nat} {o:Obj} (o':Obj),W.heap[l]?=some o->o.isCells=false->Kp W (W.putObj l o')) (hI:OwnFrom D I) (hIx:∀ c,OwnFrom D (Ix c)) (hr:Rc D { r with state:=.busy } W)
  (hv:KeepsFrom (D+2) V W) (hp:ownPostG D (fun _ W'=>Kp V W') I Ix xs W e a3 W3):roundPost P (D+1) (fun e V'=>KeepsFrom (D+2) V V'/\((e=.returned (.bool true)/\(I xs V'/\Rc D { r with state:=.ready,pending:=none } V')/\Kp V V')\/(e=.returned (.bool false)/\∃ c,Ix c xs V'/\Rc D { r with state:=.done,pending:=some c } V'))) e a3 W3:=by
 have out:∀ c:Code,KeepsFrom D W W3->Ix c xs W3->∃ v V',(Instr.endRound (D+1) (some c)).run P W3=.ok v V'/\(KeepsFrom (D+2) V V'/\((Ending.returned v=.returned (.bool true)/\(I xs V'/\Rc D { r with state:=.ready,pending:=none } V')/\Kp V V')\/(Ending.returned v=.returned (.bool false)/\∃ c,Ix c xs V'/\Rc D { r with state:=.done,pending:=some c } V'))):=fun c hk hi=>by
  have h3:=hr.from hk
  exact⟨_,_,run_endRound (some c) h3.1,(hv.trans (jS hk (by omega))).trans (eI _ _ (by omega)),.inr ⟨rfl,c,(hIx c).putObj _ hi (by omega) h3.1 rfl,h3.put _⟩⟩
 cases e with
 | normal=>
  obtain⟨hk,hkp,hi⟩:=hp
  have h3:=hr.from hk
  exact⟨_,_,run_endRound none h3.1,(hv.trans (jS hk (by omega))).trans (eI _ _ (by omega)),.inl ⟨rfl,⟨hI.putObj _ hi (by omega) h3.1 rfl,h3.put _⟩,hKt hkp (hKp _ h3.1 rfl)⟩⟩
 | ret=>exact out .ret hp.1 hp.2
 | exit id=>exact out (.exit id) hp.1 hp.2
 | goto t=>exact out (.goto t) hp.1 hp.2
 | panic ch=>exact hp.elim
 | outgrown=>exact hp.elim
theorem lH{g:Operand}{ps:Array Tmp}{assign body:Code}{Q:Exit->Act->World->Prop}{a:Act}{w:World}{n:Nat}(h1:1<=n){gf:Nat}{lb:Array Value}
  (hg:a.eval g=.func (.func gf) #[] lb) (eg:∀ args w,(callFunc gf args).run P w=.ok (.enter gf args) w) {aY:α->Array Value} (hps:∀ x,(aY x).size=ps.size)
  {Kp:α->World->World->Prop} {Told:List α->α->World->Prop} {S Sp:List α->Prop} (hKt:∀ {x:α} {A B C:World},Kp x A B->Kp x B C->Kp x A C) (hKp:∀ {x:α} {W:World} {l:Nat} {o:Obj} (o':Obj),W.heap[l]?=some o->o.isCells=false->Kp x W (W.putObj l o')) (hKb:∀ {x:α} {W W':World},Below W.heap.size W W'->Kp x W W') (hseq:tU (n - 1) P gf lb aY Kp Told S Sp w)
  (I:List α->World->Prop) (Ix:Code->List α->World->Prop) (hI:OwnFrom w.heap.size I) (hIx:∀ c,OwnFrom w.heap.size (Ix c)) (hT:∀ pre x,OwnFrom w.heap.size (fun (_:Unit) W=>Told pre x W)) (hbd:∀ pre W,I pre W->pre.length<=1000000) (h0:I [] w) (Ax:Nat->α->Act->World->Prop) (hAx:∀ s x a',OwnFrom w.heap.size (fun (_:Unit) W=>Ax s x a' W))
  (hassign:∀ (l:Nat) (pre:List α) (x:α) (W:World) (K:Act->World->Prop),I pre W->Told pre x W->(∀ a' W',Below W.heap.size W W'->Ax W.heap.size x a' W'->K a' W') ->
   assign.wpIn (Fence.wide.inRound l) (n - 1 - 1) P (Exit.then K (fun _ _ _=>False)) { tmps:=(ps.zip (aY x)).foldl (fun t (p,v)=>t.setIfInBounds p v) a.tmps,defers:=[] } W)
  (hbody:∀ (l:Nat) (pre:List α) (x:α) (a':Act) (V0 W:World),I pre W->Told pre x W->Ax V0.heap.size x a' W->Kp x V0 W->V0.heap.size<=W.heap.size->body.wpIn (Fence.wide.inRound l) (n - 1 - 1) P (ownPostG w.heap.size (fun _ W'=>Kp x V0 W') I Ix (pre ++ [x]) W) a' W)
  (hdone:∀ (D:Nat) (xs:List α) (W:World),w.heap.size<=D->S xs->I xs W->W.heap[D]?=some (.deferred (some []))->Q .normal { a with defers:={ target:=.collected D,args:=#[] } :: a.defers } W)
  (hstop:∀ (D:Nat) (c:Code) (pre:List α) (W:World),w.heap.size<=D->Sp pre->Ix c pre W->W.heap[D]?=some (.deferred (some []))->c.wpIn Fence.wide n P Q { a with defers:={ target:=.collected D,args:=#[] } :: a.defers } W) :
  (Code.rangeFunc g ps assign body).wpIn Fence.wide n P Q a w:=by
 refine wpIn_rangeFunc fun fn hfn=>?_
 let r:Loop:={ state:=.ready,pending:=none,fn:=fn,tmps:=a.tmps,params:=ps,assign:=assign,body:=body,defers:=w.heap.size }
 have hB:Below w.heap.size w ((w.alloc (.deferred (some []))).alloc (.loop r)):=(bz9).alloc (by simp) _
 have hz:((w.alloc (.deferred (some []))).alloc (.loop r)).heap.size=w.heap.size+2:=by simp
 have hR:Rc w.heap.size r ((w.alloc (.deferred (some []))).alloc (.loop r)):=by
  refine⟨?_,(Below.heap_alloc _ _ _ (by simp)).trans (World.alloc_heap_new w _)⟩
  have:=World.alloc_heap_new (w.alloc (.deferred (some []))) (.loop r)
  rwa [World.size_alloc] at this
 refine⟨w.heap.size+1,[{ target:=.collected w.heap.size,args:=#[] }],((w.alloc (.deferred (some []))).alloc (.loop r)),{ target:=.fn (.func gf) lb,args:=#[.func (.yield (w.heap.size+1)) #[] #[]] },((w.alloc (.deferred (some []))).alloc (.loop r)),gf,#[.func (.yield (w.heap.size+1)) #[] #[]] ++ lb,((w.alloc (.deferred (some []))).alloc (.loop r)),
  run_enterLoop_outer _ _ _ _ _,?_,fun _ _=>trivial,?_,fun _=>h1,?_⟩
 ·simp only [resolve,hg]
  simp [go_sem]
 ·simp [invoke,go_sem,eg]
 ·refine(hseq (w.heap.size+1) (fun pre W=>I pre W/\Rc w.heap.size r W) (fun pre W=>∃ c,Ix c pre W/\Rc w.heap.size { r with state:=.done,pending:=some c } W) _ hB
   ?_ ?_ (fun pre V h=>hbd pre V h.1) ?_ ⟨hI.alloc _ (hI.alloc _ h0),hR⟩).mono ?_
  ·rw [hz]
   exact(fG hI (by omega)).and (oZ _)
  ·rw [hz]
   rintro pre A B row ⟨c,hi,hr⟩ hg hrow
   exact⟨c,fG (hIx c) (by omega) pre A B row hi hg hrow,oZ (β:=Unit) _ () A B row hr hg hrow⟩
  ·rw [hz]
   rintro pre x V ⟨hi,hr⟩ ht
   refine⟨fn,_,assign,body,run_yield hr.1 (hps x),roundIn_of_wpIn hfn (hassign _ pre x V _ hi ht ?_)⟩
   intro a' W' hb hax
   have hr':=hr.below hb
   refine⟨_,run_beginRound hr'.1 rfl,?_⟩
   have hr2:Rc w.heap.size { r with state:=.busy } (W'.putObj (w.heap.size+1) (.loop { r with state:=.busy })):=hr'.put _
   exact wpIn_mono (hbody _ pre x a' V _ (hI.putObj _ (cV hI hi hb) (by omega) hr'.1 rfl) ((hT pre x).putObj (s:=()) _ (cV (hT pre x) (s:=()) ht hb) (by omega) hr'.1 rfl) ((hAx _ x a').putObj (s:=()) _ hax (by omega) hr'.1 rfl) (hKt (hKb hb) (hKp _ hr'.1 rfl)) (Nat.le_trans hb.size (grownBy_putObj' _ _ _).size)) fun e a3 W3 hp=>
    qJ (r:=r) (Kp:=Kp x) hKt hKp hI hIx hr2 ((gE hb).trans (eI _ _ (by omega))) hp
  ·rintro e V ⟨⟨v,rfl⟩,(⟨xs,hS,hi,hr⟩ | ⟨pre,hSp,c,hi,hr⟩)⟩
   ·exact⟨none,_,run_endLoop hr.1 (by simp [r]),hdone _ xs _ lz9 hS (hI.putObj _ hi (by omega) hr.1 rfl) ((World.putObj_heap_other (by omega)).trans hr.2)⟩
   ·exact⟨some c,_,run_endLoop hr.1 (by simp),hstop _ c pre _ lz9 hSp ((hIx c).putObj _ hi (by omega) hr.1 rfl) ((World.putObj_heap_other (by omega)).trans hr.2)⟩
end
theorem aE5{w0:World}{L:List El}{l b1:Nat}{J Jx:List El->World->Prop}{B:Nat}{Kp:World->World->Prop}(hK1:∀ {V V':World},Kp V V'->CKeep (fun k=>k < w0.heap.size) V V')(hK2:∀ {V V':World} {k:Nat} {f:Fl},Kp V V'->b1<=k->BoxN V k f->BoxN V' k f)(hJ:OwnFrom B J)(n:Nat)(hL:∀ pre V,J pre V->pre.length<=1000000)
  (hY:∀ pre x V,J pre V->pre ++ [x] <+: L->YieldAt Fence.wide (n - 1) Tryz.prog l (nO x) V fun e V'=>KeepsFrom B V V'/\((e=.returned (.bool true)/\J (pre ++ [x]) V'/\Kp V V')\/(e=.returned (.bool false)/\Jx (pre ++ [x]) V'))) :
  ∀ (m:Nat) (t:Tr) (p:Way) (pre:List El) (V:World),t.sz<=m->pre ++ pp p t <+: L->TB w0 t->CK w0 V->J pre V->p.length<=pre.length->b1<=V.heap.size ->
   CallsIn Fence.wide n Tryz.prog 58 #[.agg #[.int .i64 t.f.k,.int .i64 t.f.n,.int .i64 t.f.mn,.int .i64 t.f.mx,.slice t.f.rq t.f.rs.length t.f.rc,.slice t.f.kq t.f.kl t.f.kc],.int .i64 ((p.length:Int)+1),.func (.yield l) #[] #[]] V (sA w0 b1 L J Jx (pre ++ pp p t)):=by
 intro m
 induction m with
 | zero=>intro t p pre V hm;exact absurd (kI t) (by omega)
 | succ m ih=>
  intro t p pre V hm hpre hta hck hj hpl hb1
  have hfn:∀ f,Fence.wide.fn f:=fun _=>trivial
  have IH:=aB ih
  have HL:=aB hL
  have HPRE:=aB hpre
  have HTA:=aB hta
  have HM:=aB hm
  have hlen:=hL pre V hj
  obtain⟨q,cap,hkv,hk1,hk2,hk3⟩:=hta.node.k.slice
  injection hkv with hkq hkl hkc
  subst hkq
  have HKL:=aB hkl
  have HK3:=aB hk3
  have hkm:t.ks.length<=9223372036854775807:=hk1
  clear hkl hkc hk3 hk1
  have B1:Hid (Below V.heap.size V (V.alloc (.cells #[.int .i64 t.f.k,.int .i64 t.f.n,.int .i64 t.f.mn,.int .i64 t.f.mx,.slice t.f.rq t.f.rs.length t.f.rc,.slice t.f.kq t.f.kl t.f.kc] 25))):=bz9
  have N1:Hid (BoxN (V.alloc (.cells #[.int .i64 t.f.k,.int .i64 t.f.n,.int .i64 t.f.mn,.int .i64 t.f.mx,.slice t.f.rq t.f.rs.length t.f.rc,.slice t.f.kq t.f.kl t.f.kc] 25)) V.heap.size t.f):=aF V _
  have J1:Hid (J pre (V.alloc (.cells #[.int .i64 t.f.k,.int .i64 t.f.n,.int .i64 t.f.mn,.int .i64 t.f.mx,.slice t.f.rq t.f.rs.length t.f.rc,.slice t.f.kq t.f.kl t.f.kc] 25))):=hJ.alloc _ hj
  have C1:Hid (CK w0 (V.alloc (.cells #[.int .i64 t.f.k,.int .i64 t.f.n,.int .i64 t.f.mn,.int .i64 t.f.mx,.slice t.f.rq t.f.rs.length t.f.rc,.slice t.f.kq t.f.kl t.f.kc] 25))):=hck.trans (CK.of_below B1.out)
  have Hb1:=aB hb1
  clear ih hL hpre hta hm hj hck hb1
  refine callsIn_of_wp Tryz.func58 rfl trivial ?_ rfl
  simp only [Tryz.ntmps58,List.size_toArray,List.length_cons,List.length_nil,Nat.reduceAdd,Nat.reduceSub,Array.replicate_succ,Array.replicate_zero,List.push_toArray,List.append_toArray,List.nil_append,List.cons_append]
  have cs:=N1.out.six
  obtain⟨fn,tmps,assign,body,hy,hR⟩:=hY pre (p,t) _ J1.out (eX HPRE.out List.nil_prefix)
  simp only [nO] at hy
  obtain⟨c0,c1,c2,c3,c4,c5⟩:=cs
  simp only [Nat.zero_add] at c1 c2 c3 c4 c5
  gi_wp2
  refine⟨(fun z=>by cases z),hR.mono ?_⟩
  rintro e W3 ⟨-,(⟨rfl,hJ3,hk3⟩ | ⟨rfl,hJx3⟩)⟩
  ·have cc5:W3.cell? ⟨V.heap.size,5,none⟩=some (.slice t.f.kq t.f.kl t.f.kc):=(hK2 hk3 Hb1.out N1.out).six.2.2.2.2.2
   have J3:=aB hJ3
   have C3:Hid (CK w0 W3):=C1.out.step (hK1 hk3)
   have S3:Hid (b1<=W3.heap.size):=Nat.le_trans Hb1.out (Nat.le_trans B1.out.size (hK1 hk3).size)
   rw [HKL.out] at cc5
   clear hJ3 hk3 hy hR c0 c1 c2 c3 c4 c5 J1 C1 N1 B1
   gi_wp2
   gi_loopw [17] (fun i wr=>∃ j:Nat,j<=t.ks.length/\i=.int .i64 (j:Int)/\J (pre ++ (p,t) :: pps t p 0 (t.ks.take j)) wr/\CK w0 wr/\b1<=wr.heap.size) (fun i _=>t.ks.length - (intOf i).toNat)
   case atStart=>exact⟨0,Nat.zero_le _,rfl,by rw [List.take_zero,aV];exact J3.out,C3.out,S3.out⟩
   case round=>
    clear J3 C3 S3 cc5
    obtain⟨j,hj,rfl,hj1,hj2,hj3⟩:=hrel
    have HJ:=aB hj1
    have HC:=aB hj2
    have HS:=aB hj3
    clear hj1 hj2 hj3
    by_cases hjl:j < t.ks.length
    ·have e0:(j:Int) < (t.ks.length:Int):=by omega
     obtain⟨u,hu⟩:∃ u,t.ks[j]?=some u:=⟨_,List.getElem?_eq_getElem hjl⟩
     obtain⟨g,off,hq,hg,hsix⟩:=HK3.out j u hu
     rw [hq]
     have HU:=aB hu
     have hin:u∈t.ks:=List.mem_of_getElem? hu
     obtain⟨c0,c1,c2,c3,c4,c5⟩:=hsix.ck HC.out hg
     have B4:Hid (Below wr.heap.size wr (wr.alloc (.cells #[.int .i64 u.f.k,.int .i64 u.f.n,.int .i64 u.f.mn,.int .i64 u.f.mx,.slice u.f.rq u.f.rs.length u.f.rc,.slice u.f.kq u.f.kl u.f.kc] 25))):=bz9
     have N4:Hid (BoxN (wr.alloc (.cells #[.int .i64 u.f.k,.int .i64 u.f.n,.int .i64 u.f.mn,.int .i64 u.f.mx,.slice u.f.rq u.f.rs.length u.f.rc,.slice u.f.kq u.f.kl u.f.kc] 25)) wr.heap.size u.f):=aF wr _
     obtain⟨d0,d1,d2,d3,d4,d5⟩:=N4.out.six
     simp only [Nat.zero_add] at d1 d2 d3 d4 d5
     have hj1:=HL.out _ _ HJ.out
     have IHU:=aB (IH.out u ((t,j) :: p) (pre ++ (p,t) :: pps t p 0 (t.ks.take j)) (wr.alloc (.cells #[.int .i64 u.f.k,.int .i64 u.f.n,.int .i64 u.f.mn,.int .i64 u.f.mx,.slice u.f.rq u.f.rs.length u.f.rc,.slice u.f.kq u.f.kl u.f.kc] 25)) (by have:=dX hin;have:=HM.out;omega)
      (by rw [List.append_assoc,List.cons_append,<- gA hu];exact eX HPRE.out (pE _)) (HTA.out.kid hin) (HC.out.trans (CK.of_below B4.out)) (hJ.alloc _ HJ.out) (by simp;omega) (Nat.le_trans HS.out B4.out.size))
     have e1:((((t,j) :: p).length:Nat):Int)+1=((p.length:Int)+1)+1:=by simp
     rw [e1] at IHU
     clear hsix hu
     gi_wp2
     refine⟨(fun z=>by cases z),(callsIn_wide.2 (callsIn_wide.1 IHU.out)).mono ?_⟩
     rintro e W5 ⟨r5,rfl,h5⟩
     have H5:=aB h5
     clear h5 c0 c1 c2 c3 c4 c5 d0 d1 d2 d3 d4 d5 IHU N4 B4
     cases r5 with
     | true=>
      rcases H5.out with⟨-,h51,h52,h53⟩ | ⟨z,-⟩
      ·have HN:Hid (J (pre ++ (p,t) :: pps t p 0 (t.ks.take (j+1))) W5):=(by rw [gA HU.out,<- List.cons_append,<- List.append_assoc];exact h51)
       have H52:=aB h52
       have H53:=aB h53
       clear h51 h52 h53 H5
       gi_wp2
       go_roundw
       case rel=>exact⟨j+1,by omega,by go_num,HN.out,H52.out,H53.out⟩
       case measure=>simp only [intOf];omega
      ·cases z
     | false=>
      rcases H5.out with⟨z,-⟩ | ⟨-,pre',h51,h52⟩
      ·cases z
      ·have HN:=aB (⟨pre',h51,h52⟩:∃ pre',pre' <+: L/\Jx pre' W5)
       clear H5 h51 h52
       gi_wp2
       go_ret
       exact⟨false,rfl,.inr ⟨rfl,HN.out⟩⟩
    ·have e0:¬ (j:Int) < (t.ks.length:Int):=by omega
     have HN:Hid (J (pre ++ pp p t) wr):=(by rw [bQ,show t.ks=t.ks.take j by rw [List.take_of_length_le (by omega)]];exact HJ.out)
     gi_wp2
     go_ret
     exact⟨true,rfl,.inl ⟨rfl,HN.out,HC.out,HS.out⟩⟩
  ·have HN:=aB hJx3
   clear hJx3
   gi_wp2
   go_ret
   exact⟨false,rfl,.inr ⟨rfl,_,eX HPRE.out List.nil_prefix,HN.out⟩⟩
theorem pH(n:Nat){w0 w:World}{b:Nat}{t:Tr}(hB:BoxN w b t.f)(hta:TB w0 t)(hck:CK w0 w){Kp:World->World->Prop}(hK1:∀ {V V':World},Kp V V'->CKeep (fun k=>k < w0.heap.size) V V')(hK2:∀ {V V':World} {k:Nat} {f:Fl},Kp V V'->w.heap.size<=k->BoxN V k f->BoxN V' k f) :
  tU n Tryz.prog 57 #[.pointer (some ⟨b,0,none⟩)] nO (fun _=>Kp) (nD t) (fun xs=>xs=pp [] t) (fun pre=>pre <+: pp [] t) w:=by
 intro l J Jx V hV hJ hJx hb hY h0
 have hfn:∀ f,Fence.wide.fn f:=fun _=>trivial
 have D:=aB (aE5 (w0:=w0) (L:=pp [] t) (b1:=w.heap.size) (Jx:=Jx) (Kp:=Kp) hK1 hK2 hJ n hb (fun pre x V=>hY pre x V) t.sz t [] [] V lz9 (by rw [List.nil_append];exact List.prefix_refl _) hta (hck.step ⟨hV.size,fun k _ _ _ _ hc=>(hV.block k (aC hc)).trans hc⟩) h0 lz9 hV.size)
 have HB:Hid (BoxN V b t.f):=(hV.block _ (aC hB)).trans hB
 obtain⟨c0,c1,c2,c3,c4,c5⟩:=HB.out.six
 simp only [Nat.zero_add] at c1 c2 c3 c4 c5
 clear hJ hJx hb hY h0 hB hta hck hV
 refine callsIn_of_wp Tryz.func57 rfl trivial ?_ rfl
 simp only [Tryz.ntmps57,List.size_toArray,List.length_cons,List.length_nil,Nat.reduceAdd,Nat.reduceSub,Array.replicate_succ,Array.replicate_zero,List.push_toArray,List.append_toArray,List.nil_append,List.cons_append]
 gi_wp2
 refine⟨(fun z=>by cases z),(callsIn_wide.2 (callsIn_wide.1 D.out)).mono ?_⟩
 rintro e W5 ⟨r5,rfl,h5⟩
 have H5:=aB h5
 clear h5 D
 gi_wp2
 go_end0
 refine⟨⟨_,rfl⟩,?_⟩
 rcases H5.out with⟨-,h51,-,-⟩ | ⟨-,pre',h51,h52⟩
 ·exact .inl ⟨_,rfl,by rw [List.nil_append] at h51;exact h51⟩
 ·exact .inr ⟨pre',h51,h52⟩
theorem aB8{g:Operand}{ps:Array Tmp}{assign body:Code}{Q:Exit->Act->World->Prop}{a:Act}{w:World}{n:Nat}(hn:1<=n)(q d:Nat)(b:Nat){w0:World}{t:Tr}
  (hg:a.eval g=.func (.func 57) #[] #[.pointer (some ⟨b,0,none⟩)]) (hps:ps=#[q,d]) (hB:BoxN w b t.f) (hta:TB w0 t) (hck:CK w0 w) {Kp:World->World->Prop} (hKt:∀ {A B C:World},Kp A B->Kp B C->Kp A C) (hKp:∀ {W:World} {l:Nat} {o:Obj} (o':Obj),W.heap[l]?=some o->o.isCells=false->Kp W (W.putObj l o')) (hKb:∀ {W W':World},Below W.heap.size W W'->Kp W W') (hK1:∀ {V V':World},Kp V V'->CKeep (fun k=>k < w0.heap.size) V V') (hK2:∀ {V V':World} {k:Nat} {f:Fl},Kp V V'->w.heap.size<=k->BoxN V k f->BoxN V' k f)
  (I:List El->World->Prop) (Ix:Code->List El->World->Prop) (hI:OwnFrom w.heap.size I) (hIx:∀ c,OwnFrom w.heap.size (Ix c)) (hbd:∀ pre W,I pre W->pre.length<=1000000) (h0:I [] w)
  (Ax:Nat->Act->El->Act->World->Prop) (hAx:∀ s y x a',OwnFrom w.heap.size (fun (_:Unit) W=>Ax s y x a' W))
  (hassign:∀ (l:Nat) (pre:List El) (x:El) (W:World) (K:Act->World->Prop),I pre W->CK w0 W->w.heap.size<=W.heap.size->nD t pre x W->(∀ a' W',Below W.heap.size W W'->Ax W.heap.size (dG a q d x) x a' W'->K a' W') ->
   assign.wpIn (Fence.wide.inRound l) (n - 1 - 1) Tryz.prog (Exit.then K (fun _ _ _=>False)) (dG a q d x) W)
  (hbody:∀ (l:Nat) (pre:List El) (x:El) (a':Act) (V0 V:World),I pre V->CK w0 V->w.heap.size<=V.heap.size->nD t pre x V->Ax V0.heap.size (dG a q d x) x a' V->Kp V0 V->V0.heap.size<=V.heap.size->body.wpIn (Fence.wide.inRound l) (n - 1 - 1) Tryz.prog (ownPostG w.heap.size (fun _ V'=>Kp V0 V'/\CK w0 V') I Ix (pre ++ [x]) V) a' V)
  (hdone:∀ (D:Nat) (V:World),w.heap.size<=D->I (pp [] t) V->CK w0 V->V.heap[D]?=some (.deferred (some []))->Q .normal (dJ a D) V)
  (hstop:∀ (D:Nat) (c:Code) (pre:List El) (V:World),w.heap.size<=D->pre <+: pp [] t->Ix c pre V->V.heap[D]?=some (.deferred (some []))->c.wpIn Fence.wide n Tryz.prog Q (dJ a D) V) :
  (Code.rangeFunc g ps assign body).wpIn Fence.wide n Tryz.prog Q a w:=by
 subst hps
 refine lH (α:=El) (Kp:=fun _=>Kp) (Told:=nD t) hn (gf:=57) hg (enters_of Tryz.func57 (by kernel_rfl) rfl) (aY:=nO) (fun _=>rfl)
  hKt hKp hKb (pH (n - 1) hB hta hck (Kp:=Kp) hK1 hK2) (fun pre V=>I pre V/\CK w0 V/\w.heap.size<=V.heap.size) Ix ?_ hIx (fun pre x _ _ _ _ h _ _=>h) (fun pre W h=>hbd pre W h.1) ⟨h0,hck,Nat.le_refl _⟩ (fun s x=>Ax s (dG a q d x) x) (fun s x=>hAx s _ x) ?_ ?_ ?_ hstop
 ·intro pre A A' row hi hg hr
  exact⟨hI pre A A' row hi.1 hg hr,zJ hi.2.1 hg hr,Nat.le_trans hi.2.2 hg.size⟩
 ·intro l pre x V K hi ht hK
  have:=hassign l pre x V K hi.1 hi.2.1 hi.2.2 ht hK
  simpa [nO,dG] using this
 ·intro l pre x a' V0 V hi ht hax hk0 hs0
  refine wpIn_mono (hbody l pre x a' V0 V hi.1 hi.2.1 hi.2.2 ht hax hk0 hs0) fun e a3 W3 hp=>?_
  cases e with
  | normal=>exact⟨hp.1,hp.2.1.1,hp.2.2,hp.2.1.2,Nat.le_trans hi.2.2 hp.1.size⟩
  | ret=>exact hp
  | exit id=>exact hp
  | goto t=>exact hp
  | panic ch=>exact hp
  | outgrown=>exact hp
 ·rintro D xs V hD rfl hi hK
  exact hdone D V hD hi.1 hi.2.1 hK
end
section
open Go Go.RowKit Go.Shelf
attribute [local go_sem] Oper.semAt_some
theorem sD:Tryz.prog.underlying 144=some (.slice 147):=by kernel_rfl
theorem sN:(Tryz.prog.info? 147).map (fun i=>(i.zero,i.size,i.bytes))=some (some (.agg #[.int .i64 0,.int .i64 0,.int .i64 0,.int .i64 0,.int .i64 0,.slice none 0 0,.slice none 0 0]),7,88):=by kernel_rfl
def KP(b0 b1:Nat)(V V':World):Prop:=V.heap.size<=V'.heap.size/\∀ (k:Nat) (cur:Array Value) (ty:TypeId) (fr:Nat × Nat),(k < b0\/(b1<=k/\ty=25))->V.heap[k]?=some (.cells cur ty fr)->V'.heap[k]?=some (.cells cur ty fr)
theorem KP.trans{b0 b1:Nat}{A B C:World}(h:KP b0 b1 A B)(k:KP b0 b1 B C):KP b0 b1 A C:=⟨Nat.le_trans h.1 k.1,fun i cur ty fr hi hc=>k.2 i cur ty fr hi (h.2 i cur ty fr hi hc)⟩
theorem KP.put{b0 b1:Nat}{W:World}{l:Nat}{o:Obj}(o':Obj)(h:W.heap[l]?=some o)(hc:o.isCells=false):KP b0 b1 W (W.putObj l o'):=
 ⟨(grownBy_putObj' W l o').size,fun k cur ty fr _ hk=>by
  have hne:k≠l:=fun e=>by subst e;rw [hk] at h;cases h;cases hc
  exact(World.putObj_heap_other hne).trans hk⟩
theorem KP.below{b0 b1:Nat}{W W':World}(hb:Below W.heap.size W W'):KP b0 b1 W W':=⟨hb.size,fun k _ _ _ _ hc=>(hb.block k (aC hc)).trans hc⟩
structure PlOk(b:Nat)(V:World)(x:El)(m:Fl):Prop where
 k:m.k=x.2.f.k
 n:m.n=x.2.f.n
 mn:m.mn=x.2.f.mn
 mx:m.mx=x.2.f.mx
 rs:m.rs=x.2.f.rs
 kq:m.kq=none/\m.kl=0/\m.kc=0
 rr:RR b V (.slice m.rq m.rs.length m.rc) m.rs
def Ap8(a b:El × Fl):Prop:=∀ k,(Value.slice a.2.rq a.2.rs.length a.2.rc).ownBlock=some k->(Value.slice b.2.rq b.2.rs.length b.2.rc).ownBlock≠some k
def plC(z:El × Fl):List Value:=.int .i64 ((z.1.1.length:Int)+1) :: z.2.cells
def cR(l:List (El × Fl)):List Value:=l.flatMap plC
theorem rQ(l:List (El × Fl))(z:El × Fl):cR (l ++ [z])=cR l ++ plC z:=by simp [cR]
structure PlI(w:World)(t:Tr)(b1 bl:Nat)(pre:List El)(V:World):Prop where
 ms:∃ (ms:List (El × Fl)) (q:Option Addr) (c:Nat),ms.map (·.1)=pre/\V.heap[bl]?=some (.cells #[.slice q ms.length c] 144 (0,0))/\V.ownsRow b1 147 7 (.slice q ms.length c) ms.length (cR ms)/\(∀ z∈ms,PlOk b1 V z.1 z.2)/\ms.Pairwise Ap8
 pfx:pre <+: pp [] t
 len:pre.length<=2000
 bel:Below w.heap.size w V
theorem PlI.row{w:World}{t:Tr}{b1 bl B:Nat}{pre:List El}{V V':World}{row:Option Nat}(h:PlI w t b1 bl pre V)(hn:w.heap.size<=B)(hg:V.grownBy V' row)(hr:∀ r,row=some r->B<=r/\∃ o:Obj,V.heap[r]?=some o/\o.isCells=false):PlI w t b1 bl pre V':=by
 obtain⟨ms,q,c,h1,h2,h3,h4,h5⟩:=h.ms
 have own:∀ {e:TypeId} {size n:Nat} {v:Value} {xs:List Value},V.ownsRow b1 e size v n xs->V'.ownsRow b1 e size v n xs:=fun {e size n v xs} hh=>by
  refine⟨hh.1,?_⟩
  rcases hh.2 with z | ⟨g,cap,cur,z1,z2,z3,z4⟩
  ·exact .inl z
  ·exact .inr ⟨g,cap,cur,z1,z2,bP hg hr z3,z4⟩
 exact⟨⟨ms,q,c,h1,bP hg hr h2,own h3,fun z hz=>⟨(h4 z hz).k,(h4 z hz).n,(h4 z hz).mn,(h4 z hz).mx,(h4 z hz).rs,(h4 z hz).kq,own (h4 z hz).rr⟩,h5⟩,h.pfx,h.len,iD h.bel lz9 hn hg hr⟩
theorem pG{V:World}{D b:Nat}{o:Obj}(o':Obj)(hD:V.heap[D]?=some o)(hc:o.isCells=false){e:TypeId}{size n:Nat}{v:Value}{xs:List Value}(h:V.ownsRow b e size v n xs):(V.putObj D o').ownsRow b e size v n xs:=by
 refine⟨h.1,?_⟩
 rcases h.2 with z | ⟨g,cap,cur,z1,z2,z3,z4⟩
 ·exact .inl z
 ·refine .inr ⟨g,cap,cur,z1,z2,?_,z4⟩
  have hne:g≠D:=fun e=>by subst e;rw [z3] at hD;cases hD;cases hc
  exact(World.putObj_heap_other hne).trans z3
theorem PlOk.put{V:World}{D b b':Nat}{o:Obj}{x:El}{m:Fl}(o':Obj)(hD:V.heap[D]?=some o)(hc:o.isCells=false)(hb:b'<=b)(h:PlOk b V x m):PlOk b' (V.putObj D o') x m:=
 ⟨h.k,h.n,h.mn,h.mx,h.rs,h.kq,(RR.mono (pG o' hD hc h.rr) hb)⟩
theorem mN{S:Nat->Prop}{V W:World}(hf:Fr S V W){k:Nat}{cur:Array Value}{ty:TypeId}{fr:Nat × Nat}(hk:V.heap[k]?=some (.cells cur ty fr))(hs:¬ S k):W.heap[k]?=some (.cells cur ty fr):=(hf.block _ (aC hk) hs).trans hk
theorem wR{V:World}{j k:Nat}{c1 c2:Array Value}{t1 t2:TypeId}{f1 f2:Nat × Nat}(h1:V.heap[j]?=some (.cells c1 t1 f1))(h2:V.heap[k]?=some (.cells c2 t2 f2))(ht:t1≠t2):j≠k:=fun e=>by subst e;rw [h1] at h2;cases h2;exact ht rfl
theorem iS{V:World}{b b':Nat}{e1 e2:TypeId}{s1 s2 n1 n2:Nat}{v1 v2:Value}{x1 x2:List Value}(h1:V.ownsRow b e1 s1 v1 n1 x1)(h2:V.ownsRow b' e2 s2 v2 n2 x2)(ht:e1≠e2){k:Nat}(hk:v1.ownBlock=some k):v2.ownBlock≠some k:=fun hk2=>by
 obtain⟨_,_,c1,q1⟩:=aH h1 hk
 obtain⟨_,_,c2,q2⟩:=aH h2 hk2
 rw [q1] at q2;cases q2;exact ht rfl
theorem xV{w V V0 V5 W7 w6:World}{t:Tr}{b1 bl bx:Nat}{pre:List El}{x:El}{ms:List (El × Fl)}{q q5 q6:Option Addr}{c k5 c6:Nat}{ob:Obj}(hn:w.heap.size<=bl)(hb1:w.heap.size<=b1)(hbv:b1<=V.heap.size)
  (e1:ms.map (·.1)=pre) (h2:V.heap[bl]?=some (.cells #[.slice q ms.length c] 144 (0,0))) (h3:V.ownsRow b1 147 7 (.slice q ms.length c) ms.length (cR ms)) (h4:∀ z∈ms,PlOk b1 V z.1 z.2) (hap:ms.Pairwise Ap8) (hpfx:pre ++ [x] <+: pp [] t) (hlen:pre.length < 2000) (hbel:Below w.heap.size w V) (hck:CK w V)
  (hbx:BoxN V bx x.2.f) (hbx1:b1<=bx) (hs0:V0.heap.size<=bx) (hk0:KP w.heap.size b1 V0 V) (x5:RR V.heap.size V5 (.slice q5 x.2.f.rs.length k5) x.2.f.rs) (b5:Below V.heap.size V V5) (f7:Fr (fun z=>z=bx) V5 W7)
  (o6:w6.ownsRow b1 147 7 (.slice q6 (ms.length+1) c6) (ms.length+1) (cR ms ++ plC (x,⟨x.2.f.k,x.2.f.n,x.2.f.mn,x.2.f.mx,x.2.f.rs,q5,k5,none,0,0⟩)))
  (hg:(W7.alloc ob).grownBy w6 (Value.slice q ms.length c).ownBlock) :
  KeepsFrom b1 V (w6.setCell ⟨bl,0,none⟩ (.slice q6 (ms.length+1) c6))/\(KP w.heap.size b1 V0 (w6.setCell ⟨bl,0,none⟩ (.slice q6 (ms.length+1) c6))/\CK w (w6.setCell ⟨bl,0,none⟩ (.slice q6 (ms.length+1) c6)))/\PlI w t b1 bl (pre ++ [x]) (w6.setCell ⟨bl,0,none⟩ (.slice q6 (ms.length+1) c6)):=by
 have F6:Fr (fun z=>z=bx\/(Value.slice q ms.length c).ownBlock=some z) V5 w6:=((f7.mono fun k hk=>.inl hk).alloc ob).grown hg fun k hk=>.inr hk
 have F8:Fr (fun z=>z=bl\/z=bx\/(Value.slice q ms.length c).ownBlock=some z) V5 (w6.setCell ⟨bl,0,none⟩ (.slice q6 (ms.length+1) c6)):=(F6.mono fun k hk=>.inr hk).setCell (p:=⟨bl,0,none⟩) (.inl rfl) _
 have FV:Fr (fun z=>z=bl\/z=bx\/(Value.slice q ms.length c).ownBlock=some z) V (w6.setCell ⟨bl,0,none⟩ (.slice q6 (ms.length+1) c6)):=(Fr.of_below b5).trans F8
 have lo:∀ k,(k=bl\/k=bx\/(Value.slice q ms.length c).ownBlock=some k)->w.heap.size<=k:=fun k hk=>by
  rcases hk with rfl | rfl | hk
  ·exact hn
  ·omega
  ·exact Nat.le_trans hb1 (aH h3 hk).1
 have bl6:w6.heap[bl]?=some (.cells #[.slice q ms.length c] 144 (0,0)):=mN ((Fr.of_below b5).trans F6) h2 (fun hk=>by
  rcases hk with e | hk
  ·exact wR h2 hbx (by decide) e
  ·exact bX h3 h2 (by decide) hk)
 have bl8:=aU bl6 0 (.slice q6 (ms.length+1) c6)
 have own9:∀ {v:Value} {L:List (Int × Int)},RR b1 V v L->RR b1 (w6.setCell ⟨bl,0,none⟩ (.slice q6 (ms.length+1) c6)) v L:=fun {v L} h=>RR.fr h FV fun k hk hs=>by
  rcases hs with rfl | rfl | hs
  ·exact bX h h2 (by decide) hk
  ·exact bX h hbx (by decide) hk
  ·exact iS h h3 (by decide) hk hs
 refine⟨⟨FV.size,fun k o hk ho hc=>(FV.block k (aC ho) fun hs=>?_).trans ho⟩,⟨⟨Nat.le_trans hk0.1 FV.size,fun k cur ty fr hk hc=>?_⟩,⟨Nat.le_trans hck.size FV.size,fun k cur ty fr hk hc=>mN FV (hck.same k cur ty fr hk hc) fun hs=>by have:=lo k hs;omega⟩⟩,⟨ms ++ [(x,⟨x.2.f.k,x.2.f.n,x.2.f.mn,x.2.f.mx,x.2.f.rs,q5,k5,none,0,0⟩)],q6,c6,by simp [e1],?_,?_,?_,?_⟩,hpfx,by simp;omega,hbel.trans (FV.below (by have:=hbel.size;omega) lo)⟩
 ·rcases hs with rfl | rfl | hs
  ·rw [h2] at ho;cases ho;cases hc
  ·rw [hbx] at ho;cases ho;cases hc
  ·obtain⟨_,_,cur,q1⟩:=aH h3 hs
   rw [q1] at ho;cases ho;cases hc
 ·have hv:=hk0.2 k cur ty fr hk hc
  refine mN FV hv fun hs=>?_
  rcases hk with hk | ⟨hk,rfl⟩
  ·have:=lo k hs;omega
  ·rcases hs with rfl | rfl | hs
   ·exact wR h2 hv (by decide) rfl
   ·have:=aC hc;omega
   ·obtain⟨_,_,c9,q9⟩:=aH h3 hs
    exact wR q9 hv (by decide) rfl
 ·rw [List.length_append];exact bl8
 ·rw [List.length_append,rQ]
  exact aO o6 ((Fr.refl (fun z=>z=bl) w6).setCell (p:=⟨bl,0,none⟩) rfl _) fun k hk e=>by subst e;exact bX o6 bl6 (by decide) hk
 ·intro z hz
  rcases List.mem_append.1 hz with hz | hz
  ·exact⟨(h4 z hz).k,(h4 z hz).n,(h4 z hz).mn,(h4 z hz).mx,(h4 z hz).rs,(h4 z hz).kq,own9 (h4 z hz).rr⟩
  ·rw [List.mem_singleton] at hz
   subst hz
   refine⟨rfl,rfl,rfl,rfl,rfl,⟨rfl,rfl,rfl⟩,?_⟩
   have x5':=x5
   exact RR.mono (RR.fr x5' F8 fun k hk hs=>by
    have:=(aH x5 hk).1
    rcases hs with rfl | rfl | hs
    ·have:=aC h2;omega
    ·have:=aC hbx;omega
    ·have:=(aH h3 hs).2.1;omega) hbv
 ·rw [List.pairwise_append]
  refine⟨hap,List.pairwise_singleton _ _,fun a ha b hb k hk hk2=>?_⟩
  rw [List.mem_singleton] at hb
  subst hb
  have y1:=(aH (h4 a ha).rr hk).2.1
  have y2:=(aH x5 hk2).1
  omega
theorem vQ(n:Nat)(hn:3<=n){w:World}{t:Tr}(hta:TB w t) :
  CallsIn Fence.wide n Tryz.prog 80 #[.agg #[.int .i64 t.f.k,.int .i64 t.f.n,.int .i64 t.f.mn,.int .i64 t.f.mx,.slice t.f.rq t.f.rs.length t.f.rc,.slice t.f.kq t.f.kl t.f.kc]] w fun e w'=>∃ (ms:List (El × Fl)) (q:Option Addr) (c:Nat),e=.returned (.slice q ms.length c)/\ms.map (·.1)=(pp [] t).take 2000/\w'.ownsRow w.heap.size 147 7 (.slice q ms.length c) ms.length (cR ms)/\(∀ z∈ms,PlOk w.heap.size w' z.1 z.2)/\ms.Pairwise Ap8/\Below w.heap.size w w':=by
 have hfn:∀ f,Fence.wide.fn f:=fun _=>trivial
 refine callsIn_of_wp_marks Tryz.func80 rfl trivial ?_ rfl
 simp only [Tryz.ntmps80,List.size_toArray,List.length_cons,List.length_nil,Nat.reduceAdd,Nat.reduceSub,Array.replicate_succ,Array.replicate_zero,List.push_toArray,List.append_toArray,List.nil_append,List.cons_append]
 refine wpIn_wide.2 ?_
 have HTA:=aB hta
 have B1:Hid (Below w.heap.size w ((w.alloc (.cells #[.int .i64 t.f.k,.int .i64 t.f.n,.int .i64 t.f.mn,.int .i64 t.f.mx,.slice t.f.rq t.f.rs.length t.f.rc,.slice t.f.kq t.f.kl t.f.kc] 25)).alloc (.cells #[.slice none 0 0] 144))):=(bz9).alloc (by simp) _
 have N1:Hid (BoxN ((w.alloc (.cells #[.int .i64 t.f.k,.int .i64 t.f.n,.int .i64 t.f.mn,.int .i64 t.f.mx,.slice t.f.rq t.f.rs.length t.f.rc,.slice t.f.kq t.f.kl t.f.kc] 25)).alloc (.cells #[.slice none 0 0] 144)) w.heap.size t.f):=(Below.heap_alloc _ _ _ (by simp)).trans (aF w _)
 have N2:Hid (((w.alloc (.cells #[.int .i64 t.f.k,.int .i64 t.f.n,.int .i64 t.f.mn,.int .i64 t.f.mx,.slice t.f.rq t.f.rs.length t.f.rc,.slice t.f.kq t.f.kl t.f.kc] 25)).alloc (.cells #[.slice none 0 0] 144)).heap[w.heap.size+1]?=some (.cells #[.slice none 0 0] 144 (0,0))):=(by
  have:=aF (w.alloc (.cells #[.int .i64 t.f.k,.int .i64 t.f.n,.int .i64 t.f.mn,.int .i64 t.f.mx,.slice t.f.rq t.f.rs.length t.f.rc,.slice t.f.kq t.f.kl t.f.kc] 25)) (.cells #[.slice none 0 0] 144)
  rwa [World.size_alloc] at this)
 obtain⟨c0,c1,c2,c3,c4,c5⟩:=N1.out.six
 simp only [Nat.zero_add] at c1 c2 c3 c4 c5
 go_wp2_with (go_at_call 26;(with_reducible refine(uF _ _).mono ?_);rintro e w3 ⟨rfl,rfl⟩)
 have N3:BoxN (((w.alloc (.cells #[.int .i64 t.f.k,.int .i64 t.f.n,.int .i64 t.f.mn,.int .i64 t.f.mx,.slice t.f.rq t.f.rs.length t.f.rc,.slice t.f.kq t.f.kl t.f.kc] 25)).alloc (.cells #[.slice none 0 0] 144)).alloc (.cells #[.int .i64 t.f.k,.int .i64 t.f.n,.int .i64 t.f.mn,.int .i64 t.f.mx,.slice t.f.rq t.f.rs.length t.f.rc,.slice t.f.kq t.f.kl t.f.kc] 25)) (w.heap.size+1+1) t.f:=(by
  have:=aF ((w.alloc (.cells #[.int .i64 t.f.k,.int .i64 t.f.n,.int .i64 t.f.mn,.int .i64 t.f.mx,.slice t.f.rq t.f.rs.length t.f.rc,.slice t.f.kq t.f.kl t.f.kc] 25)).alloc (.cells #[.slice none 0 0] 144)) (.cells #[.int .i64 t.f.k,.int .i64 t.f.n,.int .i64 t.f.mn,.int .i64 t.f.mx,.slice t.f.rq t.f.rs.length t.f.rc,.slice t.f.kq t.f.kl t.f.kc] 25)
  rwa [World.size_alloc,World.size_alloc] at this)
 have I3:(((w.alloc (.cells #[.int .i64 t.f.k,.int .i64 t.f.n,.int .i64 t.f.mn,.int .i64 t.f.mx,.slice t.f.rq t.f.rs.length t.f.rc,.slice t.f.kq t.f.kl t.f.kc] 25)).alloc (.cells #[.slice none 0 0] 144)).alloc (.cells #[.int .i64 t.f.k,.int .i64 t.f.n,.int .i64 t.f.mn,.int .i64 t.f.mx,.slice t.f.rq t.f.rs.length t.f.rc,.slice t.f.kq t.f.kl t.f.kc] 25)).heap[w.heap.size+1]?=some (.cells #[.slice none 0 0] 144 (0,0)):=(Below.heap_alloc _ _ _ (by simp)).trans N2.out
 have B3:Below w.heap.size w (((w.alloc (.cells #[.int .i64 t.f.k,.int .i64 t.f.n,.int .i64 t.f.mn,.int .i64 t.f.mx,.slice t.f.rq t.f.rs.length t.f.rc,.slice t.f.kq t.f.kl t.f.kc] 25)).alloc (.cells #[.slice none 0 0] 144)).alloc (.cells #[.int .i64 t.f.k,.int .i64 t.f.n,.int .i64 t.f.mn,.int .i64 t.f.mx,.slice t.f.rq t.f.rs.length t.f.rc,.slice t.f.kq t.f.kl t.f.kc] 25)):=B1.out.alloc (by simp;omega) _
 generalize (((w.alloc (.cells #[.int .i64 t.f.k,.int .i64 t.f.n,.int .i64 t.f.mn,.int .i64 t.f.mx,.slice t.f.rq t.f.rs.length t.f.rc,.slice t.f.kq t.f.kl t.f.kc] 25)).alloc (.cells #[.slice none 0 0] 144)).alloc (.cells #[.int .i64 t.f.k,.int .i64 t.f.n,.int .i64 t.f.mn,.int .i64 t.f.mx,.slice t.f.rq t.f.rs.length t.f.rc,.slice t.f.kq t.f.kl t.f.kc] 25))=w4 at N3 I3 B3 ⊢
 have L3:=aC N3
 have L4:=aC I3
 obtain⟨bl,hbl⟩:∃ bl,w.heap.size+1=bl:=⟨_,rfl⟩
 rw [hbl] at I3 N3 L3 L4 ⊢
 obtain⟨bn,hbn⟩:∃ bn,bl+1=bn:=⟨_,rfl⟩
 rw [hbn] at N3 L3 ⊢
 have hwi:w.heap.size<=bl:=by omega
 clear N1 N2 B1 c0 c1 c2 c3 c4 c5 hbl hbn
 refine(wpIn_wide (n:=n)).1 ?_
 refine aB8 (by omega) 8 9 bn rfl rfl N3 HTA.out (CK.of_below B3) (Kp:=KP w.heap.size w4.heap.size) KP.trans KP.put KP.below (fun h=>⟨h.1,fun k cur ty fr hk hc=>h.2 k cur ty fr (.inl hk) hc⟩) (fun h hk hb=>h.2 _ _ _ _ (.inr ⟨hk,rfl⟩) hb) (PlI w t w4.heap.size bl) (fun c pre V=>c=.exit 0/\∃ p x,pre=p ++ [x]/\p.length=2000/\PlI w t w4.heap.size bl p V)
  ?_ ?_ (fun pre W h=>by have:=h.len;omega) ⟨⟨[],none,0,rfl,I3,World.ownsRow_nil _ _ _ _,(fun z hz=>by cases hz),List.Pairwise.nil⟩,List.nil_prefix,by simp,B3⟩ (fun s y x a' W=>∃ bx,BoxN W bx x.2.f/\w4.heap.size<=bx/\s<=bx/\a'={ y with tmps:=(y.tmps.setIfInBounds 4 (.int .i64 ((x.1.length:Int)+1))).setIfInBounds 5 (.pointer (some ⟨bx,0,none⟩)) }) ?_ ?_ ?_ ?_ ?_
 ·rintro pre A A' row h hg hr
  exact h.row B3.size hg hr
 ·rintro c pre A A' row ⟨h0,p,x,e,hl,h⟩ hg hr
  exact⟨h0,p,x,e,hl,h.row B3.size hg hr⟩
 ·rintro s y x a' _ A A' row ⟨bx,h1,h2⟩ hg hr
  exact⟨bx,bP hg hr h1,h2⟩
 ·intro l pre x V K _ _ hs _ hK
  have HS:=aB hs
  simp only [dG]
  gi_wp2
  exact hK _ _ (bz9) ⟨_,aF V _,HS.out,Nat.le_refl _,rfl⟩
 ·rintro l pre x a' V0 V h hck hsz ht ⟨bx,hbx,hbl2,hs0,rfl⟩ hk0 hv0
  obtain⟨ms,q,c,e1,h2,h3,h4,hap⟩:=h.ms
  have HAP:=aB hap
  have hml:ms.length=pre.length:=by rw [<- e1,List.length_map]
  have k0:=aA h2 (i:=0) rfl
  obtain⟨n0,n1,n2,n3,n4,n5⟩:=hbx.six
  simp only [Nat.zero_add] at n1 n2 n3 n4 n5
  have HH:=aB h
  have H2:=aB h2
  have H3:=aB h3
  have H4:=aB h4
  have HBX:=aB hbx
  have HT:=aB ht
  have HCK:=aB hck
  have HK0:=aB hk0
  have hlen:=h.len
  have hin:x∈pp [] t:=by obtain⟨r,hr⟩:=ht;rw [<- hr];simp
  have NX:=aB ((HTA.out.at hin).node.ck hck)
  have E1:=aB e1
  clear hap h h2 h3 h4 hbx ht hck hk0 e1 hin
  simp only [dG]
  by_cases h2k:ms.length=2000
  ·have e0:((ms.length:Int)==2000)=true:=by simp;omega
   have HML:=aB hml
   have HP:Hid (KeepsFrom w4.heap.size V V):=gE (Below.refl _ _)
   have H2K:=aB h2k
   clear h2k hml
   gi_wp2
   exact⟨HP.out,rfl,pre,x,rfl,by have:=HML.out;have:=H2K.out;omega,HH.out⟩
  ·have e0:((ms.length:Int)==2000)=false:=by simp;omega
   have CR:=aB (zI NX.out.r NX.out.len)
   gi_wp2
   refine⟨(fun z=>by cases z),(CallsIn.inRound l (callsIn_wide.2 CR.out)).mono ?_⟩
   rintro e V5 ⟨q5,k5,rfl,a1,a2⟩
   have X5:=aB a1
   have B5:=aB a2
   have N5:V5.heap[bx]?=some (.cells #[.int .i64 x.2.f.k,.int .i64 x.2.f.n,.int .i64 x.2.f.mn,.int .i64 x.2.f.mx,.slice x.2.f.rq x.2.f.rs.length x.2.f.rc,.slice x.2.f.kq x.2.f.kl x.2.f.kc] 25 (0,0)):=(a2.block _ (aC HBX.out)).trans HBX.out
   have N6:(V5.setCell ⟨bx,4,none⟩ (.slice q5 x.2.f.rs.length k5)).heap[bx]?=some (.cells #[.int .i64 x.2.f.k,.int .i64 x.2.f.n,.int .i64 x.2.f.mn,.int .i64 x.2.f.mx,.slice q5 x.2.f.rs.length k5,.slice x.2.f.kq x.2.f.kl x.2.f.kc] 25 (0,0)):=aU N5 4 _
   have N7:((V5.setCell ⟨bx,4,none⟩ (.slice q5 x.2.f.rs.length k5)).setCell ⟨bx,5,none⟩ (.slice none 0 0)).heap[bx]?=some (.cells #[.int .i64 x.2.f.k,.int .i64 x.2.f.n,.int .i64 x.2.f.mn,.int .i64 x.2.f.mx,.slice q5 x.2.f.rs.length k5,.slice none 0 0] 25 (0,0)):=aU N6 5 _
   have F7:Hid (Fr (fun z=>z=bx) V5 ((V5.setCell ⟨bx,4,none⟩ (.slice q5 x.2.f.rs.length k5)).setCell ⟨bx,5,none⟩ (.slice none 0 0))):=((Fr.refl (fun z=>z=bx) V5).setCell (p:=⟨bx,4,none⟩) rfl _).setCell (p:=⟨bx,5,none⟩) rfl _
   have z5:=aA N5 (i:=4) rfl
   have z6:=aA N6 (i:=5) rfl
   have f5:=bE N5 4
   have f6:=bE N6 5
   have hbb:bl≠bx:=fun e=>by have:=H2.out;rw [e,HBX.out] at this;cases this
   have K7:((V5.setCell ⟨bx,4,none⟩ (.slice q5 x.2.f.rs.length k5)).setCell ⟨bx,5,none⟩ (.slice none 0 0)).heap[bl]?=some (.cells #[.slice q ms.length c] 144 (0,0)):=(F7.out.block _ (Nat.lt_of_lt_of_le (aC H2.out) B5.out.size) hbb).trans ((B5.out.block _ (aC H2.out)).trans H2.out)
   have k7:=aA K7 (i:=0) rfl
   have z70:=aA N7 (i:=0) rfl
   have z71:=aA N7 (i:=1) rfl
   have z72:=aA N7 (i:=2) rfl
   have z73:=aA N7 (i:=3) rfl
   have z74:=aA N7 (i:=4) rfl
   have z75:=aA N7 (i:=5) rfl
   have O7:Hid (((V5.setCell ⟨bx,4,none⟩ (.slice q5 x.2.f.rs.length k5)).setCell ⟨bx,5,none⟩ (.slice none 0 0)).ownsRow w4.heap.size 147 7 (.slice q ms.length c) ms.length (cR ms)):=aO (aO H3.out (Fr.of_below (S:=fun _=>False) B5.out) (fun _ _ z=>z)) F7.out (fun k hk e=>bX H3.out HBX.out (by decide) (e ▸ hk))
   have HML:=aB hml
   have HFX:=aB F7.out
   clear a1 a2 n0 n1 n2 n3 n4 n5 CR hml
   obtain⟨t0,hi,hz0,hz1,hz2⟩:=aQ sN
   have Y7:Hid ((((V5.setCell ⟨bx,4,none⟩ (.slice q5 x.2.f.rs.length k5)).setCell ⟨bx,5,none⟩ (.slice none 0 0)).alloc (.cells #[.int .i64 ((x.1.length:Int)+1),.int .i64 x.2.f.k,.int .i64 x.2.f.n,.int .i64 x.2.f.mn,.int .i64 x.2.f.mx,.slice q5 x.2.f.rs.length k5,.slice none 0 0] 147)).ownsRow w4.heap.size 147 7 (.slice q ms.length c) ms.length (cR ms)):=aO O7.out (Fr.of_below (S:=fun _=>False) (bz9)) (fun _ _ z=>z)
   have hms:ms.length<=2000:=by have:=HML.out;omega
   gi_upto_region 8 with fail
   have HSZ:Hid (w4.heap.size<=((V5.setCell ⟨bx,4,none⟩ (.slice q5 x.2.f.rs.length k5)).setCell ⟨bx,5,none⟩ (.slice none 0 0)).heap.size):=Nat.le_trans hsz (Nat.le_trans B5.out.size F7.out.size)
   generalize ((V5.setCell ⟨bx,4,none⟩ (.slice q5 x.2.f.rs.length k5)).setCell ⟨bx,5,none⟩ (.slice none 0 0))=W7 at *
   have HNEW:Hid (∀ j u,(plC (x,⟨x.2.f.k,x.2.f.n,x.2.f.mn,x.2.f.mx,x.2.f.rs,q5,k5,none,0,0⟩))[j]?=some u->(W7.alloc (.cells #[.int .i64 ((x.1.length:Int)+1),.int .i64 x.2.f.k,.int .i64 x.2.f.n,.int .i64 x.2.f.mn,.int .i64 x.2.f.mx,.slice q5 x.2.f.rs.length k5,.slice none 0 0] 147)).cell? ((⟨W7.heap.size,0,none⟩:Addr).add j)=some u):=fun j u hj=>(by
    rw [pV,Nat.zero_add]
    exact aA (aF _ _) (i:=j) (by simpa [plC,Fl.cells] using hj))
   have HB8:Hid (w4.heap.size<=(W7.alloc (.cells #[.int .i64 ((x.1.length:Int)+1),.int .i64 x.2.f.k,.int .i64 x.2.f.n,.int .i64 x.2.f.mn,.int .i64 x.2.f.mx,.slice q5 x.2.f.rs.length k5,.slice none 0 0] 147)).heap.size):=Nat.le_trans HSZ.out (by simp)
   have K8:(W7.alloc (.cells #[.int .i64 ((x.1.length:Int)+1),.int .i64 x.2.f.k,.int .i64 x.2.f.n,.int .i64 x.2.f.mn,.int .i64 x.2.f.mx,.slice q5 x.2.f.rs.length k5,.slice none 0 0] 147)).heap[bl]?=some (.cells #[.slice q ms.length c] 144 (0,0)):=(Below.heap_alloc _ _ _ (aC K7)).trans K7
   have HK8:=aB K8
   clear K8 N5 N6 N7 z5 z6 f5 f6 hbb hms
   have hms:ms.length<=2000:=by have:=HML.out;omega
   gi_wp2_with (gi_at_builtin;refine wpListIn_append_own_at _ rfl _ _ 144 rfl w4.heap.size 147 t0 (.agg #[.int .i64 0,.int .i64 0,.int .i64 0,.int .i64 0,.int .i64 0,.slice none 0 0,.slice none 0 0]) 7 88 sD hi hz0 hz1 hz2 rfl (by decide) (.slice q ms.length c) ms.length (cR ms) rfl Y7.out ⟨W7.heap.size,0,none⟩ 1 1 (plC (x,⟨x.2.f.k,x.2.f.n,x.2.f.mn,x.2.f.mx,x.2.f.rs,q5,k5,none,0,0⟩)) rfl rfl HNEW.out (fun v hv=>by simp [plC,Fl.cells] at hv;rcases hv with rfl | rfl | rfl | rfl | rfl | rfl | rfl <;> rfl) (by unfold maxLen;omega) (by omega) HB8.out ?_;intro v' w6 hown' hgrow _ _;obtain⟨q6,c6,rfl⟩:=aL hown';have O6:=aB hown';have G6:=aB hgrow;have K9:w6.heap[bl]?=some (.cells #[.slice q ms.length c] 144 (0,0)):=(hgrow.block _ (aC HK8.out) (fun e=>bX Y7.out HK8.out (by decide) e.symm)).trans HK8.out;have k9:=aA K9 (i:=0) rfl;have f9:=bE K9 0;clear hown' hgrow)
   exact xV hwi B3.size hsz E1.out H2.out H3.out H4.out HAP.out HT.out (by have:=HML.out;omega) HH.out.bel HCK.out HBX.out hbl2 hs0 HK0.out X5.out B5.out HFX.out O6.out G6.out
 ·rintro D V hD h hck hK
  obtain⟨ms,q,c,e1,h2,h3,h4,hap⟩:=h.ms
  have HAP:=aB hap
  have e2:(pp [] t).take 2000=pp [] t:=List.take_of_length_le h.len
  have k0:=aA h2 (i:=0) rfl
  have H:=aB (show ms.map (·.1)=(pp [] t).take 2000 by rw [e2];exact e1)
  have X3:=aB h3
  have X4:=aB h4
  have XB:=aB h.bel
  have HK:=aB hK
  have HD:=aB hD
  clear hap h h2 h3 h4 e1 e2 hck hK hD
  simp only [dJ]
  go_wp2
  refine⟨by simp,.inl ⟨_,_,rfl,run_takeDeferred HK.out,?_⟩⟩
  exact⟨.slice q ms.length c,by simp [results,Tryz.results80,go_sem],ms,q,c,rfl,H.out,bV (pG _ HK.out rfl X3.out) B3.size,fun z hz=>(X4.out z hz).put _ HK.out rfl B3.size,HAP.out,kD _ XB.out (Nat.le_trans B3.size HD.out)⟩
 ·rintro D c pre V hD hpre ⟨rfl,p,x,rfl,hl,h⟩ hK
  obtain⟨ms,q,c,e1,h2,h3,h4,hap⟩:=h.ms
  have HAP:=aB hap
  have e2:(pp [] t).take 2000=p:=by
   obtain⟨r,hr⟩:=h.pfx
   rw [<- hr,List.take_append_of_le_length (by omega),List.take_of_length_le (by omega)]
  have k0:=aA h2 (i:=0) rfl
  have H:=aB (show ms.map (·.1)=(pp [] t).take 2000 by rw [e2];exact e1)
  have X3:=aB h3
  have X4:=aB h4
  have XB:=aB h.bel
  have HK:=aB hK
  have HD:=aB hD
  clear hap h h2 h3 h4 e1 e2 hK hD hl hpre
  refine(wpIn_wide (n:=n)).2 ?_
  simp only [dJ]
  go_wp2
  refine⟨by simp,.inl ⟨_,_,rfl,run_takeDeferred HK.out,?_⟩⟩
  exact⟨.slice q ms.length c,by simp [results,Tryz.results80,go_sem],ms,q,c,rfl,H.out,bV (pG _ HK.out rfl X3.out) B3.size,fun z hz=>(X4.out z hz).put _ HK.out rfl B3.size,HAP.out,kD _ XB.out (Nat.le_trans B3.size HD.out)⟩
end
section
open Go Go.RowKit Go.Shelf
attribute [local go_sem] Oper.semAt_some
theorem mY:∀ (l:List (El × Fl)) (i j:Nat) (z:El × Fl),l[i]?=some z->j < 7->(cR l)[i * 7+j]?=(plC z)[j]?
 | y :: l,0,j,z,h,hj=>by
  simp at h
  subst h
  simp only [cR,List.flatMap_cons]
  rw [Nat.zero_mul,Nat.zero_add,List.getElem?_append_left (by simpa [plC,Fl.cells] using hj)]
 | y :: l,i+1,j,z,h,hj=>by
  have ih:=mY l i j z (by simpa using h) hj
  simp only [cR,List.flatMap_cons] at ih ⊢
  rw [List.getElem?_append_right (by simp [plC,Fl.cells];omega),<- ih]
  congr 1
  simp [plC,Fl.cells]
  omega
theorem vP{W:World}{b g n c:Nat}{l:List (El × Fl)}(h:W.ownsRow b 147 7 (.slice (some ⟨g,0,none⟩) n c) n (cR l)){i:Nat}{z:El × Fl}(hi:l[i]?=some z) :
  W.cell? ⟨g,i * 7,none⟩=some (.int .i64 ((z.1.1.length:Int)+1))/\Six W g (i * 7+1) z.2:=by
 have at':∀ (j:Nat) (u:Value),(plC z)[j]?=some u->W.cell? ⟨g,i * 7+j,none⟩=some u:=fun j u hj=>
  bA h ((mY l i j z hi (by have:=(List.getElem?_eq_some_iff.1 hj).1;simpa [plC,Fl.cells] using this)).trans hj)
 exact⟨at' 0 _ rfl,at' 1 _ rfl,at' 2 _ rfl,at' 3 _ rfl,at' 4 _ rfl,at' 5 _ rfl,at' 6 _ rfl⟩
theorem PlOk.row{W W':World}{b B:Nat}{x:El}{m:Fl}{row:Option Nat}(h:PlOk b W x m)(hg:W.grownBy W' row)(hr:∀ r,row=some r->B<=r/\∃ o:Obj,W.heap[r]?=some o/\o.isCells=false):PlOk b W' x m:=by
 refine⟨h.k,h.n,h.mn,h.mx,h.rs,h.kq,h.rr.1,?_⟩
 rcases h.rr.2 with z | ⟨g,cap,cur,z1,z2,z3,z4⟩
 ·exact .inl z
 ·exact .inr ⟨g,cap,cur,z1,z2,bP hg hr z3,z4⟩
theorem PlOk.ckN{N:Nat->Prop}{W W':World}{b:Nat}{x:El}{m:Fl}(h:PlOk b W x m)(hc:CKeep N W W')(hN:∀ k,(Value.slice m.rq m.rs.length m.rc).ownBlock=some k->N k):PlOk b W' x m:=by
 refine⟨h.k,h.n,h.mn,h.mx,h.rs,h.kq,h.rr.1,?_⟩
 rcases h.rr.2 with z | ⟨g,cap,cur,z1,z2,z3,z4⟩
 ·exact .inl z
 ·exact .inr ⟨g,cap,cur,z1,z2,hc.same _ _ _ _ (hN g (by rw [z1];rfl)) z3,z4⟩
theorem qR{N:Nat->Prop}{W W':World}{b:Nat}{e:TypeId}{size n:Nat}{v:Value}{xs:List Value}(h:W.ownsRow b e size v n xs)(hc:CKeep N W W')(hN:∀ k,v.ownBlock=some k->N k):W'.ownsRow b e size v n xs:=by
 refine⟨h.1,?_⟩
 rcases h.2 with z | ⟨g,cap,cur,z1,z2,z3,z4⟩
 ·exact .inl z
 ·exact .inr ⟨g,cap,cur,z1,z2,hc.same _ _ _ _ (hN g (by rw [z1];rfl)) z3,z4⟩
def aE3(z:El × Fl):Array Value:=#[.int .i64 ((z.1.1.length:Int)+1),.agg #[.int .i64 z.2.k,.int .i64 z.2.n,.int .i64 z.2.mn,.int .i64 z.2.mx,.slice z.2.rq z.2.rs.length z.2.rc,.slice z.2.kq z.2.kl z.2.kc]]
structure rY(b:Nat)(t:Tr)(pre:List (El × Fl))(z:El × Fl)(V:World):Prop where
 ok:PlOk b V z.1 z.2
 pfx:(pre ++ [z]).map (·.1) <+: (pp [] t).take 2000
def iN(a:Act)(q d:Nat)(z:El × Fl):Act:={ tmps:=(a.tmps.setIfInBounds q (.int .i64 ((z.1.1.length:Int)+1))).setIfInBounds d (.agg #[.int .i64 z.2.k,.int .i64 z.2.n,.int .i64 z.2.mn,.int .i64 z.2.mx,.slice z.2.rq z.2.rs.length z.2.rc,.slice z.2.kq z.2.kl z.2.kc]),defers:=[] }
theorem aN3(w:World)(f:Fl):Calls Tryz.prog 35 #[.agg #[.int .i64 f.k,.int .i64 f.n,.int .i64 f.mn,.int .i64 f.mx,.slice f.rq f.rs.length f.rc,.slice f.kq f.kl f.kc]] w fun e w'=>e=.returned (.func (.func 79) #[] #[.pointer (some ⟨w.heap.size,0,none⟩)])/\w'=w.alloc (.cells #[.int .i64 f.k,.int .i64 f.n,.int .i64 f.mn,.int .i64 f.mx,.slice f.rq f.rs.length f.rc,.slice f.kq f.kl f.kc] 25):=by
 go_enter Tryz.func35,Tryz.ntmps35
 go_wp2
 go_ret
 exact⟨rfl,rfl⟩
end
section
open Go Go.RowKit Go.Shelf
attribute [local go_sem] Oper.semAt_some
structure KX(b:Nat)(z:El × Fl)(V V':World):Prop where
 size:V.heap.size<=V'.heap.size
 same:∀ (k:Nat) (cur:Array Value) (t:TypeId) (fr:Nat × Nat),b<=k/\(Value.slice z.2.rq z.2.rs.length z.2.rc).ownBlock≠some k->t≠5->V.heap[k]?=some (.cells cur t fr)->V'.heap[k]?=some (.cells cur t fr)
theorem KX.trans{b:Nat}{z:El × Fl}{A B C:World}(h:KX b z A B)(k:KX b z B C):KX b z A C:=⟨Nat.le_trans h.size k.size,fun i cur t fr hi ht hc=>k.same i cur t fr hi ht (h.same i cur t fr hi ht hc)⟩
theorem KX.put{b:Nat}{z:El × Fl}{W:World}{l:Nat}{o:Obj}(o':Obj)(h:W.heap[l]?=some o)(hc:o.isCells=false):KX b z W (W.putObj l o'):=
 have q:=CKeep.put (N:=fun _=>True) o' h hc
 ⟨q.size,fun k cur t fr _ _ hk=>q.same k cur t fr trivial hk⟩
theorem KX.below{b:Nat}{z:El × Fl}{W W':World}(hb:Below W.heap.size W W'):KX b z W W':=⟨hb.size,fun k _ _ _ _ _ hc=>(hb.block k (aC hc)).trans hc⟩
theorem sY{B:Nat}{z:El × Fl}{W W':World}{b:Nat}{e:TypeId}{size n:Nat}{v:Value}{xs:List Value}(h:W.ownsRow b e size v n xs)(hc:KX B z W W')(he:e≠5)(hN:∀ k,v.ownBlock=some k->B<=k/\(Value.slice z.2.rq z.2.rs.length z.2.rc).ownBlock≠some k):W'.ownsRow b e size v n xs:=by
 refine⟨h.1,?_⟩
 rcases h.2 with q | ⟨g,cap,cur,z1,z2,z3,z4⟩
 ·exact .inl q
 ·exact .inr ⟨g,cap,cur,z1,z2,hc.same _ _ _ _ (hN g (by rw [z1];rfl)) he z3,z4⟩
theorem PlOk.kx{B:Nat}{z:El × Fl}{W W':World}{b:Nat}{x:El}{m:Fl}(h:PlOk b W x m)(hc:KX B z W W')(hN:∀ k,(Value.slice m.rq m.rs.length m.rc).ownBlock=some k->B<=k/\(Value.slice z.2.rq z.2.rs.length z.2.rc).ownBlock≠some k):PlOk b W' x m:=by
 refine⟨h.k,h.n,h.mn,h.mx,h.rs,h.kq,h.rr.1,?_⟩
 rcases h.rr.2 with q | ⟨g,cap,cur,z1,z2,z3,z4⟩
 ·exact .inl q
 ·exact .inr ⟨g,cap,cur,z1,z2,hc.same _ _ _ _ (hN g (by rw [z1];rfl)) (by decide) z3,z4⟩
theorem rW(n:Nat)(hn:3<=n){w0 w:World}{b:Nat}{t:Tr}(hB:BoxN w b t.f)(hta:TB w0 t)(hck:CK w0 w) :
  tU n Tryz.prog 79 #[.pointer (some ⟨b,0,none⟩)] aE3 (KX w.heap.size) (rY w.heap.size t) (fun xs=>xs.map (·.1)=(pp [] t).take 2000) (fun pre=>pre.map (·.1) <+: (pp [] t).take 2000) w:=by
 intro l J Jx V hV hJ hJx hb hY h0
 have hfn:∀ f,Fence.wide.fn f:=fun _=>trivial
 have HB:Hid (BoxN V b t.f):=(hV.block _ (aC hB)).trans hB
 have hck2:CK w0 V:=hck.step ⟨hV.size,fun k _ _ _ _ hc=>(hV.block k (aC hc)).trans hc⟩
 have PL:=aB (vQ n hn (hta.ck hck2))
 have hVs:=hV.size
 obtain⟨c0,c1,c2,c3,c4,c5⟩:=HB.out.six
 simp only [Nat.zero_add] at c1 c2 c3 c4 c5
 have HJ0:=aB h0
 have HY:=aB hY
 clear hb h0 hB hta hck hck2 hV
 refine callsIn_of_wp Tryz.func79 rfl trivial ?_ rfl
 simp only [Tryz.ntmps79,List.size_toArray,List.length_cons,List.length_nil,Nat.reduceAdd,Nat.reduceSub,Array.replicate_succ,Array.replicate_zero,List.push_toArray,List.append_toArray,List.nil_append,List.cons_append]
 gi_wp2
 refine⟨(fun z=>by cases z),(callsIn_wide.2 (callsIn_wide.1 PL.out)).mono ?_⟩
 rintro e W1 ⟨ms,q,c,rfl,hm1,hm2,hm3,hm4,hm5⟩
 have hms:ms.length<=2000:=by
  have:=congrArg List.length hm1
  rw [List.length_map,List.length_take] at this
  omega
 have M1:=aB hm1
 have M4:=aB hm4
 have J1:Hid (J [] W1):=cV hJ HJ0.out hm5
 have R1:Hid (W1.ownsRow w.heap.size 147 7 (.slice q ms.length c) ms.length (cR ms)):=bV hm2 hVs
 have P1:Hid (∀ z∈ms,PlOk w.heap.size W1 z.1 z.2):=fun z hz=>⟨(hm3 z hz).k,(hm3 z hz).n,(hm3 z hz).mn,(hm3 z hz).mx,(hm3 z hz).rs,(hm3 z hz).kq,RR.mono (hm3 z hz).rr hVs⟩
 clear hm1 hm2 hm3 hm4 hm5 c0 c1 c2 c3 c4 c5 PL HB HJ0
 gi_wp2
 gi_loopw [8] (fun i wr=>∃ j:Nat,j<=ms.length/\i=.int .i64 (j:Int)/\J (ms.take j) wr/\wr.ownsRow w.heap.size 147 7 (.slice q ms.length c) ms.length (cR ms)/\∀ z∈ms.drop j,PlOk w.heap.size wr z.1 z.2) (fun i _=>ms.length - (intOf i).toNat)
 case atStart=>exact⟨0,Nat.zero_le _,rfl,J1.out,R1.out,P1.out⟩
 case round=>
  clear J1 R1 P1
  obtain⟨j,hj,rfl,hj1,hj2,hj3⟩:=hrel
  have HJ:=aB hj1
  have HR:=aB hj2
  have HP:=aB hj3
  clear hj1 hj2 hj3
  by_cases hjl:j < ms.length
  ·have e0:(j:Int) < (ms.length:Int):=by omega
   obtain⟨z,hz⟩:∃ z,ms[j]?=some z:=⟨_,List.getElem?_eq_getElem hjl⟩
   have HZ:=aB hz
   obtain⟨g,cc,hq⟩:=aJ HR.out (by omega)
   injection hq with hq1 _ hq2
   subst hq1 hq2
   have hdr:ms.drop j=z :: ms.drop (j+1):=by
    rw [List.drop_eq_getElem_cons hjl]
    congr 1
    rw [List.getElem?_eq_getElem hjl] at hz
    injection hz
   have htk:ms.take (j+1)=ms.take j ++ [z]:=by
    rw [List.take_add_one,hz];rfl
   have htp:(ms.take j ++ [z]).map (·.1) <+: (pp [] t).take 2000:=by
    rw [<- htk,<- M1.out,List.map_take]
    exact List.take_prefix _ _
   have HTK:=aB htk
   obtain⟨c0,c1,c2,c3,c4,c5,c6⟩:=vP HR.out hz
   simp only [Nat.add_assoc,Nat.reduceAdd] at c2 c3 c4 c5 c6
   have B4:Hid (Below wr.heap.size wr (wr.alloc (.cells #[.int .i64 ((z.1.1.length:Int)+1),.int .i64 z.2.k,.int .i64 z.2.n,.int .i64 z.2.mn,.int .i64 z.2.mx,.slice z.2.rq z.2.rs.length z.2.rc,.slice z.2.kq z.2.kl z.2.kc] 147))):=bz9
   have N4:=aF wr (.cells #[.int .i64 ((z.1.1.length:Int)+1),.int .i64 z.2.k,.int .i64 z.2.n,.int .i64 z.2.mn,.int .i64 z.2.mx,.slice z.2.rq z.2.rs.length z.2.rc,.slice z.2.kq z.2.kl z.2.kc] 147)
   have d0:=aA N4 (i:=0) rfl
   have d1:=aA N4 (i:=1) rfl
   have d2:=aA N4 (i:=2) rfl
   have d3:=aA N4 (i:=3) rfl
   have d4:=aA N4 (i:=4) rfl
   have d5:=aA N4 (i:=5) rfl
   have d6:=aA N4 (i:=6) rfl
   have TZ:Hid (rY w.heap.size t (ms.take j) z (wr.alloc (.cells #[.int .i64 ((z.1.1.length:Int)+1),.int .i64 z.2.k,.int .i64 z.2.n,.int .i64 z.2.mn,.int .i64 z.2.mx,.slice z.2.rq z.2.rs.length z.2.rc,.slice z.2.kq z.2.kl z.2.kc] 147))):=⟨(HP.out z (by rw [hdr];exact List.mem_cons_self ..)).ckN (CK.of_below B4.out) (fun k hk=>(aH (HP.out z (by rw [hdr];exact List.mem_cons_self ..)).rr hk).2.1),htp⟩
   obtain⟨fn,tmps,assign,body,hy,hR⟩:=HY.out (ms.take j) z _ (hJ.alloc _ HJ.out) TZ.out
   simp only [aE3] at hy
   clear N4 hz htk htp
   gi_wp2
   refine⟨(fun z=>by cases z),hR.mono ?_⟩
   rintro e W3 ⟨-,(⟨rfl,hJ3,hk3⟩ | ⟨rfl,hJx3⟩)⟩
   ·have HN:Hid (J (ms.take (j+1)) W3):=(by rw [HTK.out];exact hJ3)
    have HR3:Hid (W3.ownsRow w.heap.size 147 7 (.slice (some ⟨g,0,none⟩) ms.length c) ms.length (cR ms)):=sY (qR HR.out (CK.of_below B4.out) (fun k hk=>(aH HR.out hk).2.1)) hk3 (by decide) (fun k hk=>⟨(aH HR.out hk).1,iS HR.out (HP.out z (by rw [hdr];exact List.mem_cons_self ..)).rr (by decide) hk⟩)
    have HP3:Hid (∀ y∈ms.drop (j+1),PlOk w.heap.size W3 y.1 y.2):=fun y hy=>(by
     have hy1:=HP.out y (by rw [hdr];exact List.mem_cons_of_mem _ hy)
     refine(hy1.ckN (CK.of_below B4.out) (fun k hk=>(aH hy1.rr hk).2.1)).kx hk3 (fun k hk=>⟨(aH hy1.rr hk).1,fun hk2=>?_⟩)
     have hpw:(ms.drop j).Pairwise Ap8:=M4.out.sublist (List.drop_sublist _ _)
     rw [hdr,List.pairwise_cons] at hpw
     exact hpw.1 y hy k hk2 hk)
    clear hJ3 hk3 hy hR c0 c1 c2 c3 c4 c5 c6 d0 d1 d2 d3 d4 d5 d6 TZ hdr
    gi_wp2
    go_roundw
    case rel=>exact⟨j+1,by omega,by go_num,HN.out,HR3.out,HP3.out⟩
    case measure=>simp only [intOf];omega
   ·have HN:=aB hJx3
    have HT:=aB TZ.out.pfx
    clear hJx3 hy hR c0 c1 c2 c3 c4 c5 c6 d0 d1 d2 d3 d4 d5 d6 TZ hdr
    gi_wp2
    ((try simp only [Exit.inBlock,Exit.then]);refine bodyPost_ret (results_none rfl _ _ _) rfl ?_)
    exact⟨⟨_,rfl⟩,.inr ⟨_,HT.out,HN.out⟩⟩
  ·have e0:¬ (j:Int) < (ms.length:Int):=by omega
   have HN:Hid (J ms wr):=(by have:=HJ.out;rw [List.take_of_length_le (by omega)] at this;exact this)
   gi_wp2
   go_end0
   exact⟨⟨_,rfl⟩,.inl ⟨ms,M1.out,HN.out⟩⟩
theorem xM{g:Operand}{ps:Array Tmp}{assign body:Code}{Q:Exit->Act->World->Prop}{a:Act}{w:World}{n:Nat}(hn:4<=n)(q d:Nat)(b:Nat){w0:World}{t:Tr}
  (hg:a.eval g=.func (.func 79) #[] #[.pointer (some ⟨b,0,none⟩)]) (hps:ps=#[q,d]) (hB:BoxN w b t.f) (hta:TB w0 t) (hck:CK w0 w)
  (I:List (El × Fl)->World->Prop) (Ix:Code->List (El × Fl)->World->Prop) (hI:OwnFrom w.heap.size I) (hIx:∀ c,OwnFrom w.heap.size (Ix c)) (hbd:∀ pre W,I pre W->pre.length<=1000000) (h0:I [] w)
  (Ax:Nat->Act->(El × Fl)->Act->World->Prop) (hAx:∀ s y x a',OwnFrom w.heap.size (fun (_:Unit) W=>Ax s y x a' W))
  (hassign:∀ (l:Nat) (pre:List (El × Fl)) (x:El × Fl) (W:World) (K:Act->World->Prop),I pre W->rY w.heap.size t pre x W->(∀ a' W',Below W.heap.size W W'->Ax W.heap.size (iN a q d x) x a' W'->K a' W') ->
   assign.wpIn (Fence.wide.inRound l) (n - 1 - 1) Tryz.prog (Exit.then K (fun _ _ _=>False)) (iN a q d x) W)
  (hbody:∀ (l:Nat) (pre:List (El × Fl)) (x:El × Fl) (a':Act) (V0 V:World),I pre V->rY w.heap.size t pre x V->Ax V0.heap.size (iN a q d x) x a' V->KX w.heap.size x V0 V->V0.heap.size<=V.heap.size->body.wpIn (Fence.wide.inRound l) (n - 1 - 1) Tryz.prog (ownPostG w.heap.size (fun _ V'=>KX w.heap.size x V0 V') I Ix (pre ++ [x]) V) a' V)
  (hdone:∀ (D:Nat) (xs:List (El × Fl)) (V:World),w.heap.size<=D->xs.map (·.1)=(pp [] t).take 2000->I xs V->V.heap[D]?=some (.deferred (some []))->Q .normal (dJ a D) V)
  (hstop:∀ (D:Nat) (c:Code) (pre:List (El × Fl)) (V:World),w.heap.size<=D->pre.map (·.1) <+: (pp [] t).take 2000->Ix c pre V->V.heap[D]?=some (.deferred (some []))->c.wpIn Fence.wide n Tryz.prog Q (dJ a D) V) :
  (Code.rangeFunc g ps assign body).wpIn Fence.wide n Tryz.prog Q a w:=by
 subst hps
 refine lH (α:=El × Fl) (Kp:=KX w.heap.size) (Told:=rY w.heap.size t) (by omega) (gf:=79) hg (enters_of Tryz.func79 (by kernel_rfl) rfl) (aY:=aE3) (fun _=>rfl)
  KX.trans KX.put KX.below (rW (n - 1) (by omega) hB hta hck) I Ix hI hIx ?_ hbd h0 (fun s x=>Ax s (iN a q d x) x) (fun s x=>hAx s _ x) ?_ hbody hdone hstop
 ·rintro pre x _ A A' row h hg hr
  exact⟨h.ok.row hg hr,h.pfx⟩
 ·intro l pre x V K hi ht hK
  have:=hassign l pre x V K hi ht hK
  simpa [aE3,iN] using this
end
section
open Go Go.RowKit Go.Shelf
attribute [local go_sem] Oper.semAt_some
def eP(c:Bool)(d:Nat)(F:Fl):List UInt8:=List.replicate (2 * d) 32 ++ eO c F.k F.n F.mn F.mx F.rs ++ [10]
def cN(c:Bool)(L:List El):List UInt8:=L.flatMap fun x=>eP c x.1.length x.2.f
theorem mS(c:Bool)(L:List El)(x:El):cN c (L ++ [x])=cN c L ++ eP c x.1.length x.2.f:=by simp [cN]
theorem rJ{c f:Bool}{F:Fl}(h:Okn c f F):(eO c F.k F.n F.mn F.mx F.rs).length<=112000010:=by
 unfold eO
 split
 ·rename_i q
  have h1:=gM (h.set q).1
  have h2:=kJ (txt (dA c F.rs))
  rw [aD] at h2
  simp;omega
 split
 ·simp
 split
 ·simp
 split
 ·simp
 split
 ·simp
 split
 ·rename_i q
  have:=h.grp q
  have:=cW (n:=F.n) this.1 (by omega)
  simp;omega
 split
 ·rename_i q
  have:=h.back q
  have:=cW (n:=F.n) this.1 (by omega)
  simp;omega
 split
 ·rename_i q
  have hb:=h.rep q
  have hbd:0<=F.mn/\F.mn<=255/\(F.mx=-1\/(0<=F.mx/\F.mx<=255)):=by
   simp only [dL,Bool.and_eq_true,Bool.or_eq_true,decide_eq_true_eq,beq_iff_eq] at hb
   omega
  have h1:=cW hbd.1 hbd.2.1
  have h2:(if F.mx=-1 then [45] else bB F.mx.toNat:List UInt8).length<=3:=by
   split
   ·simp
   ·exact cW (by omega) (by omega)
  simp;omega
 ·simp
theorem qV{c f:Bool}{F:Fl}(h:Okn c f F){d:Nat}(hd:d<=40):(eP c d F).length<=112000100:=by
 have:=rJ h
 unfold eP
 simp;omega
theorem mR{c f:Bool}:∀ (L:List El),(∀ x∈L,Okn c f x.2.f/\x.1.length<=40)->(cN c L).length<=112000100 * L.length
 | [],_=>by simp [cN]
 | x :: L,h=>by
  have h1:=mR L (fun y hy=>h y (List.mem_cons_of_mem _ hy))
  have h2:=h x (List.mem_cons_self ..)
  have h3:=qV h2.1 h2.2
  have e:cN c (x :: L)=eP c x.1.length x.2.f ++ cN c L:=by simp [cN]
  rw [e,List.length_append,List.length_cons]
  omega
theorem tE{c f:Bool}{t:Tr}(h:aS c f 0 0 (pp [] t)=0):∀ x∈pp [] t,Okn c f x.2.f/\x.1.length<=40:=by
 intro x hx
 refine⟨?_,?_⟩
 ·have:=mO t [] (tD h) x hx
  exact((aX x.2).1 this).1
 ·obtain⟨pre,post,e⟩:=List.append_of_mem hx
  have hk:=eH _ 0 0 h pre x post e
  unfold bI at hk
  split at hk
  ·cases hk
  split at hk
  ·cases hk
  omega
theorem aB4(n:Nat):Lib.repeatL [32,32] n=List.replicate (2 * n) 32:=by
 induction n with
 | zero=>rfl
 | succ n ih=>rw [Lib.repeatL,ih,Nat.mul_add];rfl
noncomputable def dW (c f:Bool) (t:Tr):List UInt8 × Int:=if aS c f 0 0 (pp [] t)≠0 then ([],aS c f 0 0 (pp [] t)) else (cN c (pp [] t),0)
structure DI(w:World)(t:Tr)(c f:Bool)(bm bl:Nat)(pre:List (El × Fl))(V:World):Prop where
 md:V.heap[bm]?=some (.cells #[.bool c,.bool f] 27 (0,0))
 bld:BL 54 w.heap.size V bl [] (cN c (pre.map (·.1)))
 pfx:pre.map (·.1) <+: (pp [] t).take 2000
 bel:Below w.heap.size w V
theorem BL.row{T:TypeId}{base B:Nat}{V V':World}{b:Nat}{pr:List Value}{l:List UInt8}{row:Option Nat}(h:BL T base V b pr l)(hg:V.grownBy V' row)(hr:∀ r,row=some r->B<=r/\∃ o:Obj,V.heap[r]?=some o/\o.isCells=false):BL T base V' b pr l:=by
 obtain⟨p,v,h1,h2,h3,h4,h5⟩:=h
 refine⟨p,v,bP hg hr h1,h2,⟨h3.1,?_⟩,h4,h5⟩
 rcases h3.2 with z | ⟨g,cap,cur,z1,z2,z3,z4⟩
 ·exact .inl z
 ·exact .inr ⟨g,cap,cur,z1,z2,bP hg hr z3,z4⟩
theorem DI.row{w:World}{t:Tr}{c f:Bool}{bm bl B:Nat}{pre:List (El × Fl)}{V V':World}{row:Option Nat}(h:DI w t c f bm bl pre V)(hn:w.heap.size<=B)(hg:V.grownBy V' row)(hr:∀ r,row=some r->B<=r/\∃ o:Obj,V.heap[r]?=some o/\o.isCells=false):DI w t c f bm bl pre V':=
 ⟨bP hg hr h.md,h.bld.row hg hr,h.pfx,iD h.bel lz9 hn hg hr⟩
theorem DI.len{w:World}{t:Tr}{c f:Bool}{bm bl:Nat}{pre:List (El × Fl)}{V:World}(h:DI w t c f bm bl pre V):pre.length<=2000:=by
 have:=h.pfx.length_le
 rw [List.length_map,List.length_take] at this
 omega
theorem vR{b B:Nat}{V V':World}{T:TypeId}{cs:Array Value}(h:Oth b V V')(hs:V.heap.size<=V'.heap.size)(hb:V.heap[b]?=some (.cells cs T (0,0))):KeepsFrom B V V':=
 ⟨hs,fun k o _ hc ho=>h k o hc (fun e=>by injection e with e;subst e;rw [hb] at hc;cases hc;cases ho) (fun cs fz e=>by subst e;cases ho)⟩
theorem aI7{b B:Nat}{V V':World}{z:El × Fl}(h:Oth b V V')(hs:V.heap.size<=V'.heap.size)(hb:b < B):KX B z V V':=
 ⟨hs,fun k cur ty fr hk ht hc=>h k _ hc (fun e=>by injection e with e;omega) (fun cs fz e=>by injection e with _ e2 _;exact ht e2)⟩
end
structure Nrt(c f:Bool)(F:Fl):Prop where
 k:1<=F.k/\F.k<=9
 ok:Okn c f F
 fl:∃ g,aP c f g F
theorem xZ{c f:Bool}{t:Tr}(h:aS c f 0 0 (pp [] t)=0):∀ x∈pp [] t,Nrt c f x.2.f:=by
 intro x hx
 obtain⟨pre,post,e⟩:=List.append_of_mem hx
 have hk:=eH _ 0 0 h pre x post e
 have h0:=(tE h x hx).1
 unfold bI at hk
 split at hk
 ·cases hk
 split at hk
 ·cases hk
 split at hk
 ·cases hk
 rename_i h1
 have h1':=Classical.not_not.1 h1
 refine⟨?_,h0,_,h1'.2.1⟩
 have h2:=h1'.1
 unfold bR at h2
 split at h2
 ·simpa [cB] using h2
 ·unfold cE at h2
  split at h2
  ·simp [aZ] at h2;omega
  split at h2
  ·simp [aZ] at h2;omega
  split at h2
  ·simp [cB] at h2;omega
  ·simpa [cB] using h2
abbrev Lbl:=Int × Int × Int × Int × List (Int × Int)
def lbl(F:Fl):Lbl:=(F.k,F.n,F.mn,F.mx,F.rs)
def dK(L:List El):List (Nat × Lbl):=L.map fun x=>(x.1.length,lbl x.2.f)
theorem kR{t:Tr}{p:Way}(i:Nat)(ks:List Tr):dK (pps t p i ks)=(ks.map fun u=>dK (pp ((t,i) :: p) u)).flatten:=by
 have dep:∀ (u:Tr) (p q:Way),p.length=q.length->dK (pp p u)=dK (pp q u):=fun u=>by
  refine Tr.ind (P:=fun u=>∀ p q:Way,p.length=q.length->dK (pp p u)=dK (pp q u)) (fun u ih p q h=>?_) u
  have key:∀ (l:List Tr) (i:Nat),(∀ v∈l,v∈u.ks)->dK (pps u p i l)=dK (pps u q i l):=by
   intro l
   induction l with
   | nil=>intro i _;rw [aV,aV]
   | cons v l ih2=>
    intro i hl
    rw [aT,aT]
    unfold dK at ih2 ⊢
    rw [List.map_append,List.map_append,ih2 (i+1) (fun z hz=>hl z (List.mem_cons_of_mem _ hz))]
    have:=ih v (hl v (List.mem_cons_self ..)) ((u,i) :: p) ((u,i) :: q) (by simp [h])
    unfold dK at this
    rw [this]
  rw [bQ,bQ]
  show (p.length,lbl u.f) :: dK (pps u p 0 u.ks)=(q.length,lbl u.f) :: dK (pps u q 0 u.ks)
  rw [key u.ks 0 (fun v hv=>hv),h]
 induction ks generalizing i with
 | nil=>rw [aV];rfl
 | cons u l ih=>
  rw [aT]
  have e:dK (pp ((t,i) :: p) u ++ pps t p (i+1) l)=dK (pp ((t,i) :: p) u) ++ dK (pps t p (i+1) l):=by simp [dK]
  rw [e,ih,List.map_cons,List.flatten_cons]
  congr 3
  funext v
  exact dep v _ _ (by simp)
def lb(d:Nat)(t:Tr):List (Nat × Lbl):=dK (pp (List.replicate d (t,0)) t)
theorem yI(u:Tr):∀ p q:Way,p.length=q.length->dK (pp p u)=dK (pp q u):=by
 refine Tr.ind (P:=fun u=>∀ p q:Way,p.length=q.length->dK (pp p u)=dK (pp q u)) (fun u ih p q h=>?_) u
 rw [bQ,bQ]
 show (p.length,lbl u.f) :: dK (pps u p 0 u.ks)=(q.length,lbl u.f) :: dK (pps u q 0 u.ks)
 rw [kR,kR,h]
 congr 2
 exact List.map_congr_left fun v hv=>ih v hv _ _ (by simp [h])
theorem aG2(d:Nat)(t:Tr):lb d t=(d,lbl t.f) :: (t.ks.map (lb (d+1))).flatten:=by
 unfold lb
 rw [bQ]
 show ((List.replicate d (t,0):Way).length,lbl t.f) :: dK (pps t _ 0 t.ks)=_
 rw [kR,List.length_replicate]
 congr 2
 exact List.map_congr_left fun v _=>yI v _ _ (by simp)
theorem aD1(t:Tr):∀ (d:Nat) (u:Tr),er t=er u->lb d t=lb d u:=by
 refine Tr.ind (P:=fun t=>∀ (d:Nat) (u:Tr),er t=er u->lb d t=lb d u) (fun t ih d u h=>?_) t
 obtain⟨h1,h2,h3,h4,h5,h6⟩:=(mQ t u).1 h
 rw [aG2,aG2,show lbl t.f=lbl u.f by simp [lbl,h1,h2,h3,h4,h5]]
 have key:∀ (l m:List Tr),(∀ v∈l,v∈t.ks)->l.map er=m.map er->l.map (lb (d+1))=m.map (lb (d+1)):=by
  intro l
  induction l with
  | nil=>intro m _ e;cases m with | nil=>rfl | cons v m=>simp at e
  | cons v l ih2=>
   intro m hl e
   cases m with
   | nil=>simp at e
   | cons y m=>
    rw [List.map_cons,List.map_cons] at e
    obtain⟨e1,e2⟩:=List.cons.inj e
    rw [List.map_cons,List.map_cons,ih v (hl v (List.mem_cons_self ..)) (d+1) y e1,ih2 m (fun z hz=>hl z (List.mem_cons_of_mem _ hz)) e2]
 rw [key t.ks u.ks (fun v hv=>hv) h6]
theorem mT(c:Bool)(L:List El):cN c L=(dK L).flatMap fun x=>List.replicate (2 * x.1) 32 ++ eO c x.2.1 x.2.2.1 x.2.2.2.1 x.2.2.2.2.1 x.2.2.2.2.2 ++ [10]:=by
 simp only [dK,List.flatMap_map,cN,eP,lbl]
theorem wD{c:Bool}{t u:Tr}(h:er t=er u):cN c (pp [] t)=cN c (pp [] u):=by
 have:=aD1 t 0 u h
 rw [mT,mT]
 have e:dK (pp [] t)=dK (pp [] u):=by simpa [lb] using this
 rw [e]
abbrev Zl:=El × Nat
def arP:Way->Int | []=>0 |(par,_) :: _=>par.f.k
def fiP:Way->Bool | []=>true |(_,i) :: _=>(i:Int)==0
def laP:Way->Bool | []=>true |(par,i) :: _=>(i:Int)==(par.ks.length:Int) - 1
def brP:Way->Bool | []=>true |(par,_) :: r=>if par.f.k=7\/par.f.k=6 then true else if par.f.k=5 then brP r else false
def zc(z:Zl):List Value:=z.1.2.f.cells ++ [.int .i64 ((z.1.1.length:Int)+1),.int .i64 (arP z.1.1),.bool (fiP z.1.1),.bool (laP z.1.1),.bool (brP z.1.1),.int .i64 (z.2:Int)]
theorem fU(z:Zl):(zc z).length=12:=by simp [zc,Fl.cells]
def cG(l:List Zl):List Value:=l.flatMap zc
theorem dE(z:Zl)(l:List Zl):cG (z :: l)=zc z ++ cG l:=by simp [cG]
theorem nQ(a b:List Zl):cG (a ++ b)=cG a ++ cG b:=by simp [cG]
theorem fO:∀ (l:List Zl) (i j:Nat) (z:Zl),l[i]?=some z->j < 12->(cG l)[i * 12+j]?=(zc z)[j]?
 | y :: l,0,j,z,h,hj=>by
  simp at h
  subst h
  rw [dE,Nat.zero_mul,Nat.zero_add,List.getElem?_append_left (by rw [fU];exact hj)]
 | y :: l,i+1,j,z,h,hj=>by
  have ih:=fO l i j z (by simpa using h) hj
  rw [dE,List.getElem?_append_right (by rw [fU];omega),<- ih,fU]
  congr 1
  omega
theorem jC:∀ (l:List Zl) (i:Nat) (x:El) (a b:Nat),l[i]?=some (x,a)->(cG l).set (i * 12+11) (.int .i64 (b:Int))=cG (l.set i (x,b))
 | y :: l,0,x,a,b,h=>by
  simp at h
  subst h
  rw [List.set_cons_zero,dE,dE,Nat.zero_mul,Nat.zero_add,List.set_append_left _ _ (by rw [fU];omega)]
  congr 1
 | y :: l,i+1,x,a,b,h=>by
  have ih:=jC l i x a b (by simpa using h)
  rw [List.set_cons_succ,dE,dE,List.set_append_right _ _ (by rw [fU];omega),<- ih,fU]
  congr 2
  omega
def tl(most:Nat):Nat->List El->List Zl
 | _,[]=>[]
 | k,x :: r=>(x,min (k+x.2.sz) most) :: tl most (k+1) r
theorem kH(most:Nat):∀ (a b:List El) (k:Nat),tl most k (a ++ b)=tl most k a ++ tl most (k+a.length) b
 | [],b,k=>rfl
 | x :: a,b,k=>by
  rw [List.cons_append,tl,tl,kH most a b (k+1),List.cons_append,List.length_cons]
  congr 3
  omega
theorem eW(most:Nat):∀ (a:List El) (k:Nat),(tl most k a).length=a.length
 | [],k=>rfl
 | x :: a,k=>by rw [tl,List.length_cons,eW most a,List.length_cons]
theorem wW(most:Nat):∀ (a:List El) (k:Nat),(tl most k a).map (·.1)=a
 | [],k=>rfl
 | x :: a,k=>by rw [tl,List.map_cons,wW most a]
def iE(most:Nat)(E:List Zl)(x:El):List Zl:=E ++ (tl most E.length (pp x.1 x.2)).take (most - E.length)
def bW(most:Nat)(E:List Zl)(p:Way)(t:Tr)(j:Nat):List Zl:=E ++ (((p,t),0) :: tl most (E.length+1) (pps t p 0 (t.ks.take j))).take (most - E.length)
theorem qW{most:Nat}{E:List Zl}{p:Way}{t:Tr}(h:E.length < most):bW most E p t 0=E ++ [((p,t),0)]:=by
 unfold bW
 rw [List.take_zero,aV]
 congr 1
 rw [show most - E.length=(most - E.length - 1)+1 by omega,List.take_succ_cons]
 simp [tl]
theorem jQ{most:Nat}{E:List Zl}{p:Way}{t:Tr}{j:Nat}(h:E.length < most):E.length < (bW most E p t j).length/\(bW most E p t j).length<=most/\(bW most E p t j).length=E.length+min (most - E.length) (1+(pps t p 0 (t.ks.take j)).length):=by
 have:(bW most E p t j).length=E.length+min (most - E.length) (1+(pps t p 0 (t.ks.take j)).length):=by
  unfold bW
  rw [List.length_append,List.length_take,List.length_cons,eW]
  congr 2
  omega
 refine⟨?_,?_,this⟩
 ·rw [this];omega
 ·rw [this];omega
theorem gW{most:Nat}{E:List Zl}{p:Way}{t:Tr}{j:Nat}(h:E.length < most):(bW most E p t j)[E.length]?=some ((p,t),0):=by
 unfold bW
 rw [List.getElem?_append_right lz9,Nat.sub_self,show most - E.length=(most - E.length - 1)+1 by omega,List.take_succ_cons]
 rfl
theorem sJ(most:Nat)(E:List Zl)(z:Zl)(A B:List El)(hf:E.length+(1+A.length) < most) :
  (E ++ (z :: tl most (E.length+1) A)) ++ (tl most (E.length+(1+A.length)) B).take (most - (E.length+(1+A.length)))=E ++ (z :: tl most (E.length+1) (A ++ B)).take (most - E.length):=by
 rw [kH,List.append_assoc,<- List.cons_append]
 congr 1
 have hl:(z :: tl most (E.length+1) A).length=1+A.length:=by rw [List.length_cons,eW];omega
 have h1:((z :: tl most (E.length+1) A) ++ tl most (E.length+1+A.length) B).take (most - E.length)=(z :: tl most (E.length+1) A) ++ (tl most (E.length+1+A.length) B).take (most - E.length - (1+A.length)):=by
  rw [List.take_append,List.take_of_length_le (by rw [hl];omega),hl]
 rw [h1,show E.length+1+A.length=E.length+(1+A.length) by omega,show most - E.length - (1+A.length)=most - (E.length+(1+A.length)) by omega]
theorem gV{most:Nat}{E:List Zl}{p:Way}{t u:Tr}{j:Nat}(h:E.length < most)(hu:t.ks[j]?=some u)(hl:(bW most E p t j).length < most):iE most (bW most E p t j) ((t,j) :: p,u)=bW most E p t (j+1):=by
 have hlen:=(jQ (p:=p) (t:=t) (j:=j) h).2.2
 have e1:bW most E p t j=E ++ (((p,t),0) :: tl most (E.length+1) (pps t p 0 (t.ks.take j))):=by
  unfold bW
  rw [List.take_of_length_le (by rw [List.length_cons,eW];omega)]
 have hfull:(bW most E p t j).length=E.length+(1+(pps t p 0 (t.ks.take j)).length):=by omega
 have e2:bW most E p t (j+1)=E ++ (((p,t),0) :: tl most (E.length+1) (pps t p 0 (t.ks.take j) ++ pp ((t,j) :: p) u)).take (most - E.length):=by
  unfold bW
  rw [gA hu]
 rw [e2]
 unfold iE
 rw [hfull,<- sJ most E _ _ _ (by omega),<- e1]
theorem vX{most:Nat}{E:List Zl}{p:Way}{t:Tr}{j:Nat}(h:E.length < most)(hl:¬ (bW most E p t j).length < most):bW most E p t j=bW most E p t t.ks.length:=by
 have hlen:=jQ (p:=p) (t:=t) (j:=j) h
 have hbig:most - E.length<=1+(pps t p 0 (t.ks.take j)).length:=by omega
 unfold bW
 congr 1
 have hp:pps t p 0 (t.ks.take j) <+: pps t p 0 (t.ks.take t.ks.length):=by
  rw [List.take_length]
  exact pE j
 obtain⟨r,hr⟩:=hp
 rw [<- hr,kH,<- List.cons_append,List.take_append_of_le_length (by rw [List.length_cons,eW];omega)]
theorem jR{most:Nat}{E:List Zl}{p:Way}{t:Tr}(h:E.length < most):(bW most E p t t.ks.length).set E.length ((p,t),(bW most E p t t.ks.length).length)=iE most E (p,t):=by
 have hlen:=(jQ (p:=p) (t:=t) (j:=t.ks.length) h).2.2
 have hsz:1+(pps t p 0 (t.ks.take t.ks.length)).length=t.sz:=by
  have:=dM t p
  rw [bQ,List.length_cons] at this
  rw [List.take_length]
  omega
 rw [hlen,hsz]
 unfold bW iE
 rw [List.set_append_right _ _ lz9,Nat.sub_self,show most - E.length=(most - E.length - 1)+1 by omega,List.take_succ_cons,List.set_cons_zero]
 congr 1
 show _=(tl most E.length (pp p t)).take _
 rw [bQ,tl,List.take_succ_cons,List.take_length]
 congr 2
 show _=min (E.length+t.sz) most
 omega
end Go.Proofs.YticfnglebbakkaaGreatDoor
