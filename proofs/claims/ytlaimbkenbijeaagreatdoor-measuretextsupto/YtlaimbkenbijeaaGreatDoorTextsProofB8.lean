/-
  Parts of the proof.
-/
import Derived.Test.YtlaimbkenbijeaaGreatDoorTextsProofA0
import Derived.Test.YtlaimbkenbijeaaGreatDoorTextsProofA1
import Derived.Test.YtlaimbkenbijeaaGreatDoorTextsProofB7
import Derived.Test.YtlaimbkenbijeaaGreatDoorTextsProofB3
import Derived.Deep.RegionHeld
import Derived.Laws.EntriesVeiled
import Derived.Test.YtlaimbkenbijeaaGreatDoorTextsProofB6
import Derived.Sort.OwnSortedInts
import Derived.Lib.RowBridge
set_option maxRecDepth 100000
set_option maxHeartbeats 8000000
namespace Go.Proofs.YtlaimbkenbijeaaGreatDoor
open Go Go.RowKit
section
open Go Go.RowKit Go.Shelf
attribute [local go_sem] Oper.semAt_some
structure KXi(b:Nat)(z:El × Fl)(V V':World):Prop where
 size:V.heap.size<=V'.heap.size
 same:∀ (k:Nat) (cur:Array Value) (t:TypeId) (fr:Nat × Nat),b<=k/\(Value.slice z.2.rq z.2.rs.length z.2.rc).ownBlock≠some k->t≠3->V.heap[k]?=some (.cells cur t fr)->V'.heap[k]?=some (.cells cur t fr)
theorem KXi.trans{b:Nat}{z:El × Fl}{A B C:World}(h:KXi b z A B)(k:KXi b z B C):KXi b z A C:=⟨i8 h.size k.size,fun i cur t fr hi ht hc=>k.same i cur t fr hi ht (h.same i cur t fr hi ht hc)⟩
theorem KXi.put{b:Nat}{z:El × Fl}{W:World}{l:Nat}{o:Obj}(o':Obj)(h:W.heap[l]?=some o)(hc:o.isCells=false):KXi b z W (W.putObj l o'):=
 have q:=CKeep.put (N:=fun _=>True) o' h hc
 ⟨q.size,fun k cur t fr _ _ hk=>q.same k cur t fr trivial hk⟩
theorem KXi.below{b:Nat}{z:El × Fl}{W W':World}(hb:Below W.heap.size W W'):KXi b z W W':=⟨hb.size,fun k _ _ _ _ _ hc=>(hb.block k (aB hc)).trans hc⟩
theorem yU{B:Nat}{z:El × Fl}{W W':World}{b:Nat}{e:TypeId}{size n:Nat}{v:Value}{xs:List Value}(h:W.ownsRow b e size v n xs)(hc:KXi B z W W')(he:e≠3)(hN:∀ k,v.ownBlock=some k->B<=k/\(Value.slice z.2.rq z.2.rs.length z.2.rc).ownBlock≠some k):W'.ownsRow b e size v n xs:=by
 refine⟨h.1,?_⟩
 rcases h.2 with q | ⟨g,cap,cur,z1,z2,z3,z4⟩
 ·exact .inl q
 ·exact .inr ⟨g,cap,cur,z1,z2,hc.same _ _ _ _ (hN g (by rw [z1];rfl)) he z3,z4⟩
theorem PlOk.kxi{B:Nat}{z:El × Fl}{W W':World}{b:Nat}{x:El}{m:Fl}(h:PlOk b W x m)(hc:KXi B z W W')(hN:∀ k,(Value.slice m.rq m.rs.length m.rc).ownBlock=some k->B<=k/\(Value.slice z.2.rq z.2.rs.length z.2.rc).ownBlock≠some k):PlOk b W' x m:=by
 refine⟨h.k,h.n,h.mn,h.mx,h.rs,h.kq,h.rr.1,?_⟩
 rcases h.rr.2 with q | ⟨g,cap,cur,z1,z2,z3,z4⟩
 ·exact .inl q
 ·exact .inr ⟨g,cap,cur,z1,z2,hc.same _ _ _ _ (hN g (by rw [z1];rfl)) (by decide) z3,z4⟩
theorem aA2(n:Nat)(hn:3<=n){w0 w:World}{b:Nat}{t:Tr}(hB:BoxN w b t.f)(hta:TB w0 t)(hck:CK w0 w) :
  aG1 n Tryz.prog 136 #[.pointer (some ⟨b,0,none⟩)] bF9 (KXi w.heap.size) (aA4 w.heap.size t) (fun xs=>xs.map (·.1)=(pp [] t).take 2000) (fun pre=>pre.map (·.1) <+: (pp [] t).take 2000) w:=by
 intro l J Jx V hV hJ hJx hb hY h0
 have hfn:∀ f,Fence.wide.fn f:=fun _=>trivial
 have HB:Hid (BoxN V b t.f):=(hV.block _ (aB hB)).trans hB
 have hck2:CK w0 V:=hck.step ⟨hV.size,fun k _ _ _ _ hc=>(hV.block k (aB hc)).trans hc⟩
 have PL:=aD (aO2 n hn (hta.ck hck2))
 have hVs:=hV.size
 obtain⟨c0,c1,c2,c3,c4,c5⟩:=HB.out.six
 simp only [g8] at c1 c2 c3 c4 c5
 have HJ0:=aD h0
 have HY:=aD hY
 clear hb h0 hB hta hck hck2 hV
 refine callsIn_of_wp Tryz.func136 rfl trivial ?_ rfl
 simp only [Tryz.ntmps136,aBB,j8,List.length_nil,Nat.reduceAdd,Nat.reduceSub,aAY,aBI,aBQ,aBK,aAG,r9]
 gi_wp2
 refine⟨(fun z=>by cases z),(callsIn_wide.2 (callsIn_wide.1 PL.out)).mono ?_⟩
 rintro e W1 ⟨ms,q,c,rfl,hm1,hm2,hm3,hm4,hm5⟩
 have hms:ms.length<=2000:=by
  have:=congrArg List.length hm1
  rw [o8,o9] at this
  omega
 have M1:=aD hm1
 have M4:=aD hm4
 have J1:Hid (J [] W1):=fJ hJ HJ0.out hm5
 have R1:Hid (W1.ownsRow w.heap.size 196 7 (.slice q ms.length c) ms.length (eZ ms)):=gG hm2 hVs
 have P1:Hid (∀ z∈ms,PlOk w.heap.size W1 z.1 z.2):=fun z hz=>⟨(hm3 z hz).k,(hm3 z hz).n,(hm3 z hz).mn,(hm3 z hz).mx,(hm3 z hz).rs,(hm3 z hz).kq,RR.mono (hm3 z hz).rr hVs⟩
 clear hm1 hm2 hm3 hm4 hm5 c0 c1 c2 c3 c4 c5 PL HB HJ0
 gi_wp2
 gi_loopw [8] (fun i wr=>∃ j:Nat,j<=ms.length/\i=.int .i64 (j:Int)/\J (ms.take j) wr/\wr.ownsRow w.heap.size 196 7 (.slice q ms.length c) ms.length (eZ ms)/\∀ z∈ms.drop j,PlOk w.heap.size wr z.1 z.2) (fun i _=>ms.length - (intOf i).toNat)
 case atStart=>exact⟨0,m9 _,rfl,J1.out,R1.out,P1.out⟩
 case round=>
  clear J1 R1 P1
  obtain⟨j,hj,rfl,hj1,hj2,hj3⟩:=hrel
  have HJ:=aD hj1
  have HR:=aD hj2
  have HP:=aD hj3
  clear hj1 hj2 hj3
  by_cases hjl:j < ms.length
  ·have e0:(j:Int) < (ms.length:Int):=by omega
   obtain⟨z,hz⟩:∃ z,ms[j]?=some z:=⟨_,g9 hjl⟩
   have HZ:=aD hz
   obtain⟨g,cc,hq⟩:=aL HR.out (by omega)
   injection hq with hq1 _ hq2
   subst hq1 hq2
   have hdr:ms.drop j=z :: ms.drop (j+1):=by
    rw [aAH hjl]
    congr 1
    rw [g9 hjl] at hz
    injection hz
   have htk:ms.take (j+1)=ms.take j ++ [z]:=by
    rw [o5,hz];rfl
   have htp:(ms.take j ++ [z]).map (·.1) <+: (pp [] t).take 2000:=by
    rw [<- htk,<- M1.out,List.map_take]
    exact List.take_prefix _ _
   have HTK:=aD htk
   obtain⟨c0,c1,c2,c3,c4,c5,c6⟩:=aO1 HR.out hz
   simp only [aAI,Nat.reduceAdd] at c2 c3 c4 c5 c6
   have B4:Hid (Below wr.heap.size wr (wr.alloc (.cells #[.int .i64 ((z.1.1.length:Int)+1),.int .i64 z.2.k,.int .i64 z.2.n,.int .i64 z.2.mn,.int .i64 z.2.mx,.slice z.2.rq z.2.rs.length z.2.rc,.slice z.2.kq z.2.kl z.2.kc] 196))):=bz9
   have N4:=aE wr (.cells #[.int .i64 ((z.1.1.length:Int)+1),.int .i64 z.2.k,.int .i64 z.2.n,.int .i64 z.2.mn,.int .i64 z.2.mx,.slice z.2.rq z.2.rs.length z.2.rc,.slice z.2.kq z.2.kl z.2.kc] 196)
   have d0:=aA N4 (i:=0) rfl
   have d1:=aA N4 (i:=1) rfl
   have d2:=aA N4 (i:=2) rfl
   have d3:=aA N4 (i:=3) rfl
   have d4:=aA N4 (i:=4) rfl
   have d5:=aA N4 (i:=5) rfl
   have d6:=aA N4 (i:=6) rfl
   have TZ:Hid (aA4 w.heap.size t (ms.take j) z (wr.alloc (.cells #[.int .i64 ((z.1.1.length:Int)+1),.int .i64 z.2.k,.int .i64 z.2.n,.int .i64 z.2.mn,.int .i64 z.2.mx,.slice z.2.rq z.2.rs.length z.2.rc,.slice z.2.kq z.2.kl z.2.kc] 196))):=⟨(HP.out z (by rw [hdr];exact m8 ..)).ckN (CK.of_below B4.out) (fun k hk=>(aH (HP.out z (by rw [hdr];exact m8 ..)).rr hk).2.1),htp⟩
   obtain⟨fn,tmps,assign,body,hy,hR⟩:=HY.out (ms.take j) z _ (hJ.alloc _ HJ.out) TZ.out
   simp only [bF9] at hy
   clear N4 hz htk htp
   gi_wp2
   refine⟨(fun z=>by cases z),hR.mono ?_⟩
   rintro e W3 ⟨-,(⟨rfl,hJ3,hk3⟩ | ⟨rfl,hJx3⟩)⟩
   ·have HN:Hid (J (ms.take (j+1)) W3):=(by rw [HTK.out];exact hJ3)
    have HR3:Hid (W3.ownsRow w.heap.size 196 7 (.slice (some ⟨g,0,none⟩) ms.length c) ms.length (eZ ms)):=yU (yV HR.out (CK.of_below B4.out) (fun k hk=>(aH HR.out hk).2.1)) hk3 (by decide) (fun k hk=>⟨(aH HR.out hk).1,nP HR.out (HP.out z (by rw [hdr];exact m8 ..)).rr (by decide) hk⟩)
    have HP3:Hid (∀ y∈ms.drop (j+1),PlOk w.heap.size W3 y.1 y.2):=fun y hy=>(by
     have hy1:=HP.out y (by rw [hdr];exact n6 _ hy)
     refine(hy1.ckN (CK.of_below B4.out) (fun k hk=>(aH hy1.rr hk).2.1)).kxi hk3 (fun k hk=>⟨(aH hy1.rr hk).1,fun hk2=>?_⟩)
     have hpw:(ms.drop j).Pairwise Ap8:=M4.out.sublist (List.drop_sublist _ _)
     rw [hdr,aBM] at hpw
     exact hpw.1 y hy k hk2 hk)
    clear hJ3 hk3 hy hR c0 c1 c2 c3 c4 c5 c6 d0 d1 d2 d3 d4 d5 d6 TZ hdr
    gi_wp2
    go_roundw
    case rel=>exact⟨j+1,by omega,by go_num,HN.out,HR3.out,HP3.out⟩
    case measure=>simp only [intOf];omega
   ·have HN:=aD hJx3
    have HT:=aD TZ.out.pfx
    clear hJx3 hy hR c0 c1 c2 c3 c4 c5 c6 d0 d1 d2 d3 d4 d5 d6 TZ hdr
    gi_wp2
    ((try simp only [Exit.inBlock,Exit.then]);refine bodyPost_ret (results_none rfl _ _ _) rfl ?_)
    exact⟨⟨_,rfl⟩,.inr ⟨_,HT.out,HN.out⟩⟩
  ·have e0:¬ (j:Int) < (ms.length:Int):=by omega
   have HN:Hid (J ms wr):=(by have:=HJ.out;rw [j9 (by omega)] at this;exact this)
   gi_wp2
   go_end0
   exact⟨⟨_,rfl⟩,.inl ⟨ms,M1.out,HN.out⟩⟩
theorem aU6{g:Operand}{ps:Array Tmp}{assign body:Code}{Q:Exit->Act->World->Prop}{a:Act}{w:World}{n:Nat}(hn:4<=n)(q d:Nat)(b:Nat){w0:World}{t:Tr}
  (hg:a.eval g=.func (.func 136) #[] #[.pointer (some ⟨b,0,none⟩)]) (hps:ps=#[q,d]) (hB:BoxN w b t.f) (hta:TB w0 t) (hck:CK w0 w)
  (I:List (El × Fl)->World->Prop) (Ix:Code->List (El × Fl)->World->Prop) (hI:OwnFrom w.heap.size I) (hIx:∀ c,OwnFrom w.heap.size (Ix c)) (hbd:∀ pre W,I pre W->pre.length<=1000000) (h0:I [] w)
  (Ax:Nat->Act->(El × Fl)->Act->World->Prop) (hAx:∀ s y x a',OwnFrom w.heap.size (fun (_:Unit) W=>Ax s y x a' W))
  (hassign:∀ (l:Nat) (pre:List (El × Fl)) (x:El × Fl) (W:World) (K:Act->World->Prop),I pre W->aA4 w.heap.size t pre x W->(∀ a' W',Below W.heap.size W W'->Ax W.heap.size (nN a q d x) x a' W'->K a' W') ->
   assign.wpIn (Fence.wide.inRound l) (n - 1 - 1) Tryz.prog (Exit.then K (fun _ _ _=>False)) (nN a q d x) W)
  (hbody:∀ (l:Nat) (pre:List (El × Fl)) (x:El × Fl) (a':Act) (V0 V:World),I pre V->aA4 w.heap.size t pre x V->Ax V0.heap.size (nN a q d x) x a' V->KXi w.heap.size x V0 V->V0.heap.size<=V.heap.size->body.wpIn (Fence.wide.inRound l) (n - 1 - 1) Tryz.prog (ownPostG w.heap.size (fun _ V'=>KXi w.heap.size x V0 V') I Ix (pre ++ [x]) V) a' V)
  (hdone:∀ (D:Nat) (xs:List (El × Fl)) (V:World),w.heap.size<=D->xs.map (·.1)=(pp [] t).take 2000->I xs V->V.heap[D]?=some (.deferred (some []))->Q .normal (gM a D) V)
  (hstop:∀ (D:Nat) (c:Code) (pre:List (El × Fl)) (V:World),w.heap.size<=D->pre.map (·.1) <+: (pp [] t).take 2000->Ix c pre V->V.heap[D]?=some (.deferred (some []))->c.wpIn Fence.wide n Tryz.prog Q (gM a D) V) :
  (Code.rangeFunc g ps assign body).wpIn Fence.wide n Tryz.prog Q a w:=by
 subst hps
 refine qL (α:=El × Fl) (Kp:=KXi w.heap.size) (Told:=aA4 w.heap.size t) (by omega) (gf:=136) hg (enters_of Tryz.func136 (by kernel_rfl) rfl) (encs:=bF9) (fun _=>rfl)
  KXi.trans KXi.put KXi.below (aA2 (n - 1) (by omega) hB hta hck) I Ix hI hIx ?_ hbd h0 (fun s x=>Ax s (nN a q d x) x) (fun s x=>hAx s _ x) ?_ hbody hdone hstop
 ·rintro pre x _ A A' row h hg hr
  exact⟨h.ok.row hg hr,h.pfx⟩
 ·intro l pre x V K hi ht hK
  have:=hassign l pre x V K hi ht hK
  simpa [bF9,nN] using this
end
section
attribute [local go_sem] Oper.semAt_some
abbrev TWI:=TW 104 105 56 125 59 98 166
def enI(x:Int):Value:=.int .i64 x
def ceI(xs:List (Int)):List Value:=xs.flatMap fun x=>[.int .i64 x]
theorem wZ(xs:List (Int))(x:Int):ceI (xs ++ [x])=ceI xs ++ [.int .i64 x]:=by simp [ceI]
theorem wB:Tryz.prog.underlying 44=some (.slice 3):=by kernel_rfl
theorem bI7:Tryz.prog.underlying 166=some (.map 3 3):=by kernel_rfl
theorem aT4:(Tryz.prog.info? 3).map (fun i=>(i.zero,i.size,i.bytes))=some (some (.int .i64 0),1,8):=by kernel_rfl
def RuI(Glo:World->Prop)(NP:Tr->Prop)(Good:Int->Prop)(ρ:dH (Int))(c o:Bool):Prop:=
 ∀ (t:Tr) (xs:List (Int)) (g:Int->Int) (W:World) (v:Value) (bp bb n base:Nat),Glo W->NP t->t.ks.length<=1000000->NB W t->xs.length=t.ks.length->(∀ x∈xs,Good x)->(∀ i,Good (g i))->W.ownsRow base 3 1 v xs.length (ceI xs) ->
  W.heap[bp]?=some (.cells #[.map (some bb)] 166 (0,0))->MapV W (.int .i64 0) bb n (fun i=>enI (g i)) ->
  Calls Tryz.prog 56 #[.agg (dE t.f c o v (.func (.func 104) #[] #[bx bp]))] W fun e w'=>e=.returned (enI (ρ t.f t.ks xs g))/\Below W.heap.size W w'
def OfI(ρ:dH (Int))(w:World)(bb n:Nat)(t:Tr)(g:Int->Int)(e:Ending)(w':World):Prop:=
 e=.returned (enI (ev ρ g t).1)/\MapV w' (.int .i64 0) bb (n+t.sz) (fun i=>enI ((ev ρ g t).2 i))/\Fr (fun k=>k=bb) w w'
structure LpI(ρ:dH (Int))(W0 wr:World)(b s n:Nat)(t:Tr)(c o:Bool)(g:Int->Int)(j:Nat)(v gv:Value):Prop where
 sc:wr.heap[s]?=some (.cells (dE t.f c o v gv) 168 (0,0))
 own:wr.ownsRow W0.heap.size 3 1 v j (ceI (evs ρ g (t.ks.take j)).1)
 mp:MapV wr (.int .i64 0) b (n+szs (t.ks.take j)) (fun i=>enI ((evs ρ g (t.ks.take j)).2 i))
 fr:Fr (Wr2 b s) W0 wr
theorem bP5{Glo:World->Prop}(hglo:∀ {A B:World},CK A B->Glo A->Glo B){NP:Tr->Prop}{Good:Int->Prop}{ρ:dH (Int)}{c o:Bool}(hr:RuI Glo NP Good ρ c o)(hwf:∀ t,NP t->t.f.k=7->(Lit.int .i64 t.f.n).wf=true)(hg:∀ t xs g,NP t->xs.length=t.ks.length->(∀ x∈xs,Good x)->(∀ i,Good (g i))->Good (ρ t.f t.ks xs g))(bm bg bo br bp bb:Nat) :
  ∀ (m:Nat) (t:Tr) (w:World) (n:Nat) (g:Int->Int),t.sz<=m->n+t.sz<=1000000->Glo w->TB w t->bY NP t->(∀ i,Good (g i))->TWI w bm bg bo br bp bb c o->MapV w (.int .i64 0) bb n (fun i=>enI (g i)) ->
   Calls Tryz.prog 105 #[.agg #[.int .i64 t.f.k,.int .i64 t.f.n,.int .i64 t.f.mn,.int .i64 t.f.mx,.slice t.f.rq t.f.rs.length t.f.rc,.slice t.f.kq t.f.kl t.f.kc],bx bm,bx bg,bx bo,bx br,bx bp] w (OfI ρ w bb n t g):=by
 intro m
 induction m with
 | zero=>intro t w n g hm;exact absurd (eV t) (by omega)
 | succ m ih=>
  intro t w n g hm hn hgw hta hnp hgd htw hmp
  have HGW:=aD hgw
  clear hgw
  obtain⟨t0,ti,hz0,hz1,hz2⟩:=bH aT4
  have TI:Hid (Tryz.prog.info? 3=some t0/\t0.zero=some (.int .i64 0)/\t0.size=1/\t0.bytes=8):=⟨ti,hz0,hz1,hz2⟩
  clear ti hz0 hz1 hz2
  have HTA:=aD hta
  have HTW:=aD htw
  obtain⟨q,cap,hkv,hk1,hk2,hk3⟩:=hta.node.k.slice
  injection hkv with hkq hkl hkc
  subst hkq
  have HKL:=aD hkl
  have HK3:=aD hk3
  have hkm:t.ks.length<=9223372036854775807:=hk1
  have hkz:=aD (show szs t.ks+1=t.sz from (jG t).symm)
  clear hkl hkc hk3 hk1
  have m0:w.cell? ⟨bm,0,none⟩=some (.bool c):=aA htw.m (i:=0) rfl
  have m1:w.cell? ⟨bm,1,none⟩=some (.bool o):=aA htw.m (i:=1) rfl
  obtain⟨gv,hgv⟩:∃ gv,Value.func (.func 104) #[] #[bx bp]=gv:=⟨_,rfl⟩
  have g0:w.cell? ⟨bg,0,none⟩=some (.func (.func 104) #[] #[bx bp]):=aA htw.g (i:=0) rfl
  have l1:=aB htw.m
  have l2:=aB htw.g
  have IH:=aD ih
  have HR:=aD hr
  have HWF:=aD hwf
  have HG:=aD hg
  have HNP:=aD hnp
  have HGD:=aD hgd
  have HMP:=aD hmp
  have HM:=aD hm
  have HN:=aD hn
  have HGV:=aD hgv
  clear ih hr hwf hg hnp hgd hmp hm hn hta htw hgv
  go_enter Tryz.func105,Tryz.ntmps105
  go_upto_region 5 with fail
  have B0:Hid (Below w.heap.size w ((w.alloc (.cells #[.int .i64 t.f.k,.int .i64 t.f.n,.int .i64 t.f.mn,.int .i64 t.f.mx,.slice t.f.rq t.f.rs.length t.f.rc,.slice t.f.kq t.f.kl t.f.kc] 25)).alloc (.cells #[.int .i64 t.f.k,.int .i64 t.f.n,.int .i64 t.f.mn,.int .i64 t.f.mx,.slice t.f.rq t.f.rs.length t.f.rc,.slice t.f.kq t.f.kl t.f.kc,.bool c,.bool o,.slice none 0 0,.func (.func 104) #[] #[bx bp]] 168))):=(bz9).alloc (by simp only [a7];omega) _
  have N0:Hid (BoxN ((w.alloc (.cells #[.int .i64 t.f.k,.int .i64 t.f.n,.int .i64 t.f.mn,.int .i64 t.f.mx,.slice t.f.rq t.f.rs.length t.f.rc,.slice t.f.kq t.f.kl t.f.kc] 25)).alloc (.cells #[.int .i64 t.f.k,.int .i64 t.f.n,.int .i64 t.f.mn,.int .i64 t.f.mx,.slice t.f.rq t.f.rs.length t.f.rc,.slice t.f.kq t.f.kl t.f.kc,.bool c,.bool o,.slice none 0 0,.func (.func 104) #[] #[bx bp]] 168)) w.heap.size t.f):=(Below.heap_alloc _ _ _ (by simp only [a7];omega)).trans (aE w _)
  have S0:Hid (((w.alloc (.cells #[.int .i64 t.f.k,.int .i64 t.f.n,.int .i64 t.f.mn,.int .i64 t.f.mx,.slice t.f.rq t.f.rs.length t.f.rc,.slice t.f.kq t.f.kl t.f.kc] 25)).alloc (.cells #[.int .i64 t.f.k,.int .i64 t.f.n,.int .i64 t.f.mn,.int .i64 t.f.mx,.slice t.f.rq t.f.rs.length t.f.rc,.slice t.f.kq t.f.kl t.f.kc,.bool c,.bool o,.slice none 0 0,.func (.func 104) #[] #[bx bp]] 168)).heap[w.heap.size+1]?=some (.cells (dE t.f c o (.slice none 0 0) (.func (.func 104) #[] #[bx bp])) 168 (0,0))):=(by have:=aE (w.alloc (.cells #[.int .i64 t.f.k,.int .i64 t.f.n,.int .i64 t.f.mn,.int .i64 t.f.mx,.slice t.f.rq t.f.rs.length t.f.rc,.slice t.f.kq t.f.kl t.f.kc] 25)) (.cells #[.int .i64 t.f.k,.int .i64 t.f.n,.int .i64 t.f.mn,.int .i64 t.f.mx,.slice t.f.rq t.f.rs.length t.f.rc,.slice t.f.kq t.f.kl t.f.kc,.bool c,.bool o,.slice none 0 0,.func (.func 104) #[] #[bx bp]] 168);simp only [a7] at this;exact this)
  generalize hW0:((w.alloc (.cells #[.int .i64 t.f.k,.int .i64 t.f.n,.int .i64 t.f.mn,.int .i64 t.f.mx,.slice t.f.rq t.f.rs.length t.f.rc,.slice t.f.kq t.f.kl t.f.kc] 25)).alloc (.cells #[.int .i64 t.f.k,.int .i64 t.f.n,.int .i64 t.f.mn,.int .i64 t.f.mx,.slice t.f.rq t.f.rs.length t.f.rc,.slice t.f.kq t.f.kl t.f.kc,.bool c,.bool o,.slice none 0 0,.func (.func 104) #[] #[bx bp]] 168))=W0 at B0 N0 S0 ⊢
  clear hW0
  obtain⟨bs,hbs⟩:∃ bs,w.heap.size+1=bs:=⟨_,rfl⟩
  have HBS:Hid (w.heap.size<=bs/\bs < W0.heap.size/\bs=w.heap.size+1):=⟨by omega,by rw [<- hbs];exact aB S0.out,hbs.symm⟩
  rw [hbs] at S0 ⊢
  clear hbs
  have MB:Hid (∃ es clock,W0.heap[bb]?=some (.map es clock)):=aD (by obtain⟨es,cl,hb⟩:=HMP.out.block;exact⟨es,cl,(B0.out.block _ (aB hb)).trans hb⟩)
  go_loopw [19] (fun i wr=>∃ (j:Nat) (v:Value),j<=t.ks.length/\i=.int .i64 (j:Int)/\LpI ρ W0 wr bb bs n t c o g j v (.func (.func 104) #[] #[bx bp])) (fun i _=>t.ks.length - (intOf i).toNat)
  case atStart=>exact⟨0,_,m9 _,rfl,S0.out,(by rw [aAS,cX];exact⟨rfl,.inl ⟨rfl,rfl⟩⟩),(by rw [aAS,cX,fZ];exact HMP.out.kept B0.out),Fr.refl _ _⟩
  case round=>
   clear S0
   obtain⟨j,v,hj,rfl,hlp⟩:=hrel
   obtain⟨qv,cv,rfl⟩:=aZ hlp.own
   have LP:=aD hlp
   have CW:Hid (CK w wr):=fQ MB.out HBS.out.1 B0.out hlp.fr
   clear hlp
   by_cases hjl:j < t.ks.length
   ·have e0:(j:Int) < (t.f.kl:Int):=by rw [HKL.out];omega
    obtain⟨u,hu⟩:∃ u,t.ks[j]?=some u:=⟨_,g9 hjl⟩
    obtain⟨gq,off,hq,hgl,hsix⟩:=HK3.out j u hu
    rw [hq]
    obtain⟨c0,c1,c2,c3,c4,c5⟩:=hsix.ck CW.out hgl
    have HU:=aD hu
    have hin:u∈t.ks:=i9 hu
    clear hsix hu
    have SK:Hid (Fr (Wr2 bb bs) W0 (wr.alloc (.cells #[.int .i64 u.f.k,.int .i64 u.f.n,.int .i64 u.f.mn,.int .i64 u.f.mx,.slice u.f.rq u.f.rs.length u.f.rc,.slice u.f.kq u.f.kl u.f.kc] 25)).drew/\BoxN (wr.alloc (.cells #[.int .i64 u.f.k,.int .i64 u.f.n,.int .i64 u.f.mn,.int .i64 u.f.mx,.slice u.f.rq u.f.rs.length u.f.rc,.slice u.f.kq u.f.kl u.f.kc] 25)).drew wr.heap.size u.f):=⟨(LP.out.fr.alloc _).drew,aE wr _⟩
    have NE:Hid (¬ wr.heap.size=bb/\¬ bb=bs):=⟨fun e=>by have:=LP.out.mp.lt;omega,fun e=>by
     obtain⟨es,cl,hb⟩:=LP.out.mp.block
     rw [e,LP.out.sc] at hb
     cases hb⟩
    have NE3:Hid (wr.heap.size≠bs):=fun e=>by have:=aB LP.out.sc;omega
    have CB:Hid ((wr.alloc (.cells #[.int .i64 u.f.k,.int .i64 u.f.n,.int .i64 u.f.mn,.int .i64 u.f.mx,.slice u.f.rq u.f.rs.length u.f.rc,.slice u.f.kq u.f.kl u.f.kc] 25)).drew.heap[bs]?=some (.cells (dE t.f c o (.slice qv j cv) (.func (.func 104) #[] #[bx bp])) 168 (0,0))):=(Below.heap_alloc wr _ _ (aB LP.out.sc)).trans LP.out.sc
    have k8:(wr.alloc (.cells #[.int .i64 u.f.k,.int .i64 u.f.n,.int .i64 u.f.mn,.int .i64 u.f.mx,.slice u.f.rq u.f.rs.length u.f.rc,.slice u.f.kq u.f.kl u.f.kc] 25)).drew.cell? ⟨bs,8,none⟩=some (.slice qv j cv):=aA CB.out (i:=8) rfl
    have QC:Hid (∀ w',(Fr (Wr2 bb bs) W0 w'/\BoxN w' wr.heap.size u.f)->w'.cell? ⟨bo,0,none⟩=some (.func (.func 105) #[] #[bx bm,bx bg,bx bo,bx br,bx bp])/\w'.cell? ⟨wr.heap.size,0,none⟩=some (.int .i64 u.f.k)/\w'.cell? ⟨wr.heap.size,1,none⟩=some (.int .i64 u.f.n)/\w'.cell? ⟨wr.heap.size,2,none⟩=some (.int .i64 u.f.mn)/\w'.cell? ⟨wr.heap.size,3,none⟩=some (.int .i64 u.f.mx)/\w'.cell? ⟨wr.heap.size,4,none⟩=some (.slice u.f.rq u.f.rs.length u.f.rc)/\w'.cell? ⟨wr.heap.size,5,none⟩=some (.slice u.f.kq u.f.kl u.f.kc)):=fun w' hS=>by
     have six:=hS.2.six
     simp only [Six,g8] at six
     exact⟨aA (HTW.out.ck (fQ MB.out HBS.out.1 B0.out hS.1)).o (i:=0) rfl,six⟩
    have MK:Hid (MapV (wr.alloc (.cells #[.int .i64 u.f.k,.int .i64 u.f.n,.int .i64 u.f.mn,.int .i64 u.f.mx,.slice u.f.rq u.f.rs.length u.f.rc,.slice u.f.kq u.f.kl u.f.kc] 25)).drew (.int .i64 0) bb (n+szs (t.ks.take j)) (fun i=>enI ((evs ρ g (t.ks.take j)).2 i))):=LP.out.mp.kept ((bz9).drew)
    have OK:Hid ((wr.alloc (.cells #[.int .i64 u.f.k,.int .i64 u.f.n,.int .i64 u.f.mn,.int .i64 u.f.mx,.slice u.f.rq u.f.rs.length u.f.rc,.slice u.f.kq u.f.kl u.f.kc] 25)).drew.ownsRow W0.heap.size 3 1 (.slice qv j cv) j (ceI (evs ρ g (t.ks.take j)).1)):=aBO (l9 LP.out.own _)
    have CK2:Hid (CK w (wr.alloc (.cells #[.int .i64 u.f.k,.int .i64 u.f.n,.int .i64 u.f.mn,.int .i64 u.f.mx,.slice u.f.rq u.f.rs.length u.f.rc,.slice u.f.kq u.f.kl u.f.kc] 25)).drew):=fQ MB.out HBS.out.1 B0.out SK.out.1
    have LJ:=aD (show j<=1000000 by have:=eM t.ks;have:=hkz.out;have:=HN.out;omega)
    have IH0:=IH.out u (wr.alloc (.cells #[.int .i64 u.f.k,.int .i64 u.f.n,.int .i64 u.f.mn,.int .i64 u.f.mx,.slice u.f.rq u.f.rs.length u.f.rc,.slice u.f.kq u.f.kl u.f.kc] 25)).drew (n+szs (t.ks.take j)) (evs ρ g (t.ks.take j)).2 (by have:=dM hin;have:=HM.out;omega)
     (by have:=pP t.ks (j+1);rw [cC HU.out] at this;have:=hkz.out;have:=HN.out;omega) (hglo CK2.out HGW.out) ((HTA.out.ck CK2.out).kid hin) (bI HNP.out hin)
     (eY HG.out (t.ks.take j) g (fun u hu=>bI HNP.out (aAU hu)) HGD.out).2 (HTW.out.ck CK2.out) MK.out
    obtain⟨x5,hx5⟩:∃ x,(ev ρ (evs ρ g (t.ks.take j)).2 u).1=x:=⟨_,rfl⟩
    have IHU:Hid (Calls Tryz.prog 105 #[.agg #[.int .i64 u.f.k,.int .i64 u.f.n,.int .i64 u.f.mn,.int .i64 u.f.mx,.slice u.f.rq u.f.rs.length u.f.rc,.slice u.f.kq u.f.kl u.f.kc],bx bm,bx bg,bx bo,bx br,bx bp] (wr.alloc (.cells #[.int .i64 u.f.k,.int .i64 u.f.n,.int .i64 u.f.mn,.int .i64 u.f.mx,.slice u.f.rq u.f.rs.length u.f.rc,.slice u.f.kq u.f.kl u.f.kc] 25)).drew (fun e w'=>e=.returned (.int .i64 x5)/\MapV w' (.int .i64 0) bb (n+szs (t.ks.take j)+u.sz) (fun i=>enI ((ev ρ (evs ρ g (t.ks.take j)).2 u).2 i))/\Fr (fun k=>k=bb) (wr.alloc (.cells #[.int .i64 u.f.k,.int .i64 u.f.n,.int .i64 u.f.mn,.int .i64 u.f.mx,.slice u.f.rq u.f.rs.length u.f.rc,.slice u.f.kq u.f.kl u.f.kc] 25)).drew w')):=aD (by subst hx5;exact IH0)
    have HX5:=aD hx5
    clear hin IH0 hx5
    go_wp2
    refine wp_region_held_drew (S:=fun w'=>Fr (Wr2 bb bs) W0 w'/\BoxN w' wr.heap.size u.f) (by kernel_rfl) SK.out (fun hHeld=>?_)
    refine aCD (v:=?_) 0 ?_ ?_
    rotate_left
    ·intro wz hSw;obtain⟨q0,q1,q2,q3,q4,q5,q6⟩:=QC.out wz hSw;clear hSw;go_simp;try with_reducible rfl
    dsimp only [Act.put,f4,b6,b7]
    simp only [a8,g4,g3]
    refine aCD (v:=?_) 2 ?_ ?_
    rotate_left
    ·intro wz hSw;obtain⟨q0,q1,q2,q3,q4,q5,q6⟩:=QC.out wz hSw;clear hSw;go_simp;try with_reducible rfl
    dsimp only [Act.put,f4,b6,b7]
    simp only [a8,g4,g3]
    refine aCD (v:=?_) 3 ?_ ?_
    rotate_left
    ·intro wz hSw;obtain⟨q0,q1,q2,q3,q4,q5,q6⟩:=QC.out wz hSw;clear hSw;go_simp;try with_reducible rfl
    dsimp only [Act.put,f4,b6,b7]
    simp only [a8,g4,g3]
    refine wpAnyH_ready (rs:=[1,4]) (by kernel_rfl) (by simp) ?_
    refine AllReadyH.cons rfl (fun K hK=>?_) (AllReadyH.cons rfl (fun K hK=>?_) AllReadyH.nil)
    ·go_simp
     refine hK.out _ _ SK.out (fun hHeld1=>?_)
     clear hK K
     refine wpAnyH_ready (rs:=[4]) (by kernel_rfl) (by simp) ?_
     refine AllReadyH.cons rfl (fun K hK=>?_) AllReadyH.nil
     go_simp
     go_at_call 105
     refine IHU.out.mono ?_
     rintro e w5 ⟨rfl,hm5,hf5⟩
     have M5:=aD hm5
     have F5:=aD hf5
     clear hm5 hf5
     have S5:Hid (Fr (Wr2 bb bs) W0 w5/\BoxN w5 wr.heap.size u.f):=⟨SK.out.1.trans (F5.out.mono (fun k e=>.inl e)),(F5.out.block _ (aB SK.out.2) (fun e=>NE.out.1 e)).trans SK.out.2⟩
     refine hK.out _ _ S5.out (fun hHeld2=>?_)
     clear hK K
     refine wpAnyH_ready (rs:=[5]) (by kernel_rfl) (by simp) ?_
     refine AllReadyH.cons rfl (fun K hK=>?_) AllReadyH.nil
     go_simp
     have S6:Hid (Fr (Wr2 bb bs) W0 (w5.alloc (.cells #[.int .i64 x5] 3))/\BoxN (w5.alloc (.cells #[.int .i64 x5] 3)) wr.heap.size u.f):=⟨S5.out.1.alloc _,(Below.heap_alloc _ _ _ (aB S5.out.2)).trans S5.out.2⟩
     refine hK.out _ _ S6.out (fun hHeld3=>?_)
     clear hK K
     refine wpAnyH_ready (rs:=[6]) (by kernel_rfl) (by simp) ?_
     refine AllReadyH.cons rfl (fun K hK=>?_) AllReadyH.nil
     have O6:Hid ((w5.alloc (.cells #[.int .i64 x5] 3)).ownsRow W0.heap.size 3 1 (.slice qv j cv) j (ceI (evs ρ g (t.ks.take j)).1)):=l9 (aM OK.out F5.out (fun k e z=>bS OK.out MK.out.block (z ▸ e))) _
     refine bF rfl _ _ 44 rfl W0.heap.size 3 t0 (.int .i64 0) 1 8 wB TI.out.1 TI.out.2.1 TI.out.2.2.1 TI.out.2.2.2 rfl (by decide) (.slice qv j cv) j (ceI (evs ρ g (t.ks.take j)).1) (by simp [Act.eval]) O6.out ⟨w5.heap.size,0,none⟩ 1 1 [.int .i64 x5] (by simp [Act.eval]) rfl (cR w5 [.int .i64 x5] _) (by simp [Value.oneCell']) (by have:=LJ.out;unfold maxLen;omega) (by have:=LJ.out;omega) (i8 S5.out.1.size (by simp only [a7];omega)) ?_
     intro v' w6 hown' hgrow hblk
     obtain⟨g6,cap6,rfl⟩:=aL hown' (aAC _)
     have O7:=aD hown'
     have G6:=aD hgrow
     clear hown' hgrow hblk
     have S7:Hid (Fr (Wr2 bb bs) W0 w6/\BoxN w6 wr.heap.size u.f):=⟨S6.out.1.grownNew G6.out (fun k e=>(aH O6.out e).1),(G6.out.block _ (aB S6.out.2) (fun e=>by
      have:=(aH LP.out.own e.symm).2.1
      omega)).trans S6.out.2⟩
     have C7:Hid (w6.heap[bs]?=some (.cells (dE t.f c o (.slice qv j cv) (.func (.func 104) #[] #[bx bp])) 168 (0,0))):=(by
      have e5:=(F5.out.block _ (aB CB.out) (fun e=>NE.out.2 e.symm)).trans CB.out
      have e6:=(Below.heap_alloc w5 (.cells #[.int .i64 x5] 3) _ (aB e5)).trans e5
      exact(G6.out.block _ (aB e6) (fun e=>aP O6.out e6 (by decide) e.symm)).trans e6)
     have M7:Hid (MapV w6 (.int .i64 0) bb (n+szs (t.ks.take j)+u.sz) (fun i=>enI ((ev ρ (evs ρ g (t.ks.take j)).2 u).2 i))):=(by
      have m6:=M5.out.kept ((Below.refl _ _).alloc lz9 (.cells #[.int .i64 x5] 3))
      exact m6.same (G6.out.block _ m6.lt (fun e=>bS O6.out m6.block e.symm)))
     refine hK.out _ _ S7.out (fun hHeld4=>?_)
     clear hK K
     refine aCD (v:=?_) 7 ?_ ?_
     rotate_left
     ·intro wz hSw;obtain⟨q0,q1,q2,q3,q4,q5,q6⟩:=QC.out wz hSw;clear hSw;go_simp;try with_reducible rfl
     dsimp only [Act.put,f4,b6,b7]
     simp only [a8,g4,g3]
     refine wpAnyH_ready (rs:=[8]) (by kernel_rfl) (by simp) ?_
     refine AllReadyH.cons rfl (fun K hK=>?_) AllReadyH.nil
     have k7:w6.cell? ⟨bs,8,none⟩=some (.slice qv j cv):=aA C7.out (i:=8) rfl
     have fz:=aG C7.out 8
     go_simp
     have S8:Hid (Fr (Wr2 bb bs) W0 (w6.setCell ⟨bs,8,none⟩ (.slice (some ⟨g6,0,none⟩) (j+1) cap6))/\BoxN (w6.setCell ⟨bs,8,none⟩ (.slice (some ⟨g6,0,none⟩) (j+1) cap6)) wr.heap.size u.f):=⟨S7.out.1.setCell (p:=⟨bs,8,none⟩) (.inr rfl) _,(Below.heap_setCell _ _ _ _ (fun e=>NE3.out e)).trans S7.out.2⟩
     refine hK.out _ _ S8.out (fun hHeld5=>?_)
     clear hK K
     refine wpAnyH_done (by kernel_rfl) ?_ _
     have LQ:Hid (LpI ρ W0 (w6.setCell ⟨bs,8,none⟩ (.slice (some ⟨g6,0,none⟩) (j+1) cap6)) bb bs n t c o g (j+1) (.slice (some ⟨g6,0,none⟩) (j+1) cap6) (.func (.func 104) #[] #[bx bp])):=by
      obtain⟨ea,eb⟩:=dJ (ρ:=ρ) HU.out g
      refine⟨aO C7.out 8 _,?_,?_,S8.out.1⟩
      ·rw [ea,wZ,HX5.out]
       exact aM O7.out ((Fr.refl (fun k=>k=bs) w6).setCell (p:=⟨bs,8,none⟩) rfl _) (fun k e z=>aP O7.out C7.out (by decide) (z ▸ e))
      ·rw [eb,cC HU.out,<- aAI]
       exact M7.out.fr ((Fr.refl (fun k=>k=bs) w6).setCell (p:=⟨bs,8,none⟩) rfl _) (fun e=>by
        obtain⟨es,cl,hb⟩:=M7.out.block
        rw [e,C7.out] at hb
        cases hb)
     clear k7 fz
     go_wp2
     go_roundw
     case rel=>exact⟨j+1,_,by omega,by go_num,LQ.out⟩
     case measure=>simp only [intOf];omega
    ·go_simp
     go_at_call 105
     refine IHU.out.mono ?_
     rintro e w5 ⟨rfl,hm5,hf5⟩
     have M5:=aD hm5
     have F5:=aD hf5
     clear hm5 hf5
     have S5:Hid (Fr (Wr2 bb bs) W0 w5/\BoxN w5 wr.heap.size u.f):=⟨SK.out.1.trans (F5.out.mono (fun k e=>.inl e)),(F5.out.block _ (aB SK.out.2) (fun e=>NE.out.1 e)).trans SK.out.2⟩
     refine hK.out _ _ S5.out (fun hHeld1=>?_)
     clear hK K
     refine wpAnyH_ready (rs:=[1,5]) (by kernel_rfl) (by simp) ?_
     refine AllReadyH.cons rfl (fun K hK=>?_) (AllReadyH.cons rfl (fun K hK=>?_) AllReadyH.nil)
     ·have k9:w5.cell? ⟨bs,8,none⟩=some (.slice qv j cv):=aA ((F5.out.block _ (aB CB.out) (fun e=>NE.out.2 e.symm)).trans CB.out) (i:=8) rfl
      go_simp
      refine hK.out _ _ S5.out (fun hHeld2=>?_)
      clear hK K
      refine wpAnyH_ready (rs:=[5]) (by kernel_rfl) (by simp) ?_
      refine AllReadyH.cons rfl (fun K hK=>?_) AllReadyH.nil
      go_simp
      have S6:Hid (Fr (Wr2 bb bs) W0 (w5.alloc (.cells #[.int .i64 x5] 3))/\BoxN (w5.alloc (.cells #[.int .i64 x5] 3)) wr.heap.size u.f):=⟨S5.out.1.alloc _,(Below.heap_alloc _ _ _ (aB S5.out.2)).trans S5.out.2⟩
      refine hK.out _ _ S6.out (fun hHeld3=>?_)
      clear hK K
      refine wpAnyH_ready (rs:=[6]) (by kernel_rfl) (by simp) ?_
      refine AllReadyH.cons rfl (fun K hK=>?_) AllReadyH.nil
      have O6:Hid ((w5.alloc (.cells #[.int .i64 x5] 3)).ownsRow W0.heap.size 3 1 (.slice qv j cv) j (ceI (evs ρ g (t.ks.take j)).1)):=l9 (aM OK.out F5.out (fun k e z=>bS OK.out MK.out.block (z ▸ e))) _
      refine bF rfl _ _ 44 rfl W0.heap.size 3 t0 (.int .i64 0) 1 8 wB TI.out.1 TI.out.2.1 TI.out.2.2.1 TI.out.2.2.2 rfl (by decide) (.slice qv j cv) j (ceI (evs ρ g (t.ks.take j)).1) (by simp [Act.eval]) O6.out ⟨w5.heap.size,0,none⟩ 1 1 [.int .i64 x5] (by simp [Act.eval]) rfl (cR w5 [.int .i64 x5] _) (by simp [Value.oneCell']) (by have:=LJ.out;unfold maxLen;omega) (by have:=LJ.out;omega) (i8 S5.out.1.size (by simp only [a7];omega)) ?_
      intro v' w6 hown' hgrow hblk
      obtain⟨g6,cap6,rfl⟩:=aL hown' (aAC _)
      have O7:=aD hown'
      have G6:=aD hgrow
      clear hown' hgrow hblk
      have S7:Hid (Fr (Wr2 bb bs) W0 w6/\BoxN w6 wr.heap.size u.f):=⟨S6.out.1.grownNew G6.out (fun k e=>(aH O6.out e).1),(G6.out.block _ (aB S6.out.2) (fun e=>by
       have:=(aH LP.out.own e.symm).2.1
       omega)).trans S6.out.2⟩
      have C7:Hid (w6.heap[bs]?=some (.cells (dE t.f c o (.slice qv j cv) (.func (.func 104) #[] #[bx bp])) 168 (0,0))):=(by
       have e5:=(F5.out.block _ (aB CB.out) (fun e=>NE.out.2 e.symm)).trans CB.out
       have e6:=(Below.heap_alloc w5 (.cells #[.int .i64 x5] 3) _ (aB e5)).trans e5
       exact(G6.out.block _ (aB e6) (fun e=>aP O6.out e6 (by decide) e.symm)).trans e6)
      have M7:Hid (MapV w6 (.int .i64 0) bb (n+szs (t.ks.take j)+u.sz) (fun i=>enI ((ev ρ (evs ρ g (t.ks.take j)).2 u).2 i))):=(by
       have m6:=M5.out.kept ((Below.refl _ _).alloc lz9 (.cells #[.int .i64 x5] 3))
       exact m6.same (G6.out.block _ m6.lt (fun e=>bS O6.out m6.block e.symm)))
      refine hK.out _ _ S7.out (fun hHeld4=>?_)
      clear hK K
      refine aCD (v:=?_) 7 ?_ ?_
      rotate_left
      ·intro wz hSw;obtain⟨q0,q1,q2,q3,q4,q5,q6⟩:=QC.out wz hSw;clear hSw;go_simp;try with_reducible rfl
      dsimp only [Act.put,f4,b6,b7]
      simp only [a8,g4,g3]
      refine wpAnyH_ready (rs:=[8]) (by kernel_rfl) (by simp) ?_
      refine AllReadyH.cons rfl (fun K hK=>?_) AllReadyH.nil
      have k7:w6.cell? ⟨bs,8,none⟩=some (.slice qv j cv):=aA C7.out (i:=8) rfl
      have fz:=aG C7.out 8
      go_simp
      have S8:Hid (Fr (Wr2 bb bs) W0 (w6.setCell ⟨bs,8,none⟩ (.slice (some ⟨g6,0,none⟩) (j+1) cap6))/\BoxN (w6.setCell ⟨bs,8,none⟩ (.slice (some ⟨g6,0,none⟩) (j+1) cap6)) wr.heap.size u.f):=⟨S7.out.1.setCell (p:=⟨bs,8,none⟩) (.inr rfl) _,(Below.heap_setCell _ _ _ _ (fun e=>NE3.out e)).trans S7.out.2⟩
      refine hK.out _ _ S8.out (fun hHeld5=>?_)
      clear hK K
      refine wpAnyH_done (by kernel_rfl) ?_ _
      have LQ:Hid (LpI ρ W0 (w6.setCell ⟨bs,8,none⟩ (.slice (some ⟨g6,0,none⟩) (j+1) cap6)) bb bs n t c o g (j+1) (.slice (some ⟨g6,0,none⟩) (j+1) cap6) (.func (.func 104) #[] #[bx bp])):=by
       obtain⟨ea,eb⟩:=dJ (ρ:=ρ) HU.out g
       refine⟨aO C7.out 8 _,?_,?_,S8.out.1⟩
       ·rw [ea,wZ,HX5.out]
        exact aM O7.out ((Fr.refl (fun k=>k=bs) w6).setCell (p:=⟨bs,8,none⟩) rfl _) (fun k e z=>aP O7.out C7.out (by decide) (z ▸ e))
       ·rw [eb,cC HU.out,<- aAI]
        exact M7.out.fr ((Fr.refl (fun k=>k=bs) w6).setCell (p:=⟨bs,8,none⟩) rfl _) (fun e=>by
         obtain⟨es,cl,hb⟩:=M7.out.block
         rw [e,C7.out] at hb
         cases hb)
      clear k7 fz
      go_wp2
      go_roundw
      case rel=>exact⟨j+1,_,by omega,by go_num,LQ.out⟩
      case measure=>simp only [intOf];omega
     ·go_simp
      have S6:Hid (Fr (Wr2 bb bs) W0 (w5.alloc (.cells #[.int .i64 x5] 3))/\BoxN (w5.alloc (.cells #[.int .i64 x5] 3)) wr.heap.size u.f):=⟨S5.out.1.alloc _,(Below.heap_alloc _ _ _ (aB S5.out.2)).trans S5.out.2⟩
      refine hK.out _ _ S6.out (fun hHeld2=>?_)
      clear hK K
      refine wpAnyH_ready (rs:=[1]) (by kernel_rfl) (by simp) ?_
      refine AllReadyH.cons rfl (fun K hK=>?_) AllReadyH.nil
      have k9:(w5.alloc (.cells #[.int .i64 x5] 3)).cell? ⟨bs,8,none⟩=some (.slice qv j cv):=(by have e5:=(F5.out.block _ (aB CB.out) (fun e=>NE.out.2 e.symm)).trans CB.out;exact aA ((Below.heap_alloc w5 (.cells #[.int .i64 x5] 3) _ (aB e5)).trans e5) (i:=8) rfl)
      go_simp
      refine hK.out _ _ S6.out (fun hHeld3=>?_)
      clear hK K
      refine wpAnyH_ready (rs:=[6]) (by kernel_rfl) (by simp) ?_
      refine AllReadyH.cons rfl (fun K hK=>?_) AllReadyH.nil
      have O6:Hid ((w5.alloc (.cells #[.int .i64 x5] 3)).ownsRow W0.heap.size 3 1 (.slice qv j cv) j (ceI (evs ρ g (t.ks.take j)).1)):=l9 (aM OK.out F5.out (fun k e z=>bS OK.out MK.out.block (z ▸ e))) _
      refine bF rfl _ _ 44 rfl W0.heap.size 3 t0 (.int .i64 0) 1 8 wB TI.out.1 TI.out.2.1 TI.out.2.2.1 TI.out.2.2.2 rfl (by decide) (.slice qv j cv) j (ceI (evs ρ g (t.ks.take j)).1) (by simp [Act.eval]) O6.out ⟨w5.heap.size,0,none⟩ 1 1 [.int .i64 x5] (by simp [Act.eval]) rfl (cR w5 [.int .i64 x5] _) (by simp [Value.oneCell']) (by have:=LJ.out;unfold maxLen;omega) (by have:=LJ.out;omega) (i8 S5.out.1.size (by simp only [a7];omega)) ?_
      intro v' w6 hown' hgrow hblk
      obtain⟨g6,cap6,rfl⟩:=aL hown' (aAC _)
      have O7:=aD hown'
      have G6:=aD hgrow
      clear hown' hgrow hblk
      have S7:Hid (Fr (Wr2 bb bs) W0 w6/\BoxN w6 wr.heap.size u.f):=⟨S6.out.1.grownNew G6.out (fun k e=>(aH O6.out e).1),(G6.out.block _ (aB S6.out.2) (fun e=>by
       have:=(aH LP.out.own e.symm).2.1
       omega)).trans S6.out.2⟩
      have C7:Hid (w6.heap[bs]?=some (.cells (dE t.f c o (.slice qv j cv) (.func (.func 104) #[] #[bx bp])) 168 (0,0))):=(by
       have e5:=(F5.out.block _ (aB CB.out) (fun e=>NE.out.2 e.symm)).trans CB.out
       have e6:=(Below.heap_alloc w5 (.cells #[.int .i64 x5] 3) _ (aB e5)).trans e5
       exact(G6.out.block _ (aB e6) (fun e=>aP O6.out e6 (by decide) e.symm)).trans e6)
      have M7:Hid (MapV w6 (.int .i64 0) bb (n+szs (t.ks.take j)+u.sz) (fun i=>enI ((ev ρ (evs ρ g (t.ks.take j)).2 u).2 i))):=(by
       have m6:=M5.out.kept ((Below.refl _ _).alloc lz9 (.cells #[.int .i64 x5] 3))
       exact m6.same (G6.out.block _ m6.lt (fun e=>bS O6.out m6.block e.symm)))
      refine hK.out _ _ S7.out (fun hHeld4=>?_)
      clear hK K
      refine aCD (v:=?_) 7 ?_ ?_
      rotate_left
      ·intro wz hSw;obtain⟨q0,q1,q2,q3,q4,q5,q6⟩:=QC.out wz hSw;clear hSw;go_simp;try with_reducible rfl
      dsimp only [Act.put,f4,b6,b7]
      simp only [a8,g4,g3]
      refine wpAnyH_ready (rs:=[8]) (by kernel_rfl) (by simp) ?_
      refine AllReadyH.cons rfl (fun K hK=>?_) AllReadyH.nil
      have k7:w6.cell? ⟨bs,8,none⟩=some (.slice qv j cv):=aA C7.out (i:=8) rfl
      have fz:=aG C7.out 8
      go_simp
      have S8:Hid (Fr (Wr2 bb bs) W0 (w6.setCell ⟨bs,8,none⟩ (.slice (some ⟨g6,0,none⟩) (j+1) cap6))/\BoxN (w6.setCell ⟨bs,8,none⟩ (.slice (some ⟨g6,0,none⟩) (j+1) cap6)) wr.heap.size u.f):=⟨S7.out.1.setCell (p:=⟨bs,8,none⟩) (.inr rfl) _,(Below.heap_setCell _ _ _ _ (fun e=>NE3.out e)).trans S7.out.2⟩
      refine hK.out _ _ S8.out (fun hHeld5=>?_)
      clear hK K
      refine wpAnyH_done (by kernel_rfl) ?_ _
      have LQ:Hid (LpI ρ W0 (w6.setCell ⟨bs,8,none⟩ (.slice (some ⟨g6,0,none⟩) (j+1) cap6)) bb bs n t c o g (j+1) (.slice (some ⟨g6,0,none⟩) (j+1) cap6) (.func (.func 104) #[] #[bx bp])):=by
       obtain⟨ea,eb⟩:=dJ (ρ:=ρ) HU.out g
       refine⟨aO C7.out 8 _,?_,?_,S8.out.1⟩
       ·rw [ea,wZ,HX5.out]
        exact aM O7.out ((Fr.refl (fun k=>k=bs) w6).setCell (p:=⟨bs,8,none⟩) rfl _) (fun k e z=>aP O7.out C7.out (by decide) (z ▸ e))
       ·rw [eb,cC HU.out,<- aAI]
        exact M7.out.fr ((Fr.refl (fun k=>k=bs) w6).setCell (p:=⟨bs,8,none⟩) rfl _) (fun e=>by
         obtain⟨es,cl,hb⟩:=M7.out.block
         rw [e,C7.out] at hb
         cases hb)
      clear k7 fz
      go_wp2
      go_roundw
      case rel=>exact⟨j+1,_,by omega,by go_num,LQ.out⟩
      case measure=>simp only [intOf];omega
   ·have e0:¬ (j:Int) < (t.f.kl:Int):=by rw [HKL.out];omega
    obtain rfl:j=t.ks.length:=by omega
    have hk:t.ks.take t.ks.length=t.ks:=aAQ
    have XO:=aD (hk ▸ LP.out.own)
    have XM:=aD (hk ▸ LP.out.mp)
    have r0:wr.cell? ⟨br,0,none⟩=some (.func (.func 56) #[] #[]):=aA (HTW.out.ck CW.out).r (i:=0) rfl
    have s0:wr.cell? ⟨bs,0,none⟩=some (.int .i64 t.f.k):=aA LP.out.sc (i:=0) rfl
    have s1:wr.cell? ⟨bs,1,none⟩=some (.int .i64 t.f.n):=aA LP.out.sc (i:=1) rfl
    have s2:wr.cell? ⟨bs,2,none⟩=some (.int .i64 t.f.mn):=aA LP.out.sc (i:=2) rfl
    have s3:wr.cell? ⟨bs,3,none⟩=some (.int .i64 t.f.mx):=aA LP.out.sc (i:=3) rfl
    have s4:wr.cell? ⟨bs,4,none⟩=some (.slice t.f.rq t.f.rs.length t.f.rc):=aA LP.out.sc (i:=4) rfl
    have s5:wr.cell? ⟨bs,5,none⟩=some (.slice t.f.kq t.f.kl t.f.kc):=aA LP.out.sc (i:=5) rfl
    have s6:wr.cell? ⟨bs,6,none⟩=some (.bool c):=aA LP.out.sc (i:=6) rfl
    have s7:wr.cell? ⟨bs,7,none⟩=some (.bool o):=aA LP.out.sc (i:=7) rfl
    have s8:wr.cell? ⟨bs,8,none⟩=some (.slice qv t.ks.length cv):=aA LP.out.sc (i:=8) rfl
    have s9:wr.cell? ⟨bs,9,none⟩=some (.func (.func 104) #[] #[bx bp]):=aA LP.out.sc (i:=9) rfl
    clear hk
    obtain⟨gx,gy⟩:=eY HG.out t.ks g (fun u hu=>bI HNP.out hu) HGD.out
    have hC:=HR.out t (evs ρ g t.ks).1 (evs ρ g t.ks).2 wr (.slice qv t.ks.length cv) bp bb (n+szs t.ks) W0.heap.size (hglo CW.out HGW.out) ((bE t).1 HNP.out).1 (by have:=eM t.ks;have:=hkz.out;have:=HN.out;omega) ((HTA.out.ck CW.out).node) (gJ _ _) gx gy (by rw [gJ];exact XO.out) (HTW.out.ck CW.out).p XM.out
    simp only [dE,enI] at hC
    have HC:=aD hC
    clear hC gx gy
    have BN:Hid (BoxN wr w.heap.size t.f):=(LP.out.fr.block _ (aB N0.out) (fun z=>by
     rcases z with e | e
     ·obtain⟨es,cl,hb⟩:=MB.out
      rw [<- e,show W0.heap[w.heap.size]?=_ from N0.out] at hb
      cases hb
     ·have:=HBS.out.2.2;omega)).trans N0.out
    have hx:(ev ρ g t).1=ρ t.f t.ks (evs ρ g t.ks).1 (evs ρ g t.ks).2:=iV g t
    rw [<- hx] at HC
    have HS:=aD (jN (ρ:=ρ) g t)
    obtain⟨x,hxx⟩:∃ x,(ev ρ g t).1=x:=⟨_,rfl⟩
    rw [hxx] at HC HS
    have HX:=aD hxx
    clear hx hxx
    have FW:Hid (Fr (fun k=>k=bb) w wr):=sT HBS.out.1 B0.out LP.out.fr
    by_cases h7:t.f.k=7
    ·have h7b:(t.f.k==7)=true:=by simp [h7]
     have WF:Hid ((Lit.int .i64 t.f.n).wf=true):=HWF.out t ((bE t).1 HNP.out).1 h7
     rw [if_pos h7] at HS
     clear h7
     go_wp2_with first
      |(go_at_call 56;refine HC.out.mono ?_;rintro e w5 ⟨rfl,h5⟩;have B5:=aD h5;clear h5 s0 s1 s2 s3 s4 s5 s6 s7 s8 s9 r0;have N5:Hid (BoxN w5 w.heap.size t.f):=(B5.out.block _ (aB BN.out)).trans BN.out;have k0:w5.cell? ⟨w.heap.size,0,none⟩=some (.int .i64 t.f.k):=N5.out.six.1;have k1:w5.cell? ⟨w.heap.size,1,none⟩=some (.int .i64 t.f.n):=N5.out.six.2.1;have p0:w5.cell? ⟨bp,0,none⟩=some (.map (some bb)):=aA (((HTW.out.ck CW.out).ck (CK.of_below B5.out))).p (i:=0) rfl)
      |(at_mapUpdate;refine eU _ rfl _ _ _ 166 rfl 3 bI7 (.int .i64 0) bb (n+szs t.ks) (fun i=>enI ((evs ρ g t.ks).2 i)) rfl (XM.out.kept B5.out) (by have:=HN.out;have:=hkz.out;unfold maxLen;omega) t.f.n rfl WF.out (enI x) rfl ?_;intro w6 hm6 hg6;have M6:=aD hm6;have G6:=aD hg6;clear hm6 hg6)
     go_ret
     refine⟨by rw [HX.out];rfl,?_,(FW.out.then B5.out).grown G6.out (fun k e=>by injection e with e;exact e.symm)⟩
     rw [HS.out,<- rS,show n+t.sz=n+szs t.ks+1 by have:=hkz.out;omega]
     exact M6.out
    ·have h7b:(t.f.k==7)=false:=by simp [h7]
     rw [if_neg h7] at HS
     clear h7
     go_wp2_with first
      |(go_at_call 56;refine HC.out.mono ?_;rintro e w5 ⟨rfl,h5⟩;have B5:=aD h5;clear h5 s0 s1 s2 s3 s4 s5 s6 s7 s8 s9 r0;have N5:Hid (BoxN w5 w.heap.size t.f):=(B5.out.block _ (aB BN.out)).trans BN.out;have k0:w5.cell? ⟨w.heap.size,0,none⟩=some (.int .i64 t.f.k):=N5.out.six.1;have k1:w5.cell? ⟨w.heap.size,1,none⟩=some (.int .i64 t.f.n):=N5.out.six.2.1;have p0:w5.cell? ⟨bp,0,none⟩=some (.map (some bb)):=aA (((HTW.out.ck CW.out).ck (CK.of_below B5.out))).p (i:=0) rfl)
     go_ret
     refine⟨by rw [HX.out];rfl,?_,FW.out.then B5.out⟩
     rw [HS.out]
     exact(XM.out.kept B5.out).mono (by have:=hkz.out;omega)
end
section
open Go Go.RowKit Go.Shelf
def srt(zs:List Int):List Int:=zs.mergeSort fun x y=>decide (x<=y)
theorem qZ(zs:List Int):(srt zs).length=zs.length:=List.length_mergeSort zs
abbrev tG(base:Nat)(w:World)(q:Option Addr)(c:Nat)(zs:List Int):Prop:=w.ownsRow base 3 1 (.slice q zs.length c) zs.length (zs.map (Value.int .i64))
theorem oT(w:World)(r:Option Nat):w.grownBy w r:=⟨rfl,rfl,rfl,n8 _,fun _ _ _=>rfl⟩
theorem aT2{w:World}{base:Nat}{q:Option Addr}{c:Nat}{zs:List Int}(h:tG base w q c zs)(hl:zs.length<=2000) :
  Calls Tryz.prog 102 #[.slice q zs.length c] w fun e w'=>e=.returned (.tuple #[])/\tG base w' q c (srt zs)/\w.grownBy w' (Value.slice q zs.length c).ownBlock:=by
 rcases h.2 with⟨h1,h2⟩ | ⟨g,cap,cur,h1,h2,h3,h4,h5,h6,h7⟩
 ·have hz:zs=[]:=List.length_eq_zero_iff.1 h2
  subst hz
  injection h1 with a b d
  subst a d
  refine(Tryz.slices_Sort_int_none none 0 w).mono ?_
  rintro e w' ⟨rfl,rfl⟩
  exact⟨rfl,by rw [show srt []=[] by simp [srt]];exact h,oT _ _⟩
 ·injection h1 with a b d
  subst a d
  have hH:=holds_of_blockI (ss:=zs) h3 (by rw [Nat.mul_one] at h7;exact h7)
  refine(Tryz.slices_Sort_int g 0 c zs w hH (aB h3) (by omega)).mono ?_
  rintro e w' ⟨rfl,n,os,rfl⟩
  refine⟨rfl,?_,grownBy_sortedI _⟩
  have:=ownsRow_sortedI (n:=n) (os:=os) (ts:=srt zs) (qZ zs) h2 h3 h4 h5 h6
  unfold tG
  rw [qZ]
  exact this
theorem zR{w:World}{base:Nat}{q:Option Addr}{c:Nat}{zs:List Int}(h:tG base w q c zs)(hl:zs.length<=2000) :
  Calls Tryz.prog 103 #[.slice q zs.length c] w fun e w'=>e=.returned (.slice q (Lib.compact zs).length c)/\tG base w' q c (Lib.compact zs)/\w.grownBy w' (Value.slice q zs.length c).ownBlock:=by
 have hcl:=Lib.compact_length_le zs
 rcases h.2 with⟨h1,h2⟩ | ⟨g,cap,cur,h1,h2,h3,h4,h5,h6,h7⟩
 ·have hz:zs=[]:=List.length_eq_zero_iff.1 h2
  subst hz
  injection h1 with a b d
  subst a d
  have e0:Lib.compact ([]:List Int)=[]:=List.length_eq_zero_iff.1 (by simpa using hcl)
  refine(Tryz.slices_Compact_int_empty none 0 w).mono ?_
  rintro e w' ⟨rfl,rfl⟩
  exact⟨by rw [e0];rfl,by rw [e0];exact h,oT _ _⟩
 ·injection h1 with a b d
  subst a d
  have hH:=holds_of_blockI (ss:=zs) h3 (by rw [Nat.mul_one] at h7;exact h7)
  refine(Tryz.slices_Compact_int g 0 c zs w hH (by omega) h4).mono ?_
  rintro e w' ⟨rfl,n,rfl⟩
  have he:(Lib.compact zs ++ List.replicate (zs.length - (Lib.compact zs).length) 0).length=zs.length:=by simp;omega
  refine⟨rfl,?_,?_⟩
  ·have hb:=heap_sortedI (n:=n) (os:=#[]) (Lib.compact zs ++ List.replicate (zs.length - (Lib.compact zs).length) 0).toArray h3
   rw [Go.Sort.grow_empty] at hb
   have ht:=take_putCellsI cur (Lib.compact zs ++ List.replicate (zs.length - (Lib.compact zs).length) 0) (by rw [he,h6];omega)
   refine⟨by simp,.inr ⟨g,c,_,rfl,h2,hb,by omega,h5,by simp [Go.Sort.putCells,h6],?_⟩⟩
   rw [Nat.mul_one]
   have:=congrArg (List.take (Lib.compact zs).length) ht
   rw [List.take_take,he,Nat.min_eq_left hcl] at this
   rw [this,<- List.map_take,List.take_left]
  ·have:=grownBy_sortedI (w:=w) (g:=g) (n:=n) (os:=#[]) (Lib.compact zs ++ List.replicate (zs.length - (Lib.compact zs).length) 0).toArray
   rw [Go.Sort.grow_empty] at this
   exact this
end
section
attribute [local go_sem] bB
def eW(pk:Int)(seen:Int)(kl:Nat)(k:Int):Bool:=
 if pk=5 then cK k ||(k==3 && seen==0) ||(k==4 && seen==(kl:Int) - 1)
 else if pk=9 then cK k
 else if pk=6 then eX k && k != 6
 else eX k
theorem aE7{w:World}{b:Nat}{c f:Bool}{ah gr:Int}{A:Nat->eC}(h:CB w b c f ah gr A){d:Nat}(hd:d < 41)(k:Int)(hkl:(A d).f.kl<=9223372036854775807) :
  Calls Tryz.prog 131 #[.pointer (some ⟨b,0,none⟩),.int .i64 ((d:Int)+1),.int .i64 k] w fun e w'=>e=.returned (.bool (eW (A d).f.k (A d).s (A d).f.kl k))/\Below w.heap.size w w':=by
 obtain⟨⟨k0,k1,k2,k3,k4,k5⟩,k6⟩:=h.sp d hd
 have hlt:=h.lt
 have e1:((d:Int)+1) - 1=(d:Int):=by omega
 have e2:(d:Int) < 41:=by omega
 have B1:Hid (Below w.heap.size w (w.alloc (.cells #[.int .i64 (A d).f.k,.int .i64 (A d).f.n,.int .i64 (A d).f.mn,.int .i64 (A d).f.mx,.slice (A d).f.rq (A d).f.rs.length (A d).f.rc,.slice (A d).f.kq (A d).f.kl (A d).f.kc,.int .i64 (A d).s] 156))):=bz9
 have N1:=aE w (.cells #[.int .i64 (A d).f.k,.int .i64 (A d).f.n,.int .i64 (A d).f.mn,.int .i64 (A d).f.mx,.slice (A d).f.rq (A d).f.rs.length (A d).f.rc,.slice (A d).f.kq (A d).f.kl (A d).f.kc,.int .i64 (A d).s] 156)
 obtain⟨r,hr⟩:∃ r,eW (A d).f.k (A d).s (A d).f.kl k=r:=⟨_,rfl⟩
 rw [hr]
 have HR:=aD hr
 clear hr
 go_enter Tryz.func131,Tryz.ntmps131
 go_upto_region 2 with fail
 have m0:(w.alloc (.cells #[.int .i64 (A d).f.k,.int .i64 (A d).f.n,.int .i64 (A d).f.mn,.int .i64 (A d).f.mx,.slice (A d).f.rq (A d).f.rs.length (A d).f.rc,.slice (A d).f.kq (A d).f.kl (A d).f.kc,.int .i64 (A d).s] 156)).cell? ⟨w.heap.size,0,none⟩=some (.int .i64 (A d).f.k):=aA N1 (i:=0) rfl
 have m5:(w.alloc (.cells #[.int .i64 (A d).f.k,.int .i64 (A d).f.n,.int .i64 (A d).f.mn,.int .i64 (A d).f.mx,.slice (A d).f.rq (A d).f.rs.length (A d).f.rc,.slice (A d).f.kq (A d).f.kl (A d).f.kc,.int .i64 (A d).s] 156)).cell? ⟨w.heap.size,5,none⟩=some (.slice (A d).f.kq (A d).f.kl (A d).f.kc):=aA N1 (i:=5) rfl
 have m6:(w.alloc (.cells #[.int .i64 (A d).f.k,.int .i64 (A d).f.n,.int .i64 (A d).f.mn,.int .i64 (A d).f.mx,.slice (A d).f.rq (A d).f.rs.length (A d).f.rc,.slice (A d).f.kq (A d).f.kl (A d).f.kc,.int .i64 (A d).s] 156)).cell? ⟨w.heap.size,6,none⟩=some (.int .i64 (A d).s):=aA N1 (i:=6) rfl
 have hlw:=aB N1
 generalize (w.alloc (.cells #[.int .i64 (A d).f.k,.int .i64 (A d).f.n,.int .i64 (A d).f.mn,.int .i64 (A d).f.mx,.slice (A d).f.rq (A d).f.rs.length (A d).f.rc,.slice (A d).f.kq (A d).f.kl (A d).f.kc,.int .i64 (A d).s] 156))=W1 at B1 m0 m5 m6 hlw ⊢
 clear N1 k0 k1 k2 k3 k4 k5 k6 hlt e1 e2 h hd
 generalize (A d).f.k=pk at m0 HR ⊢
 generalize (A d).f.kl=kl at m5 HR hkl ⊢
 generalize (A d).s=se at m6 HR ⊢
 cases h5:(pk==5) with
 | true=>
  obtain rfl:pk=5:=by simpa using h5
  go_upto_region 4 with fail
  refine wx9 ?_
  repeat (go_big_quiet_step (first | exact rfl))
  refine wpQuiet_nil ?_
  intro w2 hw
  have B2:Hid (Below w.heap.size w w2):=aJ B1.out (aQ hw) lz9
  clear hw B1
  have RR0:r=(cK k ||(k==3 && se==0) ||(k==4 && se==(kl:Int) - 1)):=by rw [<- HR.out];simp [eW]
  have HK:=aD (qM k)
  obtain⟨tb,htb⟩:∃ tb,cK k=tb:=⟨_,rfl⟩
  rw [htb] at HK RR0
  obtain⟨b1,hb1⟩:∃ b1,(se==0)=b1:=⟨_,rfl⟩
  obtain⟨b2,hb2⟩:∃ b2,(se==(kl:Int) - 1)=b2:=⟨_,rfl⟩
  rw [hb1,hb2] at RR0
  rw [hb1,hb2]
  have RRX:=aD RR0
  clear htb hb1 hb2 m0 m5 m6 RR0
  cases tb
  ·cases h3:(k==3)
   ·cases h4:(k==4)
    ·go_wp2_with (go_at_call 158;(with_reducible refine(HK.out _).mono ?_);rintro e w5 ⟨rfl,h5⟩;subst w5)
     go_ret
     exact⟨by rw [RRX.out,h3,h4];rfl,B2.out⟩
    ·go_wp2_with (go_at_call 158;(with_reducible refine(HK.out _).mono ?_);rintro e w5 ⟨rfl,h5⟩;subst w5)
     go_ret
     exact⟨by rw [RRX.out,h3,h4];simp,B2.out⟩
   ·obtain rfl:k=3:=by simpa using h3
    cases b1
    all_goals
     go_wp2_with (go_at_call 158;(with_reducible refine(HK.out _).mono ?_);rintro e w5 ⟨rfl,h5⟩;subst w5)
     go_ret
     exact⟨by rw [RRX.out];rfl,B2.out⟩
  ·go_wp2_with (go_at_call 158;(with_reducible refine(HK.out _).mono ?_);rintro e w5 ⟨rfl,h5⟩;subst w5)
   go_ret
   exact⟨by rw [RRX.out];rfl,B2.out⟩
 | false=>
  cases h9:(pk==9) with
  | true=>
   obtain rfl:pk=9:=by simpa using h9
   go_wp2_with (go_at_call 158;(with_reducible refine(qM _ _).mono ?_);rintro e w5 ⟨rfl,h5⟩;subst w5)
   go_ret
   exact⟨by rw [<- HR.out];simp [eW],B1.out⟩
  | false=>
   cases h6:(pk==6) with
   | true=>
    obtain rfl:pk=6:=by simpa using h6
    obtain⟨kb,hkb⟩:∃ kb,eX k=kb:=⟨_,rfl⟩
    have HK:=aD (zE k)
    rw [hkb] at HK
    have R2:r=(kb && k != 6):=by rw [<- HR.out,<- hkb];simp [eW]
    clear hkb
    cases kb with
    | true=>
     go_wp2_with (go_at_call 159;(with_reducible refine(HK.out _).mono ?_);rintro e w5 ⟨rfl,h5⟩;subst w5)
     go_ret
     exact⟨by rw [R2,aCC];rfl,B1.out⟩
    | false=>
     go_wp2_with (go_at_call 159;(with_reducible refine(HK.out _).mono ?_);rintro e w5 ⟨rfl,h5⟩;subst w5)
     go_ret
     exact⟨by rw [R2,Bool.false_and];rfl,B1.out⟩
   | false=>
    have R2:eX k=r:=by rw [<- HR.out];simp at h5 h9 h6;simp [eW,h5,h9,h6]
    go_wp2_with (go_at_call 159;(with_reducible refine(zE _ _).mono ?_);rintro e w5 ⟨rfl,h5⟩;subst w5)
    go_ret
    exact⟨by rw [<- R2];rfl,B1.out⟩
end
section
attribute [local go_sem] bB
def inB(A:Nat->eC)(d:Nat)(num:Int):Bool:=(List.range d).any fun i=>(A i).f.k==7 && (A i).f.n==num
theorem oS(A:Nat->eC)(d:Nat)(num:Int):inB A (d+1) num=(inB A d num ||((A d).f.k==7 && (A d).f.n==num)):=by
 unfold inB
 rw [List.range_succ,List.any_append]
 simp
theorem bM1{A:Nat->eC}{d e:Nat}{num:Int}(h:inB A d num=true)(hde:d<=e):inB A e num=true:=by
 unfold inB at *
 rw [List.any_eq_true] at *
 obtain⟨x,hx,h⟩:=h
 exact⟨x,by rw [List.mem_range] at *;omega,h⟩
theorem aF0{w:World}{b:Nat}{c f:Bool}{ah gr:Int}{A:Nat->eC}(h:CB w b c f ah gr A){d:Nat}(hd:d<=41)(num:Int) :
  Calls Tryz.prog 134 #[.pointer (some ⟨b,0,none⟩),.int .i64 (d:Int),.int .i64 num] w fun e w'=>e=.returned (.bool (!inB A d num && decide (num<=gr)))/\Below w.heap.size w w':=by
 have H:=aD h
 have hlt:=h.lt
 have e2:(d:Int)<=41:=by omega
 obtain⟨r,hr⟩:∃ r,(!inB A d num && decide (num<=gr))=r:=⟨_,rfl⟩
 rw [hr]
 have HR:=aD hr
 clear h hr
 go_enter Tryz.func134,Tryz.ntmps134
 go_wp2
 go_loopw [15] (fun i wr=>∃ j:Nat,j<=d/\i=.int .i64 (j:Int)/\inB A j num=false/\Below w.heap.size w wr) (fun i _=>d - (intOf i).toNat)
 case atStart=>exact⟨0,m9 _,rfl,rfl,Below.refl _ _⟩
 case round=>
  obtain⟨j,hj,rfl,hin,hb⟩:=hrel
  have HI:=aD hin
  have HB:=aD hb
  have H1:Hid (CB wr b c f ah gr A):=H.out.kept hb
  clear hin hb hlt
  have hlt:=H1.out.lt
  by_cases hjl:j < d
  ·have e0:(j:Int) < (d:Int):=by omega
   obtain⟨⟨k0,k1,k2,k3,k4,k5⟩,k6⟩:=H1.out.sp j (by omega)
   have B2:Hid (Below w.heap.size w (wr.alloc (.cells #[.int .i64 (A j).f.k,.int .i64 (A j).f.n,.int .i64 (A j).f.mn,.int .i64 (A j).f.mx,.slice (A j).f.rq (A j).f.rs.length (A j).f.rc,.slice (A j).f.kq (A j).f.kl (A j).f.kc,.int .i64 (A j).s] 156))):=HB.out.alloc HB.out.size _
   have N2:=aE wr (.cells #[.int .i64 (A j).f.k,.int .i64 (A j).f.n,.int .i64 (A j).f.mn,.int .i64 (A j).f.mx,.slice (A j).f.rq (A j).f.rs.length (A j).f.rc,.slice (A j).f.kq (A j).f.kl (A j).f.kc,.int .i64 (A j).s] 156)
   have m0:(wr.alloc (.cells #[.int .i64 (A j).f.k,.int .i64 (A j).f.n,.int .i64 (A j).f.mn,.int .i64 (A j).f.mx,.slice (A j).f.rq (A j).f.rs.length (A j).f.rc,.slice (A j).f.kq (A j).f.kl (A j).f.kc,.int .i64 (A j).s] 156)).cell? ⟨wr.heap.size,0,none⟩=some (.int .i64 (A j).f.k):=aA N2 (i:=0) rfl
   have m1:(wr.alloc (.cells #[.int .i64 (A j).f.k,.int .i64 (A j).f.n,.int .i64 (A j).f.mn,.int .i64 (A j).f.mx,.slice (A j).f.rq (A j).f.rs.length (A j).f.rc,.slice (A j).f.kq (A j).f.kl (A j).f.kc,.int .i64 (A j).s] 156)).cell? ⟨wr.heap.size,1,none⟩=some (.int .i64 (A j).f.n):=aA N2 (i:=1) rfl
   have HS:=aD (oS A j num)
   clear N2
   go_upto_region 4 with fail
   generalize (wr.alloc (.cells #[.int .i64 (A j).f.k,.int .i64 (A j).f.n,.int .i64 (A j).f.mn,.int .i64 (A j).f.mx,.slice (A j).f.rq (A j).f.rs.length (A j).f.rc,.slice (A j).f.kq (A j).f.kl (A j).f.kc,.int .i64 (A j).s] 156))=W2 at B2 m0 m1 ⊢
   cases h7:((A j).f.k==7)
   ·have HN:Hid (inB A (j+1) num=false):=(by rw [HS.out,HI.out,h7];rfl)
    clear HS
    go_wp2
    go_roundw
    case rel=>exact⟨j+1,by omega,by go_num,HN.out,B2.out⟩
    case measure=>simp only [intOf];omega
   ·cases hn:((A j).f.n==num)
    ·have HN:Hid (inB A (j+1) num=false):=(by rw [HS.out,HI.out,h7,hn];rfl)
     clear HS
     go_wp2
     go_roundw
     case rel=>exact⟨j+1,by omega,by go_num,HN.out,B2.out⟩
     case measure=>simp only [intOf];omega
    ·have HN:Hid (inB A d num=true):=bM1 (d:=j+1) (by rw [HS.out,HI.out,h7,hn];rfl) (by omega)
     clear HS
     go_wp2
     go_ret
     exact⟨by rw [<- HR.out,HN.out];rfl,B2.out⟩
  ·have e0:¬ (j:Int) < (d:Int):=by omega
   obtain rfl:j=d:=by omega
   have k3:=H1.out.c3
   go_wp2
   go_ret
   exact⟨by rw [<- HR.out,HI.out];rfl,HB.out⟩
theorem CB.frz{W:World}{b:Nat}{c f:Bool}{ah gr:Int}{A:Nat->eC}(h:CB W b c f ah gr A)(j:Nat):W.frozen? ⟨b,j,none⟩=false:=by
 obtain⟨cur,hc⟩:=h.blk
 exact aG hc j
theorem rF{W:World}{k b j:Nat}{f:Fl}{u:Value}(h:BoxN W k f)(hk:k≠b):BoxN (W.setCell ⟨b,j,none⟩ u) k f:=(((Fr.refl (fun z=>z=b) W).setCell (p:=⟨b,j,none⟩) rfl u).block _ (aB h) hk).trans h
theorem wU{w:World}{b:Nat}{c f:Bool}{ah gr:Int}{A:Nat->eC}(h:CB w b c f ah gr A){d:Nat}(hd:d+1 < 41)(x:Fl)(ha:0<=ah/\ah<=1000000)(hg:0<=gr/\gr<=1000000)(hs:0<=(A d).s/\(A d).s<=1000000) :
  Calls Tryz.prog 135 #[.pointer (some ⟨b,0,none⟩),.int .i64 ((d:Int)+1),.agg #[.int .i64 x.k,.int .i64 x.n,.int .i64 x.mn,.int .i64 x.mx,.slice x.rq x.rs.length x.rc,.slice x.kq x.kl x.kc]] w fun e w'=>e=.returned (.tuple #[])/\CB w' b c f (ah+1) (gr+(if x.k=7 then 1 else 0)) (pQ (pQ A d ⟨(A d).f,(A d).s+1⟩) (d+1) ⟨x,0⟩)/\Fr (fun z=>z=b) w w':=by
 have H:=aD h
 have hlt:=h.lt
 have B1:Hid (Below w.heap.size w (w.alloc (.cells #[.int .i64 x.k,.int .i64 x.n,.int .i64 x.mn,.int .i64 x.mx,.slice x.rq x.rs.length x.rc,.slice x.kq x.kl x.kc] 25))):=bz9
 have N1:Hid (BoxN (w.alloc (.cells #[.int .i64 x.k,.int .i64 x.n,.int .i64 x.mn,.int .i64 x.mx,.slice x.rq x.rs.length x.rc,.slice x.kq x.kl x.kc] 25)) w.heap.size x):=aE w _
 have H1:Hid (CB (w.alloc (.cells #[.int .i64 x.k,.int .i64 x.n,.int .i64 x.mn,.int .i64 x.mx,.slice x.rq x.rs.length x.rc,.slice x.kq x.kl x.kc] 25)) b c f ah gr A):=h.kept B1.out
 have F1:Hid (Fr (fun z=>z=b) w (w.alloc (.cells #[.int .i64 x.k,.int .i64 x.n,.int .i64 x.mn,.int .i64 x.mx,.slice x.rq x.rs.length x.rc,.slice x.kq x.kl x.kc] 25))):=Fr.of_below B1.out
 have hne:w.heap.size≠b:=by omega
 clear h H
 obtain⟨g2,hg2⟩:∃ g2,gr+(if x.k=7 then 1 else 0)=g2:=⟨_,rfl⟩
 rw [hg2]
 have HG:=aD hg2
 clear hg2
 go_enter Tryz.func135,Tryz.ntmps135
 go_upto_region 1 with fail
 generalize (w.alloc (.cells #[.int .i64 x.k,.int .i64 x.n,.int .i64 x.mn,.int .i64 x.mx,.slice x.rq x.rs.length x.rc,.slice x.kq x.kl x.kc] 25))=w1 at B1 N1 H1 F1 ⊢
 have c2:=H1.out.c2
 have f2:=H1.out.frz 2
 have lb:=H1.out.lt
 have H2:Hid (CB (w1.setCell ⟨b,2,none⟩ (.int .i64 (ah+1))) b c f (ah+1) gr A):=H1.out.setAh _
 have N2:Hid (BoxN (w1.setCell ⟨b,2,none⟩ (.int .i64 (ah+1))) w.heap.size x):=rF N1.out hne
 have F2:Hid (Fr (fun z=>z=b) w (w1.setCell ⟨b,2,none⟩ (.int .i64 (ah+1)))):=F1.out.setCell (p:=⟨b,2,none⟩) rfl _
 clear B1 N1 H1 F1
 go_upto_region 2 with fail
 generalize (w1.setCell ⟨b,2,none⟩ (.int .i64 (ah+1)))=w2 at H2 N2 F2 ⊢
 clear c2 f2 lb hlt
 obtain⟨c0,-⟩:=N2.out.six
 have c3:=H2.out.c3
 have f3:=H2.out.frz 3
 have lb:=H2.out.lt
 have e1:((d:Int)+1) - 1=(d:Int):=by omega
 have e2:(d:Int) < 41:=by omega
 have e3:(d:Int)+1 < 41:=by omega
 by_cases hk:x.k=7
 ·have hkb:(x.k==7)=true:=by simpa using hk
  have E2:=HG.out
  rw [if_pos hk] at E2
  subst E2
  have H3:Hid (CB (w2.setCell ⟨b,3,none⟩ (.int .i64 (gr+1))) b c f (ah+1) (gr+1) A):=H2.out.setGr _
  have N3:Hid (BoxN (w2.setCell ⟨b,3,none⟩ (.int .i64 (gr+1))) w.heap.size x):=rF N2.out hne
  have F3:Hid (Fr (fun z=>z=b) w (w2.setCell ⟨b,3,none⟩ (.int .i64 (gr+1)))):=F2.out.setCell (p:=⟨b,3,none⟩) rfl _
  clear H2 N2 F2 hk
  go_upto_region 4 with fail
  generalize (w2.setCell ⟨b,3,none⟩ (.int .i64 (gr+1)))=w3 at H3 N3 F3 ⊢
  clear c0 c3 f3 lb
  have p6:=(H3.out.sp d (by omega)).2
  have lb:=H3.out.lt
  have f6:=H3.out.frz (4+d * 7+6)
  have H5:=aD ((H3.out.setSeen (d:=d) (by omega) ((A d).s+1)).kept ((Below.refl _ _).drew))
  have N5:Hid (BoxN (w3.setCell ⟨b,4+d * 7+6,none⟩ (.int .i64 ((A d).s+1))).drew w.heap.size x):=rF N3.out hne
  have F5:Hid (Fr (fun z=>z=b) w (w3.setCell ⟨b,4+d * 7+6,none⟩ (.int .i64 ((A d).s+1))).drew):=(F3.out.setCell (p:=⟨b,4+d * 7+6,none⟩) rfl _).trans (Fr.of_below ((Below.refl _ _).drew))
  clear H3 N3 F3
  go_region
  go_upto_region 5 with fail
  generalize (w3.setCell ⟨b,4+d * 7+6,none⟩ (.int .i64 ((A d).s+1))).drew=w5 at H5 N5 F5 ⊢
  clear p6 f6 lb
  have lb:=H5.out.lt
  have ln:=aB N5.out
  obtain⟨n0,n1,n2,n3,n4,n5⟩:=N5.out.six
  simp only [g8] at n1 n2 n3 n4 n5
  have fr:=fun j=>H5.out.frz j
  obtain⟨⟨q0,q1,q2,q3,q4,q5⟩,q6⟩:=H5.out.sp (d+1) (by omega)
  have H7:=aD ((H5.out.setSpot (d:=d+1) (by omega) ⟨x,0⟩).kept ((Below.refl _ _).drew))
  have F7:Hid (Fr (fun z=>z=b) w (lR w5 b (4+(d+1) * 7) ⟨x,0⟩).drew):=(F5.out.trans (aI7 _ _ _ _)).trans (Fr.of_below ((Below.refl _ _).drew))
  unfold lR at H7 F7
  clear H5 F5
  go_region
  go_wp2
  go_end0
  exact⟨rfl,H7.out,F7.out⟩
 ·have hkb:(x.k==7)=false:=by simpa using hk
  have E2:=HG.out
  rw [if_neg hk,Int.add_zero] at E2
  subst E2
  have H3:=H2
  have N3:=N2
  have F3:=F2
  clear H2 N2 F2 hk
  go_upto_region 4 with fail
  clear c0 c3 f3 lb
  have p6:=(H3.out.sp d (by omega)).2
  have lb:=H3.out.lt
  have f6:=H3.out.frz (4+d * 7+6)
  have H5:=aD ((H3.out.setSeen (d:=d) (by omega) ((A d).s+1)).kept ((Below.refl _ _).drew))
  have N5:Hid (BoxN (w2.setCell ⟨b,4+d * 7+6,none⟩ (.int .i64 ((A d).s+1))).drew w.heap.size x):=rF N3.out hne
  have F5:Hid (Fr (fun z=>z=b) w (w2.setCell ⟨b,4+d * 7+6,none⟩ (.int .i64 ((A d).s+1))).drew):=(F3.out.setCell (p:=⟨b,4+d * 7+6,none⟩) rfl _).trans (Fr.of_below ((Below.refl _ _).drew))
  clear H3 N3 F3
  go_region
  go_upto_region 5 with fail
  generalize (w2.setCell ⟨b,4+d * 7+6,none⟩ (.int .i64 ((A d).s+1))).drew=w5 at H5 N5 F5 ⊢
  clear p6 f6 lb
  have lb:=H5.out.lt
  have ln:=aB N5.out
  obtain⟨n0,n1,n2,n3,n4,n5⟩:=N5.out.six
  simp only [g8] at n1 n2 n3 n4 n5
  have fr:=fun j=>H5.out.frz j
  obtain⟨⟨q0,q1,q2,q3,q4,q5⟩,q6⟩:=H5.out.sp (d+1) (by omega)
  have H7:=aD ((H5.out.setSpot (d:=d+1) (by omega) ⟨x,0⟩).kept ((Below.refl _ _).drew))
  have F7:Hid (Fr (fun z=>z=b) w (lR w5 b (4+(d+1) * 7) ⟨x,0⟩).drew):=(F5.out.trans (aI7 _ _ _ _)).trans (Fr.of_below ((Below.refl _ _).drew))
  unfold lR at H7 F7
  clear H5 F5
  go_region
  go_wp2
  go_end0
  exact⟨rfl,H7.out,F7.out⟩
end
end Go.Proofs.YtlaimbkenbijeaaGreatDoor
