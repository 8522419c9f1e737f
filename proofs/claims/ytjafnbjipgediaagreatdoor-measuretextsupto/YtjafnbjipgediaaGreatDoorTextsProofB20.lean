/-
  Parts of the proof.
-/
import Derived.Test.YtjafnbjipgediaaGreatDoorTextsProofB3
import Derived.Deep.RegionHeld
import Derived.Laws.EntriesVeiled
import Derived.Test.YtjafnbjipgediaaGreatDoorTextsProofB17
import Derived.Test.YtjafnbjipgediaaGreatDoorTextsProofB18
set_option maxRecDepth 100000
set_option maxHeartbeats 8000000
namespace Go.Proofs.YtjafnbjipgediaaGreatDoor
open Go Go.RowKit
section
attribute [local go_sem] Oper.semAt_some
abbrev TWA:=TW 80 81 43 128 129 74 127
def enA(x:Bool × Bool):Value:=.agg #[.bool x.1,.bool x.2]
def ceA(xs:List (Bool × Bool)):List Value:=xs.flatMap fun x=>[.bool x.1,.bool x.2]
theorem xA(xs:List (Bool × Bool))(x:Bool × Bool):ceA (xs ++ [x])=ceA xs ++ [.bool x.1,.bool x.2]:=by simp [ceA]
theorem aC7:Tryz.prog.underlying 130=some (.slice 72):=by kernel_rfl
theorem bI8:Tryz.prog.underlying 127=some (.map 3 72):=by kernel_rfl
theorem bK3:(Tryz.prog.info? 72).map (fun i=>(i.zero,i.size,i.bytes))=some (some (.agg #[.bool false,.bool false]),2,2):=by kernel_rfl
def RuA(Glo:World->Prop)(NP:Tr->Prop)(Good:Bool × Bool->Prop)(ρ:dH (Bool × Bool))(c o:Bool):Prop:=
 ∀ (t:Tr) (xs:List (Bool × Bool)) (g:Int->Bool × Bool) (W:World) (v:Value) (bp bb n base:Nat),Glo W->NP t->t.ks.length<=1000000->NB W t->xs.length=t.ks.length->(∀ x∈xs,Good x)->(∀ i,Good (g i))->W.ownsRow base 72 2 v xs.length (ceA xs) ->
  W.heap[bp]?=some (.cells #[.map (some bb)] 127 (0,0))->MapV W (.agg #[.bool false,.bool false]) bb n (fun i=>enA (g i)) ->
  Calls Tryz.prog 43 #[.agg (dE t.f c o v (.func (.func 80) #[] #[bx bp]))] W fun e w'=>e=.returned (enA (ρ t.f t.ks xs g))/\Below W.heap.size W w'
def OfA(ρ:dH (Bool × Bool))(w:World)(bb n:Nat)(t:Tr)(g:Int->Bool × Bool)(e:Ending)(w':World):Prop:=
 e=.returned (enA (ev ρ g t).1)/\MapV w' (.agg #[.bool false,.bool false]) bb (n+t.sz) (fun i=>enA ((ev ρ g t).2 i))/\Fr (fun k=>k=bb) w w'
theorem aI2{R:Ending->World->Prop}{a:Act}{W:World}{b:Nat}{x:Bool × Bool}(h:W.heap[b]?=some (.cells #[.bool x.1,.bool x.2] 72 (0,0)))(ha:a.tmps[7]?.getD undef=.pointer (some ⟨b,0,none⟩))(hd:a.defers=[])(hR:R (.returned (enA x)) W):bodyPost Tryz.prog Tryz.f81 R .ret a W:=by
 refine bodyPost_ret (v:=enA x) ?_ hd hR
 have z0:=aA h (i:=0) rfl;have z1:=aA h (i:=1) rfl
 simp [results,Tryz.results81,go_sem,ha,enA,z0,z1]
structure LpA(ρ:dH (Bool × Bool))(W0 wr:World)(b s n:Nat)(t:Tr)(c o:Bool)(g:Int->Bool × Bool)(j:Nat)(v gv:Value):Prop where
 sc:wr.heap[s]?=some (.cells (dE t.f c o v gv) 132 (0,0))
 own:wr.ownsRow W0.heap.size 72 2 v j (ceA (evs ρ g (t.ks.take j)).1)
 mp:MapV wr (.agg #[.bool false,.bool false]) b (n+szs (t.ks.take j)) (fun i=>enA ((evs ρ g (t.ks.take j)).2 i))
 fr:Fr (Wr2 b s) W0 wr
theorem bP6{Glo:World->Prop}(hglo:∀ {A B:World},CK A B->Glo A->Glo B){NP:Tr->Prop}{Good:Bool × Bool->Prop}{ρ:dH (Bool × Bool)}{c o:Bool}(hr:RuA Glo NP Good ρ c o)(hwf:∀ t,NP t->t.f.k=7->(Lit.int .i64 t.f.n).wf=true)(hg:∀ t xs g,NP t->xs.length=t.ks.length->(∀ x∈xs,Good x)->(∀ i,Good (g i))->Good (ρ t.f t.ks xs g))(bm bg bo br bp bb:Nat) :
  ∀ (m:Nat) (t:Tr) (w:World) (n:Nat) (g:Int->Bool × Bool),t.sz<=m->n+t.sz<=1000000->Glo w->TB w t->bY NP t->(∀ i,Good (g i))->TWA w bm bg bo br bp bb c o->MapV w (.agg #[.bool false,.bool false]) bb n (fun i=>enA (g i)) ->
   Calls Tryz.prog 81 #[.agg #[.int .i64 t.f.k,.int .i64 t.f.n,.int .i64 t.f.mn,.int .i64 t.f.mx,.slice t.f.rq t.f.rs.length t.f.rc,.slice t.f.kq t.f.kl t.f.kc],bx bm,bx bg,bx bo,bx br,bx bp] w (OfA ρ w bb n t g):=by
 intro m
 induction m with
 | zero=>intro t w n g hm;exact absurd (eV t) (by omega)
 | succ m ih=>
  intro t w n g hm hn hgw hta hnp hgd htw hmp
  have HGW:=aD hgw
  clear hgw
  obtain⟨t0,ti,hz0,hz1,hz2⟩:=bH bK3
  have TI:Hid (Tryz.prog.info? 72=some t0/\t0.zero=some (.agg #[.bool false,.bool false])/\t0.size=2/\t0.bytes=2):=⟨ti,hz0,hz1,hz2⟩
  clear ti hz0 hz1 hz2
  have HTA:=aD hta
  have HTW:=aD htw
  obtain⟨q,cap,hkv,hk1,hk2,hk3⟩:=hta.node.k.slice
  injection hkv with hkq hkl hkc
  subst hkq
  have HKL:=aD hkl
  have HK3:=aD hk3
  have hkm:t.ks.length<=9223372036854775807:=hk1
  have hkz:=aD (show szs t.ks+1=t.sz from (jG t).symm)
  clear hkl hkc hk3 hk1
  have m0:w.cell? ⟨bm,0,none⟩=some (.bool c):=aA htw.m (i:=0) rfl
  have m1:w.cell? ⟨bm,1,none⟩=some (.bool o):=aA htw.m (i:=1) rfl
  obtain⟨gv,hgv⟩:∃ gv,Value.func (.func 80) #[] #[bx bp]=gv:=⟨_,rfl⟩
  have g0:w.cell? ⟨bg,0,none⟩=some (.func (.func 80) #[] #[bx bp]):=aA htw.g (i:=0) rfl
  have l1:=aB htw.m
  have l2:=aB htw.g
  have IH:=aD ih
  have HR:=aD hr
  have HWF:=aD hwf
  have HG:=aD hg
  have HNP:=aD hnp
  have HGD:=aD hgd
  have HMP:=aD hmp
  have HM:=aD hm
  have HN:=aD hn
  have HGV:=aD hgv
  clear ih hr hwf hg hnp hgd hmp hm hn hta htw hgv
  go_enter Tryz.func81,Tryz.ntmps81
  go_upto_region 5 with fail
  have B0:Hid (Below w.heap.size w (((w.alloc (.cells #[.int .i64 t.f.k,.int .i64 t.f.n,.int .i64 t.f.mn,.int .i64 t.f.mx,.slice t.f.rq t.f.rs.length t.f.rc,.slice t.f.kq t.f.kl t.f.kc] 25)).alloc (.cells #[.bool false,.bool false] 72)).alloc (.cells #[.int .i64 t.f.k,.int .i64 t.f.n,.int .i64 t.f.mn,.int .i64 t.f.mx,.slice t.f.rq t.f.rs.length t.f.rc,.slice t.f.kq t.f.kl t.f.kc,.bool c,.bool o,.slice none 0 0,.func (.func 80) #[] #[bx bp]] 132))):=((bz9).alloc (by simp only [World.size_alloc];omega) _).alloc (by simp only [World.size_alloc];omega) _
  have N0:Hid (BoxN (((w.alloc (.cells #[.int .i64 t.f.k,.int .i64 t.f.n,.int .i64 t.f.mn,.int .i64 t.f.mx,.slice t.f.rq t.f.rs.length t.f.rc,.slice t.f.kq t.f.kl t.f.kc] 25)).alloc (.cells #[.bool false,.bool false] 72)).alloc (.cells #[.int .i64 t.f.k,.int .i64 t.f.n,.int .i64 t.f.mn,.int .i64 t.f.mx,.slice t.f.rq t.f.rs.length t.f.rc,.slice t.f.kq t.f.kl t.f.kc,.bool c,.bool o,.slice none 0 0,.func (.func 80) #[] #[bx bp]] 132)) w.heap.size t.f):=(Below.heap_alloc _ _ _ (by simp only [World.size_alloc];omega)).trans ((Below.heap_alloc _ _ _ (by simp only [World.size_alloc];omega)).trans (aE w _))
  have R0:Hid ((((w.alloc (.cells #[.int .i64 t.f.k,.int .i64 t.f.n,.int .i64 t.f.mn,.int .i64 t.f.mx,.slice t.f.rq t.f.rs.length t.f.rc,.slice t.f.kq t.f.kl t.f.kc] 25)).alloc (.cells #[.bool false,.bool false] 72)).alloc (.cells #[.int .i64 t.f.k,.int .i64 t.f.n,.int .i64 t.f.mn,.int .i64 t.f.mx,.slice t.f.rq t.f.rs.length t.f.rc,.slice t.f.kq t.f.kl t.f.kc,.bool c,.bool o,.slice none 0 0,.func (.func 80) #[] #[bx bp]] 132)).heap[w.heap.size+1]?=some (.cells #[.bool false,.bool false] 72 (0,0))):=(by have:=aE (w.alloc (.cells #[.int .i64 t.f.k,.int .i64 t.f.n,.int .i64 t.f.mn,.int .i64 t.f.mx,.slice t.f.rq t.f.rs.length t.f.rc,.slice t.f.kq t.f.kl t.f.kc] 25)) (.cells #[.bool false,.bool false] 72);rw [World.size_alloc] at this;exact(Below.heap_alloc _ _ _ (by simp)).trans this)
  have S0:Hid ((((w.alloc (.cells #[.int .i64 t.f.k,.int .i64 t.f.n,.int .i64 t.f.mn,.int .i64 t.f.mx,.slice t.f.rq t.f.rs.length t.f.rc,.slice t.f.kq t.f.kl t.f.kc] 25)).alloc (.cells #[.bool false,.bool false] 72)).alloc (.cells #[.int .i64 t.f.k,.int .i64 t.f.n,.int .i64 t.f.mn,.int .i64 t.f.mx,.slice t.f.rq t.f.rs.length t.f.rc,.slice t.f.kq t.f.kl t.f.kc,.bool c,.bool o,.slice none 0 0,.func (.func 80) #[] #[bx bp]] 132)).heap[w.heap.size+1+1]?=some (.cells (dE t.f c o (.slice none 0 0) (.func (.func 80) #[] #[bx bp])) 132 (0,0))):=(by have:=aE ((w.alloc (.cells #[.int .i64 t.f.k,.int .i64 t.f.n,.int .i64 t.f.mn,.int .i64 t.f.mx,.slice t.f.rq t.f.rs.length t.f.rc,.slice t.f.kq t.f.kl t.f.kc] 25)).alloc (.cells #[.bool false,.bool false] 72)) (.cells #[.int .i64 t.f.k,.int .i64 t.f.n,.int .i64 t.f.mn,.int .i64 t.f.mx,.slice t.f.rq t.f.rs.length t.f.rc,.slice t.f.kq t.f.kl t.f.kc,.bool c,.bool o,.slice none 0 0,.func (.func 80) #[] #[bx bp]] 132);simp only [World.size_alloc] at this;exact this)
  generalize hW0:(((w.alloc (.cells #[.int .i64 t.f.k,.int .i64 t.f.n,.int .i64 t.f.mn,.int .i64 t.f.mx,.slice t.f.rq t.f.rs.length t.f.rc,.slice t.f.kq t.f.kl t.f.kc] 25)).alloc (.cells #[.bool false,.bool false] 72)).alloc (.cells #[.int .i64 t.f.k,.int .i64 t.f.n,.int .i64 t.f.mn,.int .i64 t.f.mx,.slice t.f.rq t.f.rs.length t.f.rc,.slice t.f.kq t.f.kl t.f.kc,.bool c,.bool o,.slice none 0 0,.func (.func 80) #[] #[bx bp]] 132))=W0 at B0 N0 R0 S0 ⊢
  clear hW0
  obtain⟨bs,hbs⟩:∃ bs,w.heap.size+1+1=bs:=⟨_,rfl⟩
  have HBS:Hid (w.heap.size<=bs/\bs < W0.heap.size/\bs=w.heap.size+1+1):=⟨by omega,by rw [<- hbs];exact aB S0.out,hbs.symm⟩
  rw [hbs] at S0 ⊢
  clear hbs
  have MB:Hid (∃ es clock,W0.heap[bb]?=some (.map es clock)):=aD (by obtain⟨es,cl,hb⟩:=HMP.out.block;exact⟨es,cl,(B0.out.block _ (aB hb)).trans hb⟩)
  go_loopw [19] (fun i wr=>∃ (j:Nat) (v:Value),j<=t.ks.length/\i=.int .i64 (j:Int)/\LpA ρ W0 wr bb bs n t c o g j v (.func (.func 80) #[] #[bx bp])) (fun i _=>t.ks.length - (intOf i).toNat)
  case atStart=>exact⟨0,_,Nat.zero_le _,rfl,S0.out,(by rw [List.take_zero,cX];exact⟨rfl,.inl ⟨rfl,rfl⟩⟩),(by rw [List.take_zero,cX,fZ];exact HMP.out.kept B0.out),Fr.refl _ _⟩
  case round=>
   clear S0
   obtain⟨j,v,hj,rfl,hlp⟩:=hrel
   obtain⟨qv,cv,rfl⟩:=aZ hlp.own
   have LP:=aD hlp
   have CW:Hid (CK w wr):=fQ MB.out HBS.out.1 B0.out hlp.fr
   clear hlp
   by_cases hjl:j < t.ks.length
   ·have e0:(j:Int) < (t.f.kl:Int):=by rw [HKL.out];omega
    obtain⟨u,hu⟩:∃ u,t.ks[j]?=some u:=⟨_,List.getElem?_eq_getElem hjl⟩
    obtain⟨gq,off,hq,hgl,hsix⟩:=HK3.out j u hu
    rw [hq]
    obtain⟨c0,c1,c2,c3,c4,c5⟩:=hsix.ck CW.out hgl
    have HU:=aD hu
    have hin:u∈t.ks:=List.mem_of_getElem? hu
    clear hsix hu
    have SK:Hid (Fr (Wr2 bb bs) W0 (wr.alloc (.cells #[.int .i64 u.f.k,.int .i64 u.f.n,.int .i64 u.f.mn,.int .i64 u.f.mx,.slice u.f.rq u.f.rs.length u.f.rc,.slice u.f.kq u.f.kl u.f.kc] 25)).drew/\BoxN (wr.alloc (.cells #[.int .i64 u.f.k,.int .i64 u.f.n,.int .i64 u.f.mn,.int .i64 u.f.mx,.slice u.f.rq u.f.rs.length u.f.rc,.slice u.f.kq u.f.kl u.f.kc] 25)).drew wr.heap.size u.f):=⟨(LP.out.fr.alloc _).drew,aE wr _⟩
    have NE:Hid (¬ wr.heap.size=bb/\¬ bb=bs):=⟨fun e=>by have:=LP.out.mp.lt;omega,fun e=>by
     obtain⟨es,cl,hb⟩:=LP.out.mp.block
     rw [e,LP.out.sc] at hb
     cases hb⟩
    have NE3:Hid (wr.heap.size≠bs):=fun e=>by have:=aB LP.out.sc;omega
    have CB:Hid ((wr.alloc (.cells #[.int .i64 u.f.k,.int .i64 u.f.n,.int .i64 u.f.mn,.int .i64 u.f.mx,.slice u.f.rq u.f.rs.length u.f.rc,.slice u.f.kq u.f.kl u.f.kc] 25)).drew.heap[bs]?=some (.cells (dE t.f c o (.slice qv j cv) (.func (.func 80) #[] #[bx bp])) 132 (0,0))):=(Below.heap_alloc wr _ _ (aB LP.out.sc)).trans LP.out.sc
    have k8:(wr.alloc (.cells #[.int .i64 u.f.k,.int .i64 u.f.n,.int .i64 u.f.mn,.int .i64 u.f.mx,.slice u.f.rq u.f.rs.length u.f.rc,.slice u.f.kq u.f.kl u.f.kc] 25)).drew.cell? ⟨bs,8,none⟩=some (.slice qv j cv):=aA CB.out (i:=8) rfl
    have QC:Hid (∀ w',(Fr (Wr2 bb bs) W0 w'/\BoxN w' wr.heap.size u.f)->w'.cell? ⟨bo,0,none⟩=some (.func (.func 81) #[] #[bx bm,bx bg,bx bo,bx br,bx bp])/\w'.cell? ⟨wr.heap.size,0,none⟩=some (.int .i64 u.f.k)/\w'.cell? ⟨wr.heap.size,1,none⟩=some (.int .i64 u.f.n)/\w'.cell? ⟨wr.heap.size,2,none⟩=some (.int .i64 u.f.mn)/\w'.cell? ⟨wr.heap.size,3,none⟩=some (.int .i64 u.f.mx)/\w'.cell? ⟨wr.heap.size,4,none⟩=some (.slice u.f.rq u.f.rs.length u.f.rc)/\w'.cell? ⟨wr.heap.size,5,none⟩=some (.slice u.f.kq u.f.kl u.f.kc)):=fun w' hS=>by
     have six:=hS.2.six
     simp only [Six,Nat.zero_add] at six
     exact⟨aA (HTW.out.ck (fQ MB.out HBS.out.1 B0.out hS.1)).o (i:=0) rfl,six⟩
    have MK:Hid (MapV (wr.alloc (.cells #[.int .i64 u.f.k,.int .i64 u.f.n,.int .i64 u.f.mn,.int .i64 u.f.mx,.slice u.f.rq u.f.rs.length u.f.rc,.slice u.f.kq u.f.kl u.f.kc] 25)).drew (.agg #[.bool false,.bool false]) bb (n+szs (t.ks.take j)) (fun i=>enA ((evs ρ g (t.ks.take j)).2 i))):=LP.out.mp.kept ((bz9).drew)
    have OK:Hid ((wr.alloc (.cells #[.int .i64 u.f.k,.int .i64 u.f.n,.int .i64 u.f.mn,.int .i64 u.f.mx,.slice u.f.rq u.f.rs.length u.f.rc,.slice u.f.kq u.f.kl u.f.kc] 25)).drew.ownsRow W0.heap.size 72 2 (.slice qv j cv) j (ceA (evs ρ g (t.ks.take j)).1)):=World.ownsRow.drew (World.ownsRow.alloc LP.out.own _)
    have CK2:Hid (CK w (wr.alloc (.cells #[.int .i64 u.f.k,.int .i64 u.f.n,.int .i64 u.f.mn,.int .i64 u.f.mx,.slice u.f.rq u.f.rs.length u.f.rc,.slice u.f.kq u.f.kl u.f.kc] 25)).drew):=fQ MB.out HBS.out.1 B0.out SK.out.1
    have LJ:=aD (show j<=1000000 by have:=eM t.ks;have:=hkz.out;have:=HN.out;omega)
    have IH0:=IH.out u (wr.alloc (.cells #[.int .i64 u.f.k,.int .i64 u.f.n,.int .i64 u.f.mn,.int .i64 u.f.mx,.slice u.f.rq u.f.rs.length u.f.rc,.slice u.f.kq u.f.kl u.f.kc] 25)).drew (n+szs (t.ks.take j)) (evs ρ g (t.ks.take j)).2 (by have:=dM hin;have:=HM.out;omega)
     (by have:=pP t.ks (j+1);rw [cC HU.out] at this;have:=hkz.out;have:=HN.out;omega) (hglo CK2.out HGW.out) ((HTA.out.ck CK2.out).kid hin) (bI HNP.out hin)
     (eY HG.out (t.ks.take j) g (fun u hu=>bI HNP.out (List.mem_of_mem_take hu)) HGD.out).2 (HTW.out.ck CK2.out) MK.out
    obtain⟨x5,hx5⟩:∃ x,(ev ρ (evs ρ g (t.ks.take j)).2 u).1=x:=⟨_,rfl⟩
    have IHU:Hid (Calls Tryz.prog 81 #[.agg #[.int .i64 u.f.k,.int .i64 u.f.n,.int .i64 u.f.mn,.int .i64 u.f.mx,.slice u.f.rq u.f.rs.length u.f.rc,.slice u.f.kq u.f.kl u.f.kc],bx bm,bx bg,bx bo,bx br,bx bp] (wr.alloc (.cells #[.int .i64 u.f.k,.int .i64 u.f.n,.int .i64 u.f.mn,.int .i64 u.f.mx,.slice u.f.rq u.f.rs.length u.f.rc,.slice u.f.kq u.f.kl u.f.kc] 25)).drew (fun e w'=>e=.returned (.agg #[.bool x5.1,.bool x5.2])/\MapV w' (.agg #[.bool false,.bool false]) bb (n+szs (t.ks.take j)+u.sz) (fun i=>enA ((ev ρ (evs ρ g (t.ks.take j)).2 u).2 i))/\Fr (fun k=>k=bb) (wr.alloc (.cells #[.int .i64 u.f.k,.int .i64 u.f.n,.int .i64 u.f.mn,.int .i64 u.f.mx,.slice u.f.rq u.f.rs.length u.f.rc,.slice u.f.kq u.f.kl u.f.kc] 25)).drew w')):=aD (by subst hx5;exact IH0)
    have HX5:=aD hx5
    clear hin IH0 hx5
    go_wp2
    refine wp_region_held_drew (S:=fun w'=>Fr (Wr2 bb bs) W0 w'/\BoxN w' wr.heap.size u.f) (by kernel_rfl) SK.out (fun hHeld=>?_)
    refine wpAnyH_take (i:=0) (oi:=_) (v:=?_) rfl (by kernel_rfl) (by kernel_rfl) (by kernel_rfl) (fun _ _ _ h=>h) (Or.inl ⟨by rfl,?_⟩) (by assumption) ?_
    rotate_left
    ·intro wz hSw;obtain⟨q0,q1,q2,q3,q4,q5,q6⟩:=QC.out wz hSw;clear hSw;go_simp;try with_reducible rfl
    dsimp only [Act.put,List.getElem_toArray,List.getElem_cons_zero,List.getElem_cons_succ]
    simp only [List.setIfInBounds_toArray,List.set_cons_zero,List.set_cons_succ]
    refine wpAnyH_take (i:=2) (oi:=_) (v:=?_) rfl (by kernel_rfl) (by kernel_rfl) (by kernel_rfl) (fun _ _ _ h=>h) (Or.inl ⟨by rfl,?_⟩) (by assumption) ?_
    rotate_left
    ·intro wz hSw;obtain⟨q0,q1,q2,q3,q4,q5,q6⟩:=QC.out wz hSw;clear hSw;go_simp;try with_reducible rfl
    dsimp only [Act.put,List.getElem_toArray,List.getElem_cons_zero,List.getElem_cons_succ]
    simp only [List.setIfInBounds_toArray,List.set_cons_zero,List.set_cons_succ]
    refine wpAnyH_take (i:=3) (oi:=_) (v:=?_) rfl (by kernel_rfl) (by kernel_rfl) (by kernel_rfl) (fun _ _ _ h=>h) (Or.inl ⟨by rfl,?_⟩) (by assumption) ?_
    rotate_left
    ·intro wz hSw;obtain⟨q0,q1,q2,q3,q4,q5,q6⟩:=QC.out wz hSw;clear hSw;go_simp;try with_reducible rfl
    dsimp only [Act.put,List.getElem_toArray,List.getElem_cons_zero,List.getElem_cons_succ]
    simp only [List.setIfInBounds_toArray,List.set_cons_zero,List.set_cons_succ]
    refine wpAnyH_ready (rs:=[1,4]) (by kernel_rfl) (by simp) ?_
    refine AllReadyH.cons rfl (fun K hK=>?_) (AllReadyH.cons rfl (fun K hK=>?_) AllReadyH.nil)
    ·go_simp
     refine hK.out _ _ SK.out (fun hHeld1=>?_)
     clear hK K
     refine wpAnyH_ready (rs:=[4]) (by kernel_rfl) (by simp) ?_
     refine AllReadyH.cons rfl (fun K hK=>?_) AllReadyH.nil
     go_simp
     go_at_call 81
     refine IHU.out.mono ?_
     rintro e w5 ⟨rfl,hm5,hf5⟩
     have M5:=aD hm5
     have F5:=aD hf5
     clear hm5 hf5
     have S5:Hid (Fr (Wr2 bb bs) W0 w5/\BoxN w5 wr.heap.size u.f):=⟨SK.out.1.trans (F5.out.mono (fun k e=>.inl e)),(F5.out.block _ (aB SK.out.2) (fun e=>NE.out.1 e)).trans SK.out.2⟩
     refine hK.out _ _ S5.out (fun hHeld2=>?_)
     clear hK K
     refine wpAnyH_ready (rs:=[5]) (by kernel_rfl) (by simp) ?_
     refine AllReadyH.cons rfl (fun K hK=>?_) AllReadyH.nil
     go_simp
     have S6:Hid (Fr (Wr2 bb bs) W0 (w5.alloc (.cells #[.bool x5.1,.bool x5.2] 72))/\BoxN (w5.alloc (.cells #[.bool x5.1,.bool x5.2] 72)) wr.heap.size u.f):=⟨S5.out.1.alloc _,(Below.heap_alloc _ _ _ (aB S5.out.2)).trans S5.out.2⟩
     refine hK.out _ _ S6.out (fun hHeld3=>?_)
     clear hK K
     refine wpAnyH_ready (rs:=[6]) (by kernel_rfl) (by simp) ?_
     refine AllReadyH.cons rfl (fun K hK=>?_) AllReadyH.nil
     have O6:Hid ((w5.alloc (.cells #[.bool x5.1,.bool x5.2] 72)).ownsRow W0.heap.size 72 2 (.slice qv j cv) j (ceA (evs ρ g (t.ks.take j)).1)):=World.ownsRow.alloc (aM OK.out F5.out (fun k e z=>bS OK.out MK.out.block (z ▸ e))) _
     refine bF rfl _ _ 130 rfl W0.heap.size 72 t0 (.agg #[.bool false,.bool false]) 2 2 aC7 TI.out.1 TI.out.2.1 TI.out.2.2.1 TI.out.2.2.2 rfl (by decide) (.slice qv j cv) j (ceA (evs ρ g (t.ks.take j)).1) (by simp [Act.eval]) O6.out ⟨w5.heap.size,0,none⟩ 1 1 [.bool x5.1,.bool x5.2] (by simp [Act.eval]) rfl (cR w5 [.bool x5.1,.bool x5.2] _) (by simp [Value.oneCell']) (by have:=LJ.out;unfold maxLen;omega) (by have:=LJ.out;omega) (Nat.le_trans S5.out.1.size (by simp only [World.size_alloc];omega)) ?_
     intro v' w6 hown' hgrow hblk
     obtain⟨g6,cap6,rfl⟩:=aL hown' (Nat.succ_pos _)
     have O7:=aD hown'
     have G6:=aD hgrow
     clear hown' hgrow hblk
     have S7:Hid (Fr (Wr2 bb bs) W0 w6/\BoxN w6 wr.heap.size u.f):=⟨S6.out.1.grownNew G6.out (fun k e=>(aH O6.out e).1),(G6.out.block _ (aB S6.out.2) (fun e=>by
      have:=(aH LP.out.own e.symm).2.1
      omega)).trans S6.out.2⟩
     have C7:Hid (w6.heap[bs]?=some (.cells (dE t.f c o (.slice qv j cv) (.func (.func 80) #[] #[bx bp])) 132 (0,0))):=(by
      have e5:=(F5.out.block _ (aB CB.out) (fun e=>NE.out.2 e.symm)).trans CB.out
      have e6:=(Below.heap_alloc w5 (.cells #[.bool x5.1,.bool x5.2] 72) _ (aB e5)).trans e5
      exact(G6.out.block _ (aB e6) (fun e=>aP O6.out e6 (by decide) e.symm)).trans e6)
     have M7:Hid (MapV w6 (.agg #[.bool false,.bool false]) bb (n+szs (t.ks.take j)+u.sz) (fun i=>enA ((ev ρ (evs ρ g (t.ks.take j)).2 u).2 i))):=(by
      have m6:=M5.out.kept ((Below.refl _ _).alloc lz9 (.cells #[.bool x5.1,.bool x5.2] 72))
      exact m6.same (G6.out.block _ m6.lt (fun e=>bS O6.out m6.block e.symm)))
     refine hK.out _ _ S7.out (fun hHeld4=>?_)
     clear hK K
     refine wpAnyH_take (i:=7) (oi:=_) (v:=?_) rfl (by kernel_rfl) (by kernel_rfl) (by kernel_rfl) (fun _ _ _ h=>h) (Or.inl ⟨by rfl,?_⟩) (by assumption) ?_
     rotate_left
     ·intro wz hSw;obtain⟨q0,q1,q2,q3,q4,q5,q6⟩:=QC.out wz hSw;clear hSw;go_simp;try with_reducible rfl
     dsimp only [Act.put,List.getElem_toArray,List.getElem_cons_zero,List.getElem_cons_succ]
     simp only [List.setIfInBounds_toArray,List.set_cons_zero,List.set_cons_succ]
     refine wpAnyH_ready (rs:=[8]) (by kernel_rfl) (by simp) ?_
     refine AllReadyH.cons rfl (fun K hK=>?_) AllReadyH.nil
     have k7:w6.cell? ⟨bs,8,none⟩=some (.slice qv j cv):=aA C7.out (i:=8) rfl
     have fz:=aG C7.out 8
     go_simp
     have S8:Hid (Fr (Wr2 bb bs) W0 (w6.setCell ⟨bs,8,none⟩ (.slice (some ⟨g6,0,none⟩) (j+1) cap6))/\BoxN (w6.setCell ⟨bs,8,none⟩ (.slice (some ⟨g6,0,none⟩) (j+1) cap6)) wr.heap.size u.f):=⟨S7.out.1.setCell (p:=⟨bs,8,none⟩) (.inr rfl) _,(Below.heap_setCell _ _ _ _ (fun e=>NE3.out e)).trans S7.out.2⟩
     refine hK.out _ _ S8.out (fun hHeld5=>?_)
     clear hK K
     refine wpAnyH_done (by kernel_rfl) ?_ _
     have LQ:Hid (LpA ρ W0 (w6.setCell ⟨bs,8,none⟩ (.slice (some ⟨g6,0,none⟩) (j+1) cap6)) bb bs n t c o g (j+1) (.slice (some ⟨g6,0,none⟩) (j+1) cap6) (.func (.func 80) #[] #[bx bp])):=by
      obtain⟨ea,eb⟩:=dJ (ρ:=ρ) HU.out g
      refine⟨aO C7.out 8 _,?_,?_,S8.out.1⟩
      ·rw [ea,xA,HX5.out]
       exact aM O7.out ((Fr.refl (fun k=>k=bs) w6).setCell (p:=⟨bs,8,none⟩) rfl _) (fun k e z=>aP O7.out C7.out (by decide) (z ▸ e))
      ·rw [eb,cC HU.out,<- Nat.add_assoc]
       exact M7.out.fr ((Fr.refl (fun k=>k=bs) w6).setCell (p:=⟨bs,8,none⟩) rfl _) (fun e=>by
        obtain⟨es,cl,hb⟩:=M7.out.block
        rw [e,C7.out] at hb
        cases hb)
     clear k7 fz
     go_wp2
     go_roundw
     case rel=>exact⟨j+1,_,by omega,by go_num,LQ.out⟩
     case measure=>simp only [intOf];omega
    ·go_simp
     go_at_call 81
     refine IHU.out.mono ?_
     rintro e w5 ⟨rfl,hm5,hf5⟩
     have M5:=aD hm5
     have F5:=aD hf5
     clear hm5 hf5
     have S5:Hid (Fr (Wr2 bb bs) W0 w5/\BoxN w5 wr.heap.size u.f):=⟨SK.out.1.trans (F5.out.mono (fun k e=>.inl e)),(F5.out.block _ (aB SK.out.2) (fun e=>NE.out.1 e)).trans SK.out.2⟩
     refine hK.out _ _ S5.out (fun hHeld1=>?_)
     clear hK K
     refine wpAnyH_ready (rs:=[1,5]) (by kernel_rfl) (by simp) ?_
     refine AllReadyH.cons rfl (fun K hK=>?_) (AllReadyH.cons rfl (fun K hK=>?_) AllReadyH.nil)
     ·have k9:w5.cell? ⟨bs,8,none⟩=some (.slice qv j cv):=aA ((F5.out.block _ (aB CB.out) (fun e=>NE.out.2 e.symm)).trans CB.out) (i:=8) rfl
      go_simp
      refine hK.out _ _ S5.out (fun hHeld2=>?_)
      clear hK K
      refine wpAnyH_ready (rs:=[5]) (by kernel_rfl) (by simp) ?_
      refine AllReadyH.cons rfl (fun K hK=>?_) AllReadyH.nil
      go_simp
      have S6:Hid (Fr (Wr2 bb bs) W0 (w5.alloc (.cells #[.bool x5.1,.bool x5.2] 72))/\BoxN (w5.alloc (.cells #[.bool x5.1,.bool x5.2] 72)) wr.heap.size u.f):=⟨S5.out.1.alloc _,(Below.heap_alloc _ _ _ (aB S5.out.2)).trans S5.out.2⟩
      refine hK.out _ _ S6.out (fun hHeld3=>?_)
      clear hK K
      refine wpAnyH_ready (rs:=[6]) (by kernel_rfl) (by simp) ?_
      refine AllReadyH.cons rfl (fun K hK=>?_) AllReadyH.nil
      have O6:Hid ((w5.alloc (.cells #[.bool x5.1,.bool x5.2] 72)).ownsRow W0.heap.size 72 2 (.slice qv j cv) j (ceA (evs ρ g (t.ks.take j)).1)):=World.ownsRow.alloc (aM OK.out F5.out (fun k e z=>bS OK.out MK.out.block (z ▸ e))) _
      refine bF rfl _ _ 130 rfl W0.heap.size 72 t0 (.agg #[.bool false,.bool false]) 2 2 aC7 TI.out.1 TI.out.2.1 TI.out.2.2.1 TI.out.2.2.2 rfl (by decide) (.slice qv j cv) j (ceA (evs ρ g (t.ks.take j)).1) (by simp [Act.eval]) O6.out ⟨w5.heap.size,0,none⟩ 1 1 [.bool x5.1,.bool x5.2] (by simp [Act.eval]) rfl (cR w5 [.bool x5.1,.bool x5.2] _) (by simp [Value.oneCell']) (by have:=LJ.out;unfold maxLen;omega) (by have:=LJ.out;omega) (Nat.le_trans S5.out.1.size (by simp only [World.size_alloc];omega)) ?_
      intro v' w6 hown' hgrow hblk
      obtain⟨g6,cap6,rfl⟩:=aL hown' (Nat.succ_pos _)
      have O7:=aD hown'
      have G6:=aD hgrow
      clear hown' hgrow hblk
      have S7:Hid (Fr (Wr2 bb bs) W0 w6/\BoxN w6 wr.heap.size u.f):=⟨S6.out.1.grownNew G6.out (fun k e=>(aH O6.out e).1),(G6.out.block _ (aB S6.out.2) (fun e=>by
       have:=(aH LP.out.own e.symm).2.1
       omega)).trans S6.out.2⟩
      have C7:Hid (w6.heap[bs]?=some (.cells (dE t.f c o (.slice qv j cv) (.func (.func 80) #[] #[bx bp])) 132 (0,0))):=(by
       have e5:=(F5.out.block _ (aB CB.out) (fun e=>NE.out.2 e.symm)).trans CB.out
       have e6:=(Below.heap_alloc w5 (.cells #[.bool x5.1,.bool x5.2] 72) _ (aB e5)).trans e5
       exact(G6.out.block _ (aB e6) (fun e=>aP O6.out e6 (by decide) e.symm)).trans e6)
      have M7:Hid (MapV w6 (.agg #[.bool false,.bool false]) bb (n+szs (t.ks.take j)+u.sz) (fun i=>enA ((ev ρ (evs ρ g (t.ks.take j)).2 u).2 i))):=(by
       have m6:=M5.out.kept ((Below.refl _ _).alloc lz9 (.cells #[.bool x5.1,.bool x5.2] 72))
       exact m6.same (G6.out.block _ m6.lt (fun e=>bS O6.out m6.block e.symm)))
      refine hK.out _ _ S7.out (fun hHeld4=>?_)
      clear hK K
      refine wpAnyH_take (i:=7) (oi:=_) (v:=?_) rfl (by kernel_rfl) (by kernel_rfl) (by kernel_rfl) (fun _ _ _ h=>h) (Or.inl ⟨by rfl,?_⟩) (by assumption) ?_
      rotate_left
      ·intro wz hSw;obtain⟨q0,q1,q2,q3,q4,q5,q6⟩:=QC.out wz hSw;clear hSw;go_simp;try with_reducible rfl
      dsimp only [Act.put,List.getElem_toArray,List.getElem_cons_zero,List.getElem_cons_succ]
      simp only [List.setIfInBounds_toArray,List.set_cons_zero,List.set_cons_succ]
      refine wpAnyH_ready (rs:=[8]) (by kernel_rfl) (by simp) ?_
      refine AllReadyH.cons rfl (fun K hK=>?_) AllReadyH.nil
      have k7:w6.cell? ⟨bs,8,none⟩=some (.slice qv j cv):=aA C7.out (i:=8) rfl
      have fz:=aG C7.out 8
      go_simp
      have S8:Hid (Fr (Wr2 bb bs) W0 (w6.setCell ⟨bs,8,none⟩ (.slice (some ⟨g6,0,none⟩) (j+1) cap6))/\BoxN (w6.setCell ⟨bs,8,none⟩ (.slice (some ⟨g6,0,none⟩) (j+1) cap6)) wr.heap.size u.f):=⟨S7.out.1.setCell (p:=⟨bs,8,none⟩) (.inr rfl) _,(Below.heap_setCell _ _ _ _ (fun e=>NE3.out e)).trans S7.out.2⟩
      refine hK.out _ _ S8.out (fun hHeld5=>?_)
      clear hK K
      refine wpAnyH_done (by kernel_rfl) ?_ _
      have LQ:Hid (LpA ρ W0 (w6.setCell ⟨bs,8,none⟩ (.slice (some ⟨g6,0,none⟩) (j+1) cap6)) bb bs n t c o g (j+1) (.slice (some ⟨g6,0,none⟩) (j+1) cap6) (.func (.func 80) #[] #[bx bp])):=by
       obtain⟨ea,eb⟩:=dJ (ρ:=ρ) HU.out g
       refine⟨aO C7.out 8 _,?_,?_,S8.out.1⟩
       ·rw [ea,xA,HX5.out]
        exact aM O7.out ((Fr.refl (fun k=>k=bs) w6).setCell (p:=⟨bs,8,none⟩) rfl _) (fun k e z=>aP O7.out C7.out (by decide) (z ▸ e))
       ·rw [eb,cC HU.out,<- Nat.add_assoc]
        exact M7.out.fr ((Fr.refl (fun k=>k=bs) w6).setCell (p:=⟨bs,8,none⟩) rfl _) (fun e=>by
         obtain⟨es,cl,hb⟩:=M7.out.block
         rw [e,C7.out] at hb
         cases hb)
      clear k7 fz
      go_wp2
      go_roundw
      case rel=>exact⟨j+1,_,by omega,by go_num,LQ.out⟩
      case measure=>simp only [intOf];omega
     ·go_simp
      have S6:Hid (Fr (Wr2 bb bs) W0 (w5.alloc (.cells #[.bool x5.1,.bool x5.2] 72))/\BoxN (w5.alloc (.cells #[.bool x5.1,.bool x5.2] 72)) wr.heap.size u.f):=⟨S5.out.1.alloc _,(Below.heap_alloc _ _ _ (aB S5.out.2)).trans S5.out.2⟩
      refine hK.out _ _ S6.out (fun hHeld2=>?_)
      clear hK K
      refine wpAnyH_ready (rs:=[1]) (by kernel_rfl) (by simp) ?_
      refine AllReadyH.cons rfl (fun K hK=>?_) AllReadyH.nil
      have k9:(w5.alloc (.cells #[.bool x5.1,.bool x5.2] 72)).cell? ⟨bs,8,none⟩=some (.slice qv j cv):=(by have e5:=(F5.out.block _ (aB CB.out) (fun e=>NE.out.2 e.symm)).trans CB.out;exact aA ((Below.heap_alloc w5 (.cells #[.bool x5.1,.bool x5.2] 72) _ (aB e5)).trans e5) (i:=8) rfl)
      go_simp
      refine hK.out _ _ S6.out (fun hHeld3=>?_)
      clear hK K
      refine wpAnyH_ready (rs:=[6]) (by kernel_rfl) (by simp) ?_
      refine AllReadyH.cons rfl (fun K hK=>?_) AllReadyH.nil
      have O6:Hid ((w5.alloc (.cells #[.bool x5.1,.bool x5.2] 72)).ownsRow W0.heap.size 72 2 (.slice qv j cv) j (ceA (evs ρ g (t.ks.take j)).1)):=World.ownsRow.alloc (aM OK.out F5.out (fun k e z=>bS OK.out MK.out.block (z ▸ e))) _
      refine bF rfl _ _ 130 rfl W0.heap.size 72 t0 (.agg #[.bool false,.bool false]) 2 2 aC7 TI.out.1 TI.out.2.1 TI.out.2.2.1 TI.out.2.2.2 rfl (by decide) (.slice qv j cv) j (ceA (evs ρ g (t.ks.take j)).1) (by simp [Act.eval]) O6.out ⟨w5.heap.size,0,none⟩ 1 1 [.bool x5.1,.bool x5.2] (by simp [Act.eval]) rfl (cR w5 [.bool x5.1,.bool x5.2] _) (by simp [Value.oneCell']) (by have:=LJ.out;unfold maxLen;omega) (by have:=LJ.out;omega) (Nat.le_trans S5.out.1.size (by simp only [World.size_alloc];omega)) ?_
      intro v' w6 hown' hgrow hblk
      obtain⟨g6,cap6,rfl⟩:=aL hown' (Nat.succ_pos _)
      have O7:=aD hown'
      have G6:=aD hgrow
      clear hown' hgrow hblk
      have S7:Hid (Fr (Wr2 bb bs) W0 w6/\BoxN w6 wr.heap.size u.f):=⟨S6.out.1.grownNew G6.out (fun k e=>(aH O6.out e).1),(G6.out.block _ (aB S6.out.2) (fun e=>by
       have:=(aH LP.out.own e.symm).2.1
       omega)).trans S6.out.2⟩
      have C7:Hid (w6.heap[bs]?=some (.cells (dE t.f c o (.slice qv j cv) (.func (.func 80) #[] #[bx bp])) 132 (0,0))):=(by
       have e5:=(F5.out.block _ (aB CB.out) (fun e=>NE.out.2 e.symm)).trans CB.out
       have e6:=(Below.heap_alloc w5 (.cells #[.bool x5.1,.bool x5.2] 72) _ (aB e5)).trans e5
       exact(G6.out.block _ (aB e6) (fun e=>aP O6.out e6 (by decide) e.symm)).trans e6)
      have M7:Hid (MapV w6 (.agg #[.bool false,.bool false]) bb (n+szs (t.ks.take j)+u.sz) (fun i=>enA ((ev ρ (evs ρ g (t.ks.take j)).2 u).2 i))):=(by
       have m6:=M5.out.kept ((Below.refl _ _).alloc lz9 (.cells #[.bool x5.1,.bool x5.2] 72))
       exact m6.same (G6.out.block _ m6.lt (fun e=>bS O6.out m6.block e.symm)))
      refine hK.out _ _ S7.out (fun hHeld4=>?_)
      clear hK K
      refine wpAnyH_take (i:=7) (oi:=_) (v:=?_) rfl (by kernel_rfl) (by kernel_rfl) (by kernel_rfl) (fun _ _ _ h=>h) (Or.inl ⟨by rfl,?_⟩) (by assumption) ?_
      rotate_left
      ·intro wz hSw;obtain⟨q0,q1,q2,q3,q4,q5,q6⟩:=QC.out wz hSw;clear hSw;go_simp;try with_reducible rfl
      dsimp only [Act.put,List.getElem_toArray,List.getElem_cons_zero,List.getElem_cons_succ]
      simp only [List.setIfInBounds_toArray,List.set_cons_zero,List.set_cons_succ]
      refine wpAnyH_ready (rs:=[8]) (by kernel_rfl) (by simp) ?_
      refine AllReadyH.cons rfl (fun K hK=>?_) AllReadyH.nil
      have k7:w6.cell? ⟨bs,8,none⟩=some (.slice qv j cv):=aA C7.out (i:=8) rfl
      have fz:=aG C7.out 8
      go_simp
      have S8:Hid (Fr (Wr2 bb bs) W0 (w6.setCell ⟨bs,8,none⟩ (.slice (some ⟨g6,0,none⟩) (j+1) cap6))/\BoxN (w6.setCell ⟨bs,8,none⟩ (.slice (some ⟨g6,0,none⟩) (j+1) cap6)) wr.heap.size u.f):=⟨S7.out.1.setCell (p:=⟨bs,8,none⟩) (.inr rfl) _,(Below.heap_setCell _ _ _ _ (fun e=>NE3.out e)).trans S7.out.2⟩
      refine hK.out _ _ S8.out (fun hHeld5=>?_)
      clear hK K
      refine wpAnyH_done (by kernel_rfl) ?_ _
      have LQ:Hid (LpA ρ W0 (w6.setCell ⟨bs,8,none⟩ (.slice (some ⟨g6,0,none⟩) (j+1) cap6)) bb bs n t c o g (j+1) (.slice (some ⟨g6,0,none⟩) (j+1) cap6) (.func (.func 80) #[] #[bx bp])):=by
       obtain⟨ea,eb⟩:=dJ (ρ:=ρ) HU.out g
       refine⟨aO C7.out 8 _,?_,?_,S8.out.1⟩
       ·rw [ea,xA,HX5.out]
        exact aM O7.out ((Fr.refl (fun k=>k=bs) w6).setCell (p:=⟨bs,8,none⟩) rfl _) (fun k e z=>aP O7.out C7.out (by decide) (z ▸ e))
       ·rw [eb,cC HU.out,<- Nat.add_assoc]
        exact M7.out.fr ((Fr.refl (fun k=>k=bs) w6).setCell (p:=⟨bs,8,none⟩) rfl _) (fun e=>by
         obtain⟨es,cl,hb⟩:=M7.out.block
         rw [e,C7.out] at hb
         cases hb)
      clear k7 fz
      go_wp2
      go_roundw
      case rel=>exact⟨j+1,_,by omega,by go_num,LQ.out⟩
      case measure=>simp only [intOf];omega
   ·have e0:¬ (j:Int) < (t.f.kl:Int):=by rw [HKL.out];omega
    obtain rfl:j=t.ks.length:=by omega
    have hk:t.ks.take t.ks.length=t.ks:=List.take_length
    have XO:=aD (hk ▸ LP.out.own)
    have XM:=aD (hk ▸ LP.out.mp)
    have r0:wr.cell? ⟨br,0,none⟩=some (.func (.func 43) #[] #[]):=aA (HTW.out.ck CW.out).r (i:=0) rfl
    have s0:wr.cell? ⟨bs,0,none⟩=some (.int .i64 t.f.k):=aA LP.out.sc (i:=0) rfl
    have s1:wr.cell? ⟨bs,1,none⟩=some (.int .i64 t.f.n):=aA LP.out.sc (i:=1) rfl
    have s2:wr.cell? ⟨bs,2,none⟩=some (.int .i64 t.f.mn):=aA LP.out.sc (i:=2) rfl
    have s3:wr.cell? ⟨bs,3,none⟩=some (.int .i64 t.f.mx):=aA LP.out.sc (i:=3) rfl
    have s4:wr.cell? ⟨bs,4,none⟩=some (.slice t.f.rq t.f.rs.length t.f.rc):=aA LP.out.sc (i:=4) rfl
    have s5:wr.cell? ⟨bs,5,none⟩=some (.slice t.f.kq t.f.kl t.f.kc):=aA LP.out.sc (i:=5) rfl
    have s6:wr.cell? ⟨bs,6,none⟩=some (.bool c):=aA LP.out.sc (i:=6) rfl
    have s7:wr.cell? ⟨bs,7,none⟩=some (.bool o):=aA LP.out.sc (i:=7) rfl
    have s8:wr.cell? ⟨bs,8,none⟩=some (.slice qv t.ks.length cv):=aA LP.out.sc (i:=8) rfl
    have s9:wr.cell? ⟨bs,9,none⟩=some (.func (.func 80) #[] #[bx bp]):=aA LP.out.sc (i:=9) rfl
    clear hk
    obtain⟨gx,gy⟩:=eY HG.out t.ks g (fun u hu=>bI HNP.out hu) HGD.out
    have hC:=HR.out t (evs ρ g t.ks).1 (evs ρ g t.ks).2 wr (.slice qv t.ks.length cv) bp bb (n+szs t.ks) W0.heap.size (hglo CW.out HGW.out) ((bE t).1 HNP.out).1 (by have:=eM t.ks;have:=hkz.out;have:=HN.out;omega) ((HTA.out.ck CW.out).node) (gJ _ _) gx gy (by rw [gJ];exact XO.out) (HTW.out.ck CW.out).p XM.out
    simp only [dE,enA] at hC
    have HC:=aD hC
    clear hC gx gy
    have BN:Hid (BoxN wr w.heap.size t.f):=(LP.out.fr.block _ (aB N0.out) (fun z=>by
     rcases z with e | e
     ·obtain⟨es,cl,hb⟩:=MB.out
      rw [<- e,show W0.heap[w.heap.size]?=_ from N0.out] at hb
      cases hb
     ·have:=HBS.out.2.2;omega)).trans N0.out
    have BR:Hid (wr.heap[w.heap.size+1]?=some (.cells #[.bool false,.bool false] 72 (0,0))):=(LP.out.fr.block _ (aB R0.out) (fun z=>by
     rcases z with e | e
     ·obtain⟨es,cl,hb⟩:=MB.out
      rw [<- e,R0.out] at hb
      cases hb
     ·have:=HBS.out.2.2;omega)).trans R0.out
    have hx:(ev ρ g t).1=ρ t.f t.ks (evs ρ g t.ks).1 (evs ρ g t.ks).2:=iV g t
    rw [<- hx] at HC
    have HS:=aD (jN (ρ:=ρ) g t)
    obtain⟨x,hxx⟩:∃ x,(ev ρ g t).1=x:=⟨_,rfl⟩
    rw [hxx] at HC HS
    have HX:=aD hxx
    clear hx hxx
    have FW:Hid (Fr (fun k=>k=bb) w wr):=sT HBS.out.1 B0.out LP.out.fr
    by_cases h7:t.f.k=7
    ·have h7b:(t.f.k==7)=true:=by simp [h7]
     have WF:Hid ((Lit.int .i64 t.f.n).wf=true):=HWF.out t ((bE t).1 HNP.out).1 h7
     rw [if_pos h7] at HS
     clear h7
     go_wp2_with first
      |(go_at_call 43;refine HC.out.mono ?_;rintro e w5 ⟨rfl,h5⟩;have B5:=aD h5;clear h5 s0 s1 s2 s3 s4 s5 s6 s7 s8 s9 r0;have N5:Hid (BoxN w5 w.heap.size t.f):=(B5.out.block _ (aB BN.out)).trans BN.out;have A5:Hid (Below w5.heap.size w5 (w5.alloc (.cells #[.bool x.1,.bool x.2] 72))):=bz9;have N6:Hid (BoxN (w5.alloc (.cells #[.bool x.1,.bool x.2] 72)) w.heap.size t.f):=(A5.out.block _ (aB N5.out)).trans N5.out;have R5:Hid ((w5.alloc (.cells #[.bool x.1,.bool x.2] 72)).heap[w.heap.size+1]?=some (.cells #[.bool false,.bool false] 72 (0,0))):=(A5.out.block _ (aB ((B5.out.block _ (aB BR.out)).trans BR.out))).trans ((B5.out.block _ (aB BR.out)).trans BR.out);have k0:(w5.alloc (.cells #[.bool x.1,.bool x.2] 72)).cell? ⟨w.heap.size,0,none⟩=some (.int .i64 t.f.k):=N6.out.six.1;have k1:(w5.alloc (.cells #[.bool x.1,.bool x.2] 72)).cell? ⟨w.heap.size,1,none⟩=some (.int .i64 t.f.n):=N6.out.six.2.1;have p0:(w5.alloc (.cells #[.bool x.1,.bool x.2] 72)).cell? ⟨bp,0,none⟩=some (.map (some bb)):=aA (((HTW.out.ck CW.out).ck (CK.of_below B5.out)).ck (CK.of_below A5.out)).p (i:=0) rfl;have z0:=aA R5.out (i:=0) rfl;have z1:=aA R5.out (i:=1) rfl;have fz:=fun z=>aG R5.out z)
      |(at_mapUpdate;refine eU _ rfl _ _ _ 127 rfl 72 bI8 (.agg #[.bool false,.bool false]) bb (n+szs t.ks) (fun i=>enA ((evs ρ g t.ks).2 i)) rfl ((XM.out.kept B5.out).kept (bz9)) (by have:=HN.out;have:=hkz.out;unfold maxLen;omega) t.f.n rfl WF.out (enA x) rfl ?_;intro w6 hm6 hg6;have M6:=aD hm6;have G6:=aD hg6;clear hm6 hg6;have C6:Hid (CK (w5.alloc (.cells #[.bool x.1,.bool x.2] 72)) w6):=wV ((XM.out.kept B5.out).kept A5.out).block ((Fr.refl _ _).grown G6.out (fun k e=>by injection e with e;exact e.symm));have R6:Hid (w6.heap[w.heap.size+1]?=some (.cells #[.bool false,.bool false] 72 (0,0))):=C6.out.same _ _ _ _ (aB R5.out) R5.out;have X6:Hid (w6.heap[w5.heap.size]?=some (.cells #[.bool x.1,.bool x.2] 72 (0,0))):=C6.out.same _ _ _ _ (aB (aE w5 _)) (aE w5 _);clear fz z0 z1;have z0:=aA R6.out (i:=0) rfl;have x0:=aA X6.out (i:=0) rfl;have z1:=aA R6.out (i:=1) rfl;have x1:=aA X6.out (i:=1) rfl;have fz:=fun z=>aG R6.out z)
     refine aI2 (b:=w.heap.size+1) (x:=x) (bA R6.out [.bool x.1,.bool x.2] rfl) rfl rfl ?_
     have F7:=aV (w.heap.size+1) [.bool x.1,.bool x.2] 0 w6
     refine⟨by rw [HX.out],?_,?_⟩
     ·rw [HS.out,<- rS,show n+t.sz=n+szs t.ks+1 by have:=hkz.out;omega]
      exact M6.out.fr F7 (fun e=>by
       obtain⟨es,cl,hb⟩:=M6.out.block
       rw [e,R6.out] at hb
       cases hb)
     ·exact lY (((FW.out.then B5.out).then (bz9)).grown G6.out (fun k e=>by injection e with e;exact e.symm)) F7 (by omega)
    ·have h7b:(t.f.k==7)=false:=by simp [h7]
     rw [if_neg h7] at HS
     clear h7
     go_wp2_with first
      |(go_at_call 43;refine HC.out.mono ?_;rintro e w5 ⟨rfl,h5⟩;have B5:=aD h5;clear h5 s0 s1 s2 s3 s4 s5 s6 s7 s8 s9 r0;have N5:Hid (BoxN w5 w.heap.size t.f):=(B5.out.block _ (aB BN.out)).trans BN.out;have A5:Hid (Below w5.heap.size w5 (w5.alloc (.cells #[.bool x.1,.bool x.2] 72))):=bz9;have N6:Hid (BoxN (w5.alloc (.cells #[.bool x.1,.bool x.2] 72)) w.heap.size t.f):=(A5.out.block _ (aB N5.out)).trans N5.out;have R5:Hid ((w5.alloc (.cells #[.bool x.1,.bool x.2] 72)).heap[w.heap.size+1]?=some (.cells #[.bool false,.bool false] 72 (0,0))):=(A5.out.block _ (aB ((B5.out.block _ (aB BR.out)).trans BR.out))).trans ((B5.out.block _ (aB BR.out)).trans BR.out);have k0:(w5.alloc (.cells #[.bool x.1,.bool x.2] 72)).cell? ⟨w.heap.size,0,none⟩=some (.int .i64 t.f.k):=N6.out.six.1;have k1:(w5.alloc (.cells #[.bool x.1,.bool x.2] 72)).cell? ⟨w.heap.size,1,none⟩=some (.int .i64 t.f.n):=N6.out.six.2.1;have p0:(w5.alloc (.cells #[.bool x.1,.bool x.2] 72)).cell? ⟨bp,0,none⟩=some (.map (some bb)):=aA (((HTW.out.ck CW.out).ck (CK.of_below B5.out)).ck (CK.of_below A5.out)).p (i:=0) rfl;have z0:=aA R5.out (i:=0) rfl;have z1:=aA R5.out (i:=1) rfl;have fz:=fun z=>aG R5.out z)
     refine aI2 (b:=w.heap.size+1) (x:=x) (bA R5.out [.bool x.1,.bool x.2] rfl) rfl rfl ?_
     have F7:=aV (w.heap.size+1) [.bool x.1,.bool x.2] 0 (w5.alloc (.cells #[.bool x.1,.bool x.2] 72))
     refine⟨by rw [HX.out],?_,?_⟩
     ·rw [HS.out]
      have M6:=((XM.out.kept B5.out).kept ((Below.refl _ _).alloc lz9 (.cells #[.bool x.1,.bool x.2] 72)))
      exact(M6.fr F7 (fun e=>by
       obtain⟨es,cl,hb⟩:=M6.block
       rw [e,R5.out] at hb
       cases hb)).mono (by have:=hkz.out;omega)
     ·exact lY ((FW.out.then B5.out).then (bz9)) F7 (by omega)
end
section
attribute [local go_sem] Oper.semAt_some
theorem aH7{R:Ending->World->Prop}{a:Act}{W:World}{b:Nat}{x:Bool × Bool}(h:W.heap[b]?=some (.cells #[.bool x.1,.bool x.2] 72 (0,0)))(ha:a.tmps[6]?.getD undef=.pointer (some ⟨b,0,none⟩))(hd:a.defers=[])(hR:R (.returned (enA x)) W):bodyPost Tryz.prog Tryz.f42 R .ret a W:=by
 refine bodyPost_ret (v:=enA x) ?_ hd hR
 have z0:=aA h (i:=0) rfl;have z1:=aA h (i:=1) rfl
 simp [results,Tryz.results42,go_sem,ha,enA,z0,z1]
noncomputable def tvA (ρ:dH (Bool × Bool)) (c o:Bool) (t:Tr):Bool × Bool:=if aY c o 0 0 (pp [] t)=0 then (ev ρ (fun _=>(false,false)) t).1 else (false,false)
theorem bJ5{Glo:World->Prop}(hglo:∀ {A B:World},CK A B->Glo A->Glo B){w:World}(hgw:Glo w){t:Tr}{Good:Bool × Bool->Prop}{ρ:dH (Bool × Bool)}{c o:Bool}(hta:TB w t)(hr:RuA Glo (NP c o) Good ρ c o)(hg:∀ t xs g,NP c o t->xs.length=t.ks.length->(∀ x∈xs,Good x)->(∀ i,Good (g i))->Good (ρ t.f t.ks xs g))(h0:Good (false,false)) :
  Calls Tryz.prog 42 #[.agg #[.int .i64 t.f.k,.int .i64 t.f.n,.int .i64 t.f.mn,.int .i64 t.f.mx,.slice t.f.rq t.f.rs.length t.f.rc,.slice t.f.kq t.f.kl t.f.kc],.agg #[.bool c,.bool o],.func (.func 43) #[] #[]] w fun e w'=>e=.returned (enA (tvA ρ c o t))/\Below w.heap.size w w':=by
 have HTA:=aD hta
 have HGW:=aD hgw
 have HR:=aD hr
 clear hgw
 have HG:=aD hg
 have H0:=aD h0
 clear hta hr hg h0
 by_cases hz:aY c o 0 0 (pp [] t)=0
 ·have HV:Hid (tvA ρ c o t=(ev ρ (fun _=>(false,false)) t).1):=if_pos hz
  have HZ:=aD hz
  clear hz
  have hmm:=@run_makeMap Tryz.prog
  go_enter Tryz.func42,Tryz.ntmps42
  go_upto_region 8 with (go_at_call 53;refine(eE c o (HTA.out.kept ((((bz9).alloc (by simp only [World.size_alloc];omega) _).alloc (by simp only [World.size_alloc];omega) _).alloc (by simp only [World.size_alloc];omega) _))).mono ?_;rintro e w1 ⟨rfl,h1⟩;have B1:=aD h1;clear h1;have rz:=HZ.out)
  have l1:((((w.alloc (.cells #[.int .i64 t.f.k,.int .i64 t.f.n,.int .i64 t.f.mn,.int .i64 t.f.mx,.slice t.f.rq t.f.rs.length t.f.rc,.slice t.f.kq t.f.kl t.f.kc] 25)).alloc (.cells #[.bool c,.bool o] 27)).alloc (.cells #[.func (.func 43) #[] #[]] 74)).alloc (.cells #[.bool false,.bool false] 72)).heap.size<=w1.heap.size:=B1.out.size
  simp only [World.size_alloc] at l1
  have b1:w1.heap[w.heap.size]?=some (.cells #[.int .i64 t.f.k,.int .i64 t.f.n,.int .i64 t.f.mn,.int .i64 t.f.mx,.slice t.f.rq t.f.rs.length t.f.rc,.slice t.f.kq t.f.kl t.f.kc] 25 (0,0)):=(B1.out.block _ (by simp only [World.size_alloc];omega)).trans (by(repeat (first | exact aK _ (by first | rfl | simp only [World.size_alloc]) | rw [Below.heap_alloc _ _ _ (by first | omega |(simp only [World.size_alloc];omega))])))
  have b2:w1.heap[w.heap.size+1]?=some (.cells #[.bool c,.bool o] 27 (0,0)):=(B1.out.block _ (by simp only [World.size_alloc];omega)).trans (by(repeat (first | exact aK _ (by first | rfl | simp only [World.size_alloc]) | rw [Below.heap_alloc _ _ _ (by first | omega |(simp only [World.size_alloc];omega))])))
  have b3:w1.heap[w.heap.size+1+1]?=some (.cells #[.func (.func 43) #[] #[]] 74 (0,0)):=(B1.out.block _ (by simp only [World.size_alloc];omega)).trans (by(repeat (first | exact aK _ (by first | rfl | simp only [World.size_alloc]) | rw [Below.heap_alloc _ _ _ (by first | omega |(simp only [World.size_alloc];omega))])))
  have b4:w1.heap[w.heap.size+1+1+1]?=some (.cells #[.bool false,.bool false] 72 (0,0)):=(B1.out.block _ (by simp only [World.size_alloc];omega)).trans (by(repeat (first | exact aK _ (by first | rfl | simp only [World.size_alloc]) | rw [Below.heap_alloc _ _ _ (by first | omega |(simp only [World.size_alloc];omega))])))
  have TT:Hid (TWA ((((w1.alloc (.map #[] 0)).alloc (.cells #[.map (some w1.heap.size)] 127)).alloc (.cells #[.func (.func 80) #[] #[.pointer (some ⟨w1.heap.size+1,0,none⟩)]] 128)).alloc (.cells #[.func (.func 81) #[] #[.pointer (some ⟨w.heap.size+1,0,none⟩),.pointer (some ⟨w1.heap.size+1+1,0,none⟩),.pointer (some ⟨w1.heap.size+1+1+1,0,none⟩),.pointer (some ⟨w.heap.size+1+1,0,none⟩),.pointer (some ⟨w1.heap.size+1,0,none⟩)]] 129)) (w.heap.size+1) (w1.heap.size+1+1) (w1.heap.size+1+1+1) (w.heap.size+1+1) (w1.heap.size+1) w1.heap.size c o):=⟨by rw [<- b2];(repeat (first | exact aK _ (by first | rfl | simp only [World.size_alloc]) | rw [Below.heap_alloc _ _ _ (by first | omega |(simp only [World.size_alloc];omega))])),by(repeat (first | exact aK _ (by first | rfl | simp only [World.size_alloc]) | rw [Below.heap_alloc _ _ _ (by first | omega |(simp only [World.size_alloc];omega))])),by(repeat (first | exact aK _ (by first | rfl | simp only [World.size_alloc]) | rw [Below.heap_alloc _ _ _ (by first | omega |(simp only [World.size_alloc];omega))])),by rw [<- b3];(repeat (first | exact aK _ (by first | rfl | simp only [World.size_alloc]) | rw [Below.heap_alloc _ _ _ (by first | omega |(simp only [World.size_alloc];omega))])),by(repeat (first | exact aK _ (by first | rfl | simp only [World.size_alloc]) | rw [Below.heap_alloc _ _ _ (by first | omega |(simp only [World.size_alloc];omega))]))⟩
  have BX:Hid (Below w1.heap.size w1 ((((w1.alloc (.map #[] 0)).alloc (.cells #[.map (some w1.heap.size)] 127)).alloc (.cells #[.func (.func 80) #[] #[.pointer (some ⟨w1.heap.size+1,0,none⟩)]] 128)).alloc (.cells #[.func (.func 81) #[] #[.pointer (some ⟨w.heap.size+1,0,none⟩),.pointer (some ⟨w1.heap.size+1+1,0,none⟩),.pointer (some ⟨w1.heap.size+1+1+1,0,none⟩),.pointer (some ⟨w.heap.size+1+1,0,none⟩),.pointer (some ⟨w1.heap.size+1,0,none⟩)]] 129))):=(((bz9).alloc (by simp only [World.size_alloc];omega) _).alloc (by simp only [World.size_alloc];omega) _).alloc (by simp only [World.size_alloc];omega) _
  have MM:Hid (MapV ((((w1.alloc (.map #[] 0)).alloc (.cells #[.map (some w1.heap.size)] 127)).alloc (.cells #[.func (.func 80) #[] #[.pointer (some ⟨w1.heap.size+1,0,none⟩)]] 128)).alloc (.cells #[.func (.func 81) #[] #[.pointer (some ⟨w.heap.size+1,0,none⟩),.pointer (some ⟨w1.heap.size+1+1,0,none⟩),.pointer (some ⟨w1.heap.size+1+1+1,0,none⟩),.pointer (some ⟨w.heap.size+1+1,0,none⟩),.pointer (some ⟨w1.heap.size+1,0,none⟩)]] 129)) (.agg #[.bool false,.bool false]) w1.heap.size 0 (fun _=>enA (false,false))):=(((MapV.made w1 (.agg #[.bool false,.bool false])).kept (bz9)).kept (bz9)).kept (bz9)
  have BN:=aD ((BX.out.block _ (aB b1)).trans b1)
  have BR:=aD ((BX.out.block _ (aB b4)).trans b4)
  generalize hWX:((((w1.alloc (.map #[] 0)).alloc (.cells #[.map (some w1.heap.size)] 127)).alloc (.cells #[.func (.func 80) #[] #[.pointer (some ⟨w1.heap.size+1,0,none⟩)]] 128)).alloc (.cells #[.func (.func 81) #[] #[.pointer (some ⟨w.heap.size+1,0,none⟩),.pointer (some ⟨w1.heap.size+1+1,0,none⟩),.pointer (some ⟨w1.heap.size+1+1+1,0,none⟩),.pointer (some ⟨w.heap.size+1+1,0,none⟩),.pointer (some ⟨w1.heap.size+1,0,none⟩)]] 129))=WX at TT BX MM BN BR ⊢
  clear hWX b1 b2 b3 b4
  have B9:Hid (Below w.heap.size w WX):=aJ (aJ ((((bz9).alloc (by simp only [World.size_alloc];omega) _).alloc (by simp only [World.size_alloc];omega) _).alloc (by simp only [World.size_alloc];omega) _) B1.out lz9) BX.out lz9
  have hO:=bP6 hglo HR.out (fun t h k=>h.wf k) HG.out (w.heap.size+1) (w1.heap.size+1+1) (w1.heap.size+1+1+1) (w.heap.size+1+1) (w1.heap.size+1) w1.heap.size t.sz t WX 0 (fun _=>(false,false)) lz9 (by have:=iQ HZ.out;omega) (hglo (CK.of_below B9.out) HGW.out) (HTA.out.kept B9.out) (gC HZ.out) (fun _=>H0.out) TT.out MM.out
  obtain⟨x,hx⟩:∃ x,tvA ρ c o t=x:=⟨_,rfl⟩
  have HC:Hid (Calls Tryz.prog 81 #[.agg #[.int .i64 t.f.k,.int .i64 t.f.n,.int .i64 t.f.mn,.int .i64 t.f.mx,.slice t.f.rq t.f.rs.length t.f.rc,.slice t.f.kq t.f.kl t.f.kc],.pointer (some ⟨w.heap.size+1,0,none⟩),.pointer (some ⟨w1.heap.size+1+1,0,none⟩),.pointer (some ⟨w1.heap.size+1+1+1,0,none⟩),.pointer (some ⟨w.heap.size+1+1,0,none⟩),.pointer (some ⟨w1.heap.size+1,0,none⟩)] WX (fun e w'=>e=.returned (.agg #[.bool x.1,.bool x.2])/\Fr (fun k=>k=w1.heap.size) WX w')):=aD (hO.mono fun e w' h=>⟨by rw [h.1,<- HV.out,hx];rfl,h.2.2⟩)
  have HX:=aD hx
  clear hO hx
  have o0:WX.cell? ⟨w1.heap.size+1+1+1,0,none⟩=some (.func (.func 81) #[] #[.pointer (some ⟨w.heap.size+1,0,none⟩),.pointer (some ⟨w1.heap.size+1+1,0,none⟩),.pointer (some ⟨w1.heap.size+1+1+1,0,none⟩),.pointer (some ⟨w.heap.size+1+1,0,none⟩),.pointer (some ⟨w1.heap.size+1,0,none⟩)]):=aA TT.out.o (i:=0) rfl
  have n0:WX.cell? ⟨w.heap.size,0,none⟩=some (.int .i64 t.f.k):=aA BN.out (i:=0) rfl
  have n1:WX.cell? ⟨w.heap.size,1,none⟩=some (.int .i64 t.f.n):=aA BN.out (i:=1) rfl
  have n2:WX.cell? ⟨w.heap.size,2,none⟩=some (.int .i64 t.f.mn):=aA BN.out (i:=2) rfl
  have n3:WX.cell? ⟨w.heap.size,3,none⟩=some (.int .i64 t.f.mx):=aA BN.out (i:=3) rfl
  have n4:WX.cell? ⟨w.heap.size,4,none⟩=some (.slice t.f.rq t.f.rs.length t.f.rc):=aA BN.out (i:=4) rfl
  have n5:WX.cell? ⟨w.heap.size,5,none⟩=some (.slice t.f.kq t.f.kl t.f.kc):=aA BN.out (i:=5) rfl
  go_wp2_with (go_at_call 81;refine HC.out.mono ?_;rintro e w5 ⟨rfl,h5⟩;have F5:=aD h5;clear h5;have R5:Hid (w5.heap[w.heap.size+1+1+1]?=some (.cells #[.bool false,.bool false] 72 (0,0))):=(F5.out.block _ (aB BR.out) (fun e=>by omega)).trans BR.out;have z0:=aA R5.out (i:=0) rfl;have z1:=aA R5.out (i:=1) rfl;have fz:=fun z=>aG R5.out z)
  refine aH7 (b:=w.heap.size+1+1+1) (x:=x) (bA R5.out [.bool x.1,.bool x.2] rfl) rfl rfl ?_
  exact⟨by rw [HX.out],bC (bC B9.out F5.out lz9 (fun k e=>by rw [e];exact Nat.le_trans (by omega) l1)) (aV (w.heap.size+1+1+1) [.bool x.1,.bool x.2] 0 w5) lz9 (fun k e=>by omega)⟩
 ·have HV:Hid (tvA ρ c o t=(false,false)):=if_neg hz
  have HZ:=aD hz
  obtain⟨r,hrr⟩:∃ r,aY c o 0 0 (pp [] t)=r:=⟨_,rfl⟩
  have rz:(r==0)=false:=by rw [<- hrr];simpa using hz
  have rz2:(r != 0)=true:=by rw [bne,rz];rfl
  have HQ:=aD hrr
  clear hz hrr
  go_enter Tryz.func42,Tryz.ntmps42
  go_wp2_with (go_at_call 53;refine(eE c o (HTA.out.kept ((((bz9).alloc (by simp only [World.size_alloc];omega) _).alloc (by simp only [World.size_alloc];omega) _).alloc (by simp only [World.size_alloc];omega) _))).mono ?_;rw [HQ.out];rintro e w1 ⟨rfl,h1⟩;have B1:=aD h1;clear h1;have l1:((((w.alloc (.cells #[.int .i64 t.f.k,.int .i64 t.f.n,.int .i64 t.f.mn,.int .i64 t.f.mx,.slice t.f.rq t.f.rs.length t.f.rc,.slice t.f.kq t.f.kl t.f.kc] 25)).alloc (.cells #[.bool c,.bool o] 27)).alloc (.cells #[.func (.func 43) #[] #[]] 74)).alloc (.cells #[.bool false,.bool false] 72)).heap.size<=w1.heap.size:=B1.out.size;simp only [World.size_alloc] at l1;have RA:Hid ((w1.alloc (.cells #[.bool false,.bool false] 72)).heap[w.heap.size+1+1+1]?=some (.cells #[.bool false,.bool false] 72 (0,0))):=(Below.heap_alloc _ _ _ (by omega)).trans ((B1.out.block _ (by simp only [World.size_alloc];omega)).trans (by(repeat (first | exact aK _ (by first | rfl | simp only [World.size_alloc]) | rw [Below.heap_alloc _ _ _ (by first | omega |(simp only [World.size_alloc];omega))]))));have z0:=aA RA.out (i:=0) rfl;have z1:=aA RA.out (i:=1) rfl;have fz:=fun z=>aG RA.out z)
  refine aH7 (b:=w.heap.size+1+1+1) (x:=(false,false)) (bA RA.out [.bool false,.bool false] rfl) rfl rfl ?_
  exact⟨by rw [HV.out],bC ((aJ ((((bz9).alloc (by simp only [World.size_alloc];omega) _).alloc (by simp only [World.size_alloc];omega) _).alloc (by simp only [World.size_alloc];omega) _) B1.out lz9).alloc (by have:=(aJ ((((bz9).alloc (by simp only [World.size_alloc];omega) _).alloc (by simp only [World.size_alloc];omega) _).alloc (by simp only [World.size_alloc];omega) _) B1.out lz9).size;omega) _) (aV (w.heap.size+1+1+1) [.bool false,.bool false] 0 _) lz9 (fun k e=>by omega)⟩
end
section
attribute [local go_sem] Oper.semAt_some bB
def bP1(_:Bool × Bool):Prop:=True
def hP:dH (Bool × Bool):=fun f _ xs _=>
 if f.k=3 then (true,false) else if f.k=4 then (false,true) else if f.k=5 then ((xs.headD (false,false)).1,(xs.getLastD (false,false)).2) else if f.k=6 then (xs.all (·.1),xs.all (·.2))
 else if f.k=7 then xs.headD (false,false) else if f.k=9 then (if 0 < f.mn then xs.headD (false,false) else (false,false)) else (false,false)
theorem gS{R:Ending->World->Prop}{a:Act}{W:World}{b:Nat}{x:Bool × Bool}(h:W.heap[b]?=some (.cells #[.bool x.1,.bool x.2] 72 (0,0)))(ha:a.tmps[2]?.getD undef=.pointer (some ⟨b,0,none⟩))(hd:a.defers=[])(hR:R (.returned (enA x)) W):bodyPost Tryz.prog Tryz.f43 R .ret a W:=by
 refine bodyPost_ret (v:=enA x) ?_ hd hR
 have z0:=aA h (i:=0) rfl;have z1:=aA h (i:=1) rfl
 simp [results,Tryz.results43,go_sem,ha,enA,z0,z1]
def TwoA(W V:World)(x:Bool × Bool):Prop:=V.heap[W.heap.size+1]?=some (.cells #[.bool false,.bool false] 72 (0,0))/\V.heap[W.heap.size+1+1]?=some (.cells #[.bool x.1,.bool x.2] 72 (0,0))/\Below W.heap.size W V
theorem TwoA.put{W V:World}{x:Bool × Bool}(h:TwoA W V x)(y:Bool × Bool):TwoA W (bD V (W.heap.size+1+1) 0 [.bool y.1,.bool y.2]) y:=
 ⟨((aV _ _ 0 V).block _ (aB h.1) (by omega)).trans h.1,bA h.2.1 [.bool y.1,.bool y.2] rfl,bC h.2.2 (aV _ _ 0 V) lz9 (fun k e=>by omega)⟩
theorem TwoA.kept{W V V':World}{x:Bool × Bool}(h:TwoA W V x)(hb:Below V.heap.size V V'):TwoA W V' x:=
 ⟨(hb.block _ (aB h.1)).trans h.1,(hb.block _ (aB h.2.1)).trans h.2.1,aJ h.2.2 hb lz9⟩
theorem TwoA.set0{W V:World}{x:Bool × Bool}(h:TwoA W V x)(b:Bool):TwoA W (V.setCell ⟨W.heap.size+1+1,0,none⟩ (.bool b)) (b,x.2):=
 ⟨(((Fr.refl (fun k=>k=W.heap.size+1+1) V).setCell (p:=⟨W.heap.size+1+1,0,none⟩) rfl _).block _ (aB h.1) (by omega)).trans h.1,aO h.2.1 0 _,bC h.2.2 ((Fr.refl (fun k=>k=W.heap.size+1+1) V).setCell (p:=⟨W.heap.size+1+1,0,none⟩) rfl _) lz9 (fun k e=>by omega)⟩
theorem TwoA.set1{W V:World}{x:Bool × Bool}(h:TwoA W V x)(b:Bool):TwoA W (V.setCell ⟨W.heap.size+1+1,1,none⟩ (.bool b)) (x.1,b):=
 ⟨(((Fr.refl (fun k=>k=W.heap.size+1+1) V).setCell (p:=⟨W.heap.size+1+1,1,none⟩) rfl _).block _ (aB h.1) (by omega)).trans h.1,aO h.2.1 1 _,bC h.2.2 ((Fr.refl (fun k=>k=W.heap.size+1+1) V).setCell (p:=⟨W.heap.size+1+1,1,none⟩) rfl _) lz9 (fun k e=>by omega)⟩
theorem TwoA.end{W V:World}{x:Bool × Bool}(h:TwoA W V x):(bD V (W.heap.size+1) 0 [.bool x.1,.bool x.2]).heap[W.heap.size+1]?=some (.cells #[.bool x.1,.bool x.2] 72 (0,0))/\Below W.heap.size W (bD V (W.heap.size+1) 0 [.bool x.1,.bool x.2]):=
 ⟨bA h.1 [.bool x.1,.bool x.2] rfl,bC h.2.2 (aV _ _ 0 V) lz9 (fun k e=>by omega)⟩
theorem aF9(c o:Bool):RuA (fun _=>True) (NP c o) bP1 hP c o:=by
 intro t xs g W v bp bb n base _ hnp hsz hnb hlen hgx hgg hown hp hm
 obtain⟨qv,cv,rfl⟩:=aZ hown
 have HLEN:=aD hlen
 have hxl:xs.length<=1000000:=by rw [hlen];exact hsz
 have hc:∀ (i:Nat) (x:Bool × Bool),xs[i]?=some x->∃ gb,qv=some ⟨gb,0,none⟩/\gb < W.heap.size/\W.cell? ⟨gb,i * 2,none⟩=some (.bool x.1)/\W.cell? ⟨gb,i * 2+1,none⟩=some (.bool x.2):=fun i x hx=>by
  have hi:=(List.getElem?_eq_some_iff.1 hx).1
  obtain⟨gb,cb,e⟩:=aL hown (by omega)
  injection e with e1 e2 e3
  subst e1 e3
  have p1:=kW (fun x:Bool × Bool=>[Value.bool x.1,.bool x.2]) 2 (fun _=>rfl) xs i x hx 0 (by decide)
  have p2:=kW (fun x:Bool × Bool=>[Value.bool x.1,.bool x.2]) 2 (fun _=>rfl) xs i x hx 1 (by decide)
  exact⟨gb,rfl,(aH hown rfl).2.1,aU hown p1,aU hown p2⟩
 have HC:=aD hc
 clear hown hnb hgx hgg hp hm hlen hc hsz
 unfold dE
 go_enter Tryz.func43,Tryz.ntmps43
 go_upto_region 3 with fail
 have S0:Hid ((((W.alloc (.cells #[.int .i64 t.f.k,.int .i64 t.f.n,.int .i64 t.f.mn,.int .i64 t.f.mx,.slice t.f.rq t.f.rs.length t.f.rc,.slice t.f.kq t.f.kl t.f.kc,.bool c,.bool o,.slice qv xs.length cv,.func (.func 80) #[] #[bx bp]] 132)).alloc (.cells #[.bool false,.bool false] 72)).alloc (.cells #[.bool false,.bool false] 72)).heap[W.heap.size]?=some (.cells #[.int .i64 t.f.k,.int .i64 t.f.n,.int .i64 t.f.mn,.int .i64 t.f.mx,.slice t.f.rq t.f.rs.length t.f.rc,.slice t.f.kq t.f.kl t.f.kc,.bool c,.bool o,.slice qv xs.length cv,.func (.func 80) #[] #[bx bp]] 132 (0,0))):=(by(repeat (first | exact aK _ (by first | rfl | simp only [World.size_alloc]) | rw [Below.heap_alloc _ _ _ (by first | omega |(simp only [World.size_alloc];omega))])))
 have T0:Hid (TwoA W (((W.alloc (.cells #[.int .i64 t.f.k,.int .i64 t.f.n,.int .i64 t.f.mn,.int .i64 t.f.mx,.slice t.f.rq t.f.rs.length t.f.rc,.slice t.f.kq t.f.kl t.f.kc,.bool c,.bool o,.slice qv xs.length cv,.func (.func 80) #[] #[bx bp]] 132)).alloc (.cells #[.bool false,.bool false] 72)).alloc (.cells #[.bool false,.bool false] 72)) (false,false)):=⟨(Below.heap_alloc _ _ _ (by simp only [World.size_alloc];omega)).trans (aK _ (by simp only [World.size_alloc])),aK _ (by simp only [World.size_alloc]),((bz9).alloc (by simp only [World.size_alloc];omega) _).alloc (by simp only [World.size_alloc];omega) _⟩
 have l0:W.heap.size < (((W.alloc (.cells #[.int .i64 t.f.k,.int .i64 t.f.n,.int .i64 t.f.mn,.int .i64 t.f.mx,.slice t.f.rq t.f.rs.length t.f.rc,.slice t.f.kq t.f.kl t.f.kc,.bool c,.bool o,.slice qv xs.length cv,.func (.func 80) #[] #[bx bp]] 132)).alloc (.cells #[.bool false,.bool false] 72)).alloc (.cells #[.bool false,.bool false] 72)).heap.size:=by simp only [World.size_alloc];omega
 have l1:W.heap.size+1 < (((W.alloc (.cells #[.int .i64 t.f.k,.int .i64 t.f.n,.int .i64 t.f.mn,.int .i64 t.f.mx,.slice t.f.rq t.f.rs.length t.f.rc,.slice t.f.kq t.f.kl t.f.kc,.bool c,.bool o,.slice qv xs.length cv,.func (.func 80) #[] #[bx bp]] 132)).alloc (.cells #[.bool false,.bool false] 72)).alloc (.cells #[.bool false,.bool false] 72)).heap.size:=by simp only [World.size_alloc];omega
 have l2:W.heap.size+1+1 < (((W.alloc (.cells #[.int .i64 t.f.k,.int .i64 t.f.n,.int .i64 t.f.mn,.int .i64 t.f.mx,.slice t.f.rq t.f.rs.length t.f.rc,.slice t.f.kq t.f.kl t.f.kc,.bool c,.bool o,.slice qv xs.length cv,.func (.func 80) #[] #[bx bp]] 132)).alloc (.cells #[.bool false,.bool false] 72)).alloc (.cells #[.bool false,.bool false] 72)).heap.size:=by simp only [World.size_alloc];omega
 generalize hW0:(((W.alloc (.cells #[.int .i64 t.f.k,.int .i64 t.f.n,.int .i64 t.f.mn,.int .i64 t.f.mx,.slice t.f.rq t.f.rs.length t.f.rc,.slice t.f.kq t.f.kl t.f.kc,.bool c,.bool o,.slice qv xs.length cv,.func (.func 80) #[] #[bx bp]] 132)).alloc (.cells #[.bool false,.bool false] 72)).alloc (.cells #[.bool false,.bool false] 72))=W0 at S0 T0 l0 l1 l2 ⊢
 clear hW0
 have s0:W0.cell? ⟨W.heap.size,0,none⟩=some (.int .i64 t.f.k):=aA S0.out (i:=0) rfl
 have s1:W0.cell? ⟨W.heap.size,1,none⟩=some (.int .i64 t.f.n):=aA S0.out (i:=1) rfl
 have s2:W0.cell? ⟨W.heap.size,2,none⟩=some (.int .i64 t.f.mn):=aA S0.out (i:=2) rfl
 have s3:W0.cell? ⟨W.heap.size,3,none⟩=some (.int .i64 t.f.mx):=aA S0.out (i:=3) rfl
 have s4:W0.cell? ⟨W.heap.size,4,none⟩=some (.slice t.f.rq t.f.rs.length t.f.rc):=aA S0.out (i:=4) rfl
 have s5:W0.cell? ⟨W.heap.size,5,none⟩=some (.slice t.f.kq t.f.kl t.f.kc):=aA S0.out (i:=5) rfl
 have s6:W0.cell? ⟨W.heap.size,6,none⟩=some (.bool c):=aA S0.out (i:=6) rfl
 have s7:W0.cell? ⟨W.heap.size,7,none⟩=some (.bool o):=aA S0.out (i:=7) rfl
 have s8:W0.cell? ⟨W.heap.size,8,none⟩=some (.slice qv xs.length cv):=aA S0.out (i:=8) rfl
 have s9:W0.cell? ⟨W.heap.size,9,none⟩=some (.func (.func 80) #[] #[bx bp]):=aA S0.out (i:=9) rfl
 rcases hQ hnp with hk | hk | hk | hk | hk | hk | hk | hk | hk
 ·have hv:Hid (hP t.f t.ks xs g=(false,false)):=(by unfold hP;rw [hk];rfl)
  have e3:(t.f.k==3)=false:=by rw [hk];rfl
  have e4:(t.f.k==4)=false:=by rw [hk];rfl
  have e5:(t.f.k==5)=false:=by rw [hk];rfl
  have e6:(t.f.k==6)=false:=by rw [hk];rfl
  have e7:(t.f.k==7)=false:=by rw [hk];rfl
  have e9:(t.f.k==9)=false:=by rw [hk];rfl
  clear hk hnp
  have z0:=aA T0.out.1 (i:=0) rfl
  have z1:=aA T0.out.1 (i:=1) rfl
  have y0:=aA T0.out.2.1 (i:=0) rfl
  have y1:=aA T0.out.2.1 (i:=1) rfl
  have fz:=fun z=>aG T0.out.1 z
  have fy:=fun z=>aG T0.out.2.1 z
  go_wp2
  refine gS (b:=W.heap.size+1) (x:=(false,false)) T0.out.end.1 rfl rfl ?_
  exact⟨by rw [hv.out],T0.out.end.2⟩
 ·have hv:Hid (hP t.f t.ks xs g=(false,false)):=(by unfold hP;rw [hk];rfl)
  have e3:(t.f.k==3)=false:=by rw [hk];rfl
  have e4:(t.f.k==4)=false:=by rw [hk];rfl
  have e5:(t.f.k==5)=false:=by rw [hk];rfl
  have e6:(t.f.k==6)=false:=by rw [hk];rfl
  have e7:(t.f.k==7)=false:=by rw [hk];rfl
  have e9:(t.f.k==9)=false:=by rw [hk];rfl
  clear hk hnp
  have z0:=aA T0.out.1 (i:=0) rfl
  have z1:=aA T0.out.1 (i:=1) rfl
  have y0:=aA T0.out.2.1 (i:=0) rfl
  have y1:=aA T0.out.2.1 (i:=1) rfl
  have fz:=fun z=>aG T0.out.1 z
  have fy:=fun z=>aG T0.out.2.1 z
  go_wp2
  refine gS (b:=W.heap.size+1) (x:=(false,false)) T0.out.end.1 rfl rfl ?_
  exact⟨by rw [hv.out],T0.out.end.2⟩
 ·have hv:Hid (hP t.f t.ks xs g=(true,false)):=(by unfold hP;rw [hk];rfl)
  have e3:(t.f.k==3)=true:=by rw [hk];rfl
  have e4:(t.f.k==4)=false:=by rw [hk];rfl
  have e5:(t.f.k==5)=false:=by rw [hk];rfl
  have e6:(t.f.k==6)=false:=by rw [hk];rfl
  have e7:(t.f.k==7)=false:=by rw [hk];rfl
  have e9:(t.f.k==9)=false:=by rw [hk];rfl
  clear hk hnp
  have z0:=aA T0.out.1 (i:=0) rfl
  have z1:=aA T0.out.1 (i:=1) rfl
  have y0:=aA T0.out.2.1 (i:=0) rfl
  have y1:=aA T0.out.2.1 (i:=1) rfl
  have fz:=fun z=>aG T0.out.1 z
  have fy:=fun z=>aG T0.out.2.1 z
  go_wp2
  have T6:=T0.out.set0 true
  refine gS (b:=W.heap.size+1) (x:=(true,false)) T6.end.1 rfl rfl ?_
  exact⟨by rw [hv.out],T6.end.2⟩
 ·have hv:Hid (hP t.f t.ks xs g=(false,true)):=(by unfold hP;rw [hk];rfl)
  have e3:(t.f.k==3)=false:=by rw [hk];rfl
  have e4:(t.f.k==4)=true:=by rw [hk];rfl
  have e5:(t.f.k==5)=false:=by rw [hk];rfl
  have e6:(t.f.k==6)=false:=by rw [hk];rfl
  have e7:(t.f.k==7)=false:=by rw [hk];rfl
  have e9:(t.f.k==9)=false:=by rw [hk];rfl
  clear hk hnp
  have z0:=aA T0.out.1 (i:=0) rfl
  have z1:=aA T0.out.1 (i:=1) rfl
  have y0:=aA T0.out.2.1 (i:=0) rfl
  have y1:=aA T0.out.2.1 (i:=1) rfl
  have fz:=fun z=>aG T0.out.1 z
  have fy:=fun z=>aG T0.out.2.1 z
  go_wp2
  have T6:=T0.out.set1 true
  refine gS (b:=W.heap.size+1) (x:=(false,true)) T6.end.1 rfl rfl ?_
  exact⟨by rw [hv.out],T6.end.2⟩
 ·have hmany:=rC hnp (.inl hk)
  rw [<- HLEN.out] at hmany
  obtain⟨⟨xa,xb⟩,hx⟩:∃ x,xs[0]?=some x:=⟨_,List.getElem?_eq_getElem (by omega)⟩
  obtain⟨⟨ya,yb⟩,hy⟩:∃ x,xs[xs.length - 1]?=some x:=⟨_,List.getElem?_eq_getElem (by omega)⟩
  have hv:Hid (hP t.f t.ks xs g=(xa,yb)):=(by
   have a1:xs.headD (false,false)=(xa,xb):=by
    match xs,hx with
    | y :: ys,h=>simp at h;simp [h]
   have a2:xs.getLastD (false,false)=(ya,yb):=by
    rw [List.getLastD_eq_getLast?,List.getLast?_eq_getElem?,hy];rfl
   unfold hP
   rw [hk,a1,a2]
   rfl)
  obtain⟨m,hml⟩:∃ m,xs.length=m+1:=⟨xs.length - 1,by omega⟩
  rw [hml] at hy hmany hxl
  rw [hml] at s8 ⊢
  obtain⟨gb,rfl,hg,c1,-⟩:=HC.out 0 _ hx
  obtain⟨gb',egb,-,-,c2⟩:=HC.out m _ (by simpa using hy)
  injection egb with egb
  injection egb with egb
  subst egb
  simp only [Nat.zero_mul] at c1
  have d1:=(T0.out.2.2.cell (p:=⟨gb,0,none⟩) hg).trans c1
  have d2:=(T0.out.2.2.cell (p:=⟨gb,m * 2+1,none⟩) hg).trans c2
  simp only at d1 d2
  have hg0:gb < W0.heap.size:=Nat.lt_of_lt_of_le hg T0.out.2.2.size
  have i1:IntKind.wrap .i64 ((m:Int)+1 - 1)=(m:Int):=by rw [IntKind.wrap_i64];omega
  have e3:(t.f.k==3)=false:=by rw [hk];rfl
  have e4:(t.f.k==4)=false:=by rw [hk];rfl
  have e5:(t.f.k==5)=true:=by rw [hk];rfl
  have e6:(t.f.k==6)=false:=by rw [hk];rfl
  have e7:(t.f.k==7)=false:=by rw [hk];rfl
  have e9:(t.f.k==9)=false:=by rw [hk];rfl
  clear hk hnp hx hy c1 c2 hml
  go_wp2
  refine aW (List.cons_ne_nil _ _) (by kernel_rfl) (by kernel_rfl) (by kernel_rfl) ?_
  dsimp only [List.dropLast,List.getLast]
  repeat (go_big_quiet_step (first | exact rfl))
  refine wpQuiet_nil ?_
  intro w3 hw
  have T3:Hid (TwoA W w3 (false,false)):=T0.out.kept (aQ hw)
  clear hw s0 s1 s2 s3 s4 s5 s6 s7 s8 s9 d1 d2
  have z0:=aA T3.out.1 (i:=0) rfl
  have z1:=aA T3.out.1 (i:=1) rfl
  have y0:=aA T3.out.2.1 (i:=0) rfl
  have y1:=aA T3.out.2.1 (i:=1) rfl
  have fz:=fun z=>aG T3.out.1 z
  have fy:=fun z=>aG T3.out.2.1 z
  go_wp2
  have T6:=T3.out.put (xa,yb)
  refine gS (b:=W.heap.size+1) (x:=(xa,yb)) T6.end.1 rfl rfl ?_
  exact⟨by rw [hv.out],T6.end.2⟩
 ·have hv:Hid (hP t.f t.ks xs g=(xs.all (·.1),xs.all (·.2))):=(by unfold hP;rw [hk];rfl)
  have e3:(t.f.k==3)=false:=by rw [hk];rfl
  have e4:(t.f.k==4)=false:=by rw [hk];rfl
  have e5:(t.f.k==5)=false:=by rw [hk];rfl
  have e6:(t.f.k==6)=true:=by rw [hk];rfl
  have e7:(t.f.k==7)=false:=by rw [hk];rfl
  have e9:(t.f.k==9)=false:=by rw [hk];rfl
  clear hk hnp
  have TI:Hid (TwoA W (bD W0 (W.heap.size+1+1) 0 [.bool true,.bool true]) ((xs.take 0).all (·.1),(xs.take 0).all (·.2))):=T0.out.put (true,true)
  have SI:Hid ((bD W0 (W.heap.size+1+1) 0 [.bool true,.bool true]).heap[W.heap.size]?=W0.heap[W.heap.size]?):=(aV _ _ 0 W0).block _ l0 (by omega)
  have z0:=aA T0.out.1 (i:=0) rfl
  have z1:=aA T0.out.1 (i:=1) rfl
  have y0:=aA T0.out.2.1 (i:=0) rfl
  have y1:=aA T0.out.2.1 (i:=1) rfl
  have fz:=fun z=>aG T0.out.1 z
  have fy:=fun z=>aG T0.out.2.1 z
  go_upto_region 12 with fail
  clear z0 z1 y0 y1 fz fy
  change Code.wp _ _ _ _ (bD W0 (W.heap.size+1+1) 0 [.bool true,.bool true])
  generalize bD W0 (W.heap.size+1+1) 0 [.bool true,.bool true]=WI at TI SI ⊢
  go_loopw [38] (fun i wr=>∃ j:Nat,j<=xs.length/\i=.int .i64 (j:Int)/\TwoA W wr ((xs.take j).all (·.1),(xs.take j).all (·.2))) (fun i _=>xs.length - (intOf i).toNat)
  case atStart=>exact⟨0,Nat.zero_le _,rfl,TI.out⟩
  case round=>
   obtain⟨j,hj,rfl,ht⟩:=hrel
   obtain⟨ya,hya⟩:∃ y,(xs.take j).all (·.1)=y:=⟨_,rfl⟩
   obtain⟨yb,hyb⟩:∃ y,(xs.take j).all (·.2)=y:=⟨_,rfl⟩
   rw [hya,hyb] at ht
   have TT:=aD ht
   have HY:=aD (And.intro hya hyb)
   clear ht hya hyb
   by_cases hjl:j < xs.length
   ·obtain⟨⟨xa,xb⟩,hx⟩:∃ x,xs[j]?=some x:=⟨_,List.getElem?_eq_getElem hjl⟩
    have FN:=aD (show ((xs.take (j+1)).all (·.1),(xs.take (j+1)).all (·.2))=(ya && xa,yb && xb) by rw [List.take_add_one,hx,Option.toList_some,List.all_append,List.all_append,HY.out.1,HY.out.2];simp)
    have e1:(j:Int) < (xs.length:Int):=by omega
    obtain⟨gb,rfl,hg',c1,c2⟩:=HC.out j _ hx
    have d1:=(TT.out.2.2.cell (p:=⟨gb,j * 2,none⟩) hg').trans c1
    have d2:=(TT.out.2.2.cell (p:=⟨gb,j * 2+1,none⟩) hg').trans c2
    simp only at d1 d2
    have T1:Hid (TwoA W (wr.alloc (.cells #[.bool xa,.bool xb] 72)) (ya,yb)):=TT.out.kept (bz9)
    have k0:(wr.alloc (.cells #[.bool xa,.bool xb] 72)).cell? ⟨wr.heap.size,0,none⟩=some (.bool xa):=aA (aE wr _) (i:=0) rfl
    have k1:(wr.alloc (.cells #[.bool xa,.bool xb] 72)).cell? ⟨wr.heap.size,1,none⟩=some (.bool xb):=aA (aE wr _) (i:=1) rfl
    clear c1 c2 hx
    go_upto_region 14 with fail
    generalize hW1:wr.alloc (.cells #[.bool xa,.bool xb] 72)=W1 at T1 k0 k1 ⊢
    clear hW1 d1 d2
    cases ya with
    | true=>
     cases yb with
     | true=>
      have y0:=aA T1.out.2.1 (i:=0) rfl
      have y1:=aA T1.out.2.1 (i:=1) rfl
      have fy:=fun z=>aG T1.out.2.1 z
      go_wp2
      go_roundw
      case rel=>exact⟨j+1,by omega,by go_num,by rw [FN.out];exact T1.out.put (xa,xb)⟩
      case measure=>simp only [intOf];omega
     | false=>
      have y0:=aA T1.out.2.1 (i:=0) rfl
      have y1:=aA T1.out.2.1 (i:=1) rfl
      have fy:=fun z=>aG T1.out.2.1 z
      go_wp2
      go_roundw
      case rel=>exact⟨j+1,by omega,by go_num,by rw [FN.out];exact T1.out.put (xa,false)⟩
      case measure=>simp only [intOf];omega
    | false=>
     cases yb with
     | true=>
      have y0:=aA T1.out.2.1 (i:=0) rfl
      have y1:=aA T1.out.2.1 (i:=1) rfl
      have fy:=fun z=>aG T1.out.2.1 z
      go_wp2
      go_roundw
      case rel=>exact⟨j+1,by omega,by go_num,by rw [FN.out];exact T1.out.put (false,xb)⟩
      case measure=>simp only [intOf];omega
     | false=>
      have y0:=aA T1.out.2.1 (i:=0) rfl
      have y1:=aA T1.out.2.1 (i:=1) rfl
      have fy:=fun z=>aG T1.out.2.1 z
      go_wp2
      go_roundw
      case rel=>exact⟨j+1,by omega,by go_num,by rw [FN.out];exact T1.out.put (false,false)⟩
      case measure=>simp only [intOf];omega
   ·have e1:¬ (j:Int) < (xs.length:Int):=by omega
    rw [List.take_of_length_le (by omega)] at HY
    rw [HY.out.1,HY.out.2] at hv
    have z0:=aA TT.out.1 (i:=0) rfl
    have z1:=aA TT.out.1 (i:=1) rfl
    have y0:=aA TT.out.2.1 (i:=0) rfl
    have y1:=aA TT.out.2.1 (i:=1) rfl
    have fz:=fun z=>aG TT.out.1 z
    have fy:=fun z=>aG TT.out.2.1 z
    go_wp2
    refine gS (b:=W.heap.size+1) (x:=(ya,yb)) TT.out.end.1 rfl rfl ?_
    exact⟨by rw [hv.out],TT.out.end.2⟩
 ·obtain⟨x,rfl⟩:∃ x,xs=[x]:=by
   have:=fG hnp (.inl hk)
   match xs,HLEN.out with
   | [x],_=>exact⟨x,rfl⟩
   | [],e=>rw [this] at e;simp at e
   | _ :: _ :: _,e=>rw [this] at e;simp at e
  obtain⟨gb,rfl,hg,c1,c2⟩:=HC.out 0 x rfl
  simp only [Nat.zero_mul,Nat.zero_add] at c1 c2
  have d1:=(T0.out.2.2.cell (p:=⟨gb,0,none⟩) hg).trans c1
  have d2:=(T0.out.2.2.cell (p:=⟨gb,1,none⟩) hg).trans c2
  have hg0:gb < W0.heap.size:=Nat.lt_of_lt_of_le hg T0.out.2.2.size
  have ng1:gb≠W.heap.size+1:=by omega
  have ng2:gb≠W.heap.size+1+1:=by omega
  simp only [List.length_cons,List.length_nil,Nat.zero_add] at s8 ⊢
  obtain⟨xa,xb⟩:=x
  simp only at d1 d2
  have hv:Hid (hP t.f t.ks [(xa,xb)] g=(xa,xb)):=(by unfold hP;rw [hk];rfl)
  have e3:(t.f.k==3)=false:=by rw [hk];rfl
  have e4:(t.f.k==4)=false:=by rw [hk];rfl
  have e5:(t.f.k==5)=false:=by rw [hk];rfl
  have e6:(t.f.k==6)=false:=by rw [hk];rfl
  have e7:(t.f.k==7)=true:=by rw [hk];rfl
  have e9:(t.f.k==9)=false:=by rw [hk];rfl
  clear hk hnp
  have z0:=aA T0.out.1 (i:=0) rfl
  have z1:=aA T0.out.1 (i:=1) rfl
  have y0:=aA T0.out.2.1 (i:=0) rfl
  have y1:=aA T0.out.2.1 (i:=1) rfl
  have fz:=fun z=>aG T0.out.1 z
  have fy:=fun z=>aG T0.out.2.1 z
  go_wp2
  have T6:=T0.out.put (xa,xb)
  refine gS (b:=W.heap.size+1) (x:=(xa,xb)) T6.end.1 rfl rfl ?_
  exact⟨by rw [hv.out],T6.end.2⟩
 ·have hv:Hid (hP t.f t.ks xs g=(false,false)):=(by unfold hP;rw [hk];rfl)
  have e3:(t.f.k==3)=false:=by rw [hk];rfl
  have e4:(t.f.k==4)=false:=by rw [hk];rfl
  have e5:(t.f.k==5)=false:=by rw [hk];rfl
  have e6:(t.f.k==6)=false:=by rw [hk];rfl
  have e7:(t.f.k==7)=false:=by rw [hk];rfl
  have e9:(t.f.k==9)=false:=by rw [hk];rfl
  clear hk hnp
  have z0:=aA T0.out.1 (i:=0) rfl
  have z1:=aA T0.out.1 (i:=1) rfl
  have y0:=aA T0.out.2.1 (i:=0) rfl
  have y1:=aA T0.out.2.1 (i:=1) rfl
  have fz:=fun z=>aG T0.out.1 z
  have fy:=fun z=>aG T0.out.2.1 z
  go_wp2
  refine gS (b:=W.heap.size+1) (x:=(false,false)) T0.out.end.1 rfl rfl ?_
  exact⟨by rw [hv.out],T0.out.end.2⟩
 ·obtain⟨x,rfl⟩:∃ x,xs=[x]:=by
   have:=fG hnp (.inr hk)
   match xs,HLEN.out with
   | [x],_=>exact⟨x,rfl⟩
   | [],e=>rw [this] at e;simp at e
   | _ :: _ :: _,e=>rw [this] at e;simp at e
  obtain⟨gb,rfl,hg,c1,c2⟩:=HC.out 0 x rfl
  simp only [Nat.zero_mul,Nat.zero_add] at c1 c2
  have d1:=(T0.out.2.2.cell (p:=⟨gb,0,none⟩) hg).trans c1
  have d2:=(T0.out.2.2.cell (p:=⟨gb,1,none⟩) hg).trans c2
  have hg0:gb < W0.heap.size:=Nat.lt_of_lt_of_le hg T0.out.2.2.size
  have ng1:gb≠W.heap.size+1:=by omega
  have ng2:gb≠W.heap.size+1+1:=by omega
  simp only [List.length_cons,List.length_nil,Nat.zero_add] at s8 ⊢
  obtain⟨xa,xb⟩:=x
  simp only at d1 d2
  have e3:(t.f.k==3)=false:=by rw [hk];rfl
  have e4:(t.f.k==4)=false:=by rw [hk];rfl
  have e5:(t.f.k==5)=false:=by rw [hk];rfl
  have e6:(t.f.k==6)=false:=by rw [hk];rfl
  have e7:(t.f.k==7)=false:=by rw [hk];rfl
  have e9:(t.f.k==9)=true:=by rw [hk];rfl
  have z0:=aA T0.out.1 (i:=0) rfl
  have z1:=aA T0.out.1 (i:=1) rfl
  have y0:=aA T0.out.2.1 (i:=0) rfl
  have y1:=aA T0.out.2.1 (i:=1) rfl
  have fz:=fun z=>aG T0.out.1 z
  have fy:=fun z=>aG T0.out.2.1 z
  by_cases hm:0 < t.f.mn
  ·have hv:=aD (show hP t.f t.ks [(xa,xb)] g=(xa,xb) by unfold hP;rw [hk];simp [hm])
   clear hk hnp
   go_wp2
   have T6:=T0.out.put (xa,xb)
   refine gS (b:=W.heap.size+1) (x:=(xa,xb)) T6.end.1 rfl rfl ?_
   exact⟨by rw [hv.out],T6.end.2⟩
  ·have hv:=aD (show hP t.f t.ks [(xa,xb)] g=(false,false) by unfold hP;rw [hk];simp [hm])
   clear hk hnp
   go_wp2
   refine gS (b:=W.heap.size+1) (x:=(false,false)) T0.out.end.1 rfl rfl ?_
   exact⟨by rw [hv.out],T0.out.end.2⟩
end
end Go.Proofs.YtjafnbjipgediaaGreatDoor
