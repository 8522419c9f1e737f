/-
  Parts of the proof.
-/
import Derived.Test.YtlaimbkenbijeaaGreatDoorTextsProofA0
import Derived.Test.YtlaimbkenbijeaaGreatDoorTextsProofA1
import Derived.Test.YtlaimbkenbijeaaGreatDoorTextsProofB3
import Derived.Test.YtlaimbkenbijeaaGreatDoorTextsProofB0
import Derived.Deep.RegionHeld
import Derived.Laws.EntriesVeiled
import Derived.Test.YtlaimbkenbijeaaGreatDoorTextsProofB17
import Derived.Test.YtlaimbkenbijeaaGreatDoorTextsProofB20
import Derived.Test.YtlaimbkenbijeaaGreatDoorTextsProofB18
set_option maxRecDepth 100000
set_option maxHeartbeats 8000000
namespace Go.Proofs.YtlaimbkenbijeaaGreatDoor
open Go Go.RowKit
section
attribute [local go_sem] Oper.semAt_some
abbrev TWS:=TW 82 83 45 134 135 78 133
def enS(x:BitVec 256 × Bool):Value:=.agg #[.int .u64 (aC x.1 0),.int .u64 (aC x.1 1),.int .u64 (aC x.1 2),.int .u64 (aC x.1 3),.bool x.2]
def ceS(xs:List (BitVec 256 × Bool)):List Value:=xs.flatMap fun x=>[.int .u64 (aC x.1 0),.int .u64 (aC x.1 1),.int .u64 (aC x.1 2),.int .u64 (aC x.1 3),.bool x.2]
theorem wX(xs:List (BitVec 256 × Bool))(x:BitVec 256 × Bool):ceS (xs ++ [x])=ceS xs ++ [.int .u64 (aC x.1 0),.int .u64 (aC x.1 1),.int .u64 (aC x.1 2),.int .u64 (aC x.1 3),.bool x.2]:=by simp [ceS]
theorem aC4:Tryz.prog.underlying 136=some (.slice 76):=by kernel_rfl
theorem aS3:Tryz.prog.underlying 133=some (.map 3 76):=by kernel_rfl
theorem bK1:(Tryz.prog.info? 76).map (fun i=>(i.zero,i.size,i.bytes))=some (some (.agg #[.int .u64 0,.int .u64 0,.int .u64 0,.int .u64 0,.bool false]),5,40):=by kernel_rfl
def RuS(Glo:World->Prop)(NP:Tr->Prop)(Good:BitVec 256 × Bool->Prop)(ρ:dH (BitVec 256 × Bool))(c o:Bool):Prop:=
 ∀ (t:Tr) (xs:List (BitVec 256 × Bool)) (g:Int->BitVec 256 × Bool) (W:World) (v:Value) (bp bb n base:Nat),Glo W->NP t->t.ks.length<=1000000->NB W t->xs.length=t.ks.length->(∀ x∈xs,Good x)->(∀ i,Good (g i))->W.ownsRow base 76 5 v xs.length (ceS xs) ->
  W.heap[bp]?=some (.cells #[.map (some bb)] 133 (0,0))->MapV W (.agg #[.int .u64 0,.int .u64 0,.int .u64 0,.int .u64 0,.bool false]) bb n (fun i=>enS (g i)) ->
  Calls Tryz.prog 45 #[.agg (dE t.f c o v (.func (.func 82) #[] #[bx bp]))] W fun e w'=>e=.returned (enS (ρ t.f t.ks xs g))/\Below W.heap.size W w'
def OfS(ρ:dH (BitVec 256 × Bool))(w:World)(bb n:Nat)(t:Tr)(g:Int->BitVec 256 × Bool)(e:Ending)(w':World):Prop:=
 e=.returned (enS (ev ρ g t).1)/\MapV w' (.agg #[.int .u64 0,.int .u64 0,.int .u64 0,.int .u64 0,.bool false]) bb (n+t.sz) (fun i=>enS ((ev ρ g t).2 i))/\Fr (fun k=>k=bb) w w'
theorem aI0{R:Ending->World->Prop}{a:Act}{W:World}{b:Nat}{x:BitVec 256 × Bool}(h:W.heap[b]?=some (.cells #[.int .u64 (aC x.1 0),.int .u64 (aC x.1 1),.int .u64 (aC x.1 2),.int .u64 (aC x.1 3),.bool x.2] 76 (0,0)))(ha:a.tmps[7]?.getD undef=.pointer (some ⟨b,0,none⟩))(hd:a.defers=[])(hR:R (.returned (enS x)) W):bodyPost Tryz.prog Tryz.f83 R .ret a W:=by
 refine bodyPost_ret (v:=enS x) ?_ hd hR
 have z0:=aA h (i:=0) rfl;have z1:=aA h (i:=1) rfl;have z2:=aA h (i:=2) rfl;have z3:=aA h (i:=3) rfl;have z4:=aA h (i:=4) rfl
 simp [results,Tryz.results83,go_sem,ha,enS,z0,z1,z2,z3,z4]
structure LpS(ρ:dH (BitVec 256 × Bool))(W0 wr:World)(b s n:Nat)(t:Tr)(c o:Bool)(g:Int->BitVec 256 × Bool)(j:Nat)(v gv:Value):Prop where
 sc:wr.heap[s]?=some (.cells (dE t.f c o v gv) 138 (0,0))
 own:wr.ownsRow W0.heap.size 76 5 v j (ceS (evs ρ g (t.ks.take j)).1)
 mp:MapV wr (.agg #[.int .u64 0,.int .u64 0,.int .u64 0,.int .u64 0,.bool false]) b (n+szs (t.ks.take j)) (fun i=>enS ((evs ρ g (t.ks.take j)).2 i))
 fr:Fr (Wr2 b s) W0 wr
theorem bP3{Glo:World->Prop}(hglo:∀ {A B:World},CK A B->Glo A->Glo B){NP:Tr->Prop}{Good:BitVec 256 × Bool->Prop}{ρ:dH (BitVec 256 × Bool)}{c o:Bool}(hr:RuS Glo NP Good ρ c o)(hwf:∀ t,NP t->t.f.k=7->(Lit.int .i64 t.f.n).wf=true)(hg:∀ t xs g,NP t->xs.length=t.ks.length->(∀ x∈xs,Good x)->(∀ i,Good (g i))->Good (ρ t.f t.ks xs g))(bm bg bo br bp bb:Nat) :
  ∀ (m:Nat) (t:Tr) (w:World) (n:Nat) (g:Int->BitVec 256 × Bool),t.sz<=m->n+t.sz<=1000000->Glo w->TB w t->bY NP t->(∀ i,Good (g i))->TWS w bm bg bo br bp bb c o->MapV w (.agg #[.int .u64 0,.int .u64 0,.int .u64 0,.int .u64 0,.bool false]) bb n (fun i=>enS (g i)) ->
   Calls Tryz.prog 83 #[.agg #[.int .i64 t.f.k,.int .i64 t.f.n,.int .i64 t.f.mn,.int .i64 t.f.mx,.slice t.f.rq t.f.rs.length t.f.rc,.slice t.f.kq t.f.kl t.f.kc],bx bm,bx bg,bx bo,bx br,bx bp] w (OfS ρ w bb n t g):=by
 intro m
 induction m with
 | zero=>intro t w n g hm;exact absurd (eV t) (by omega)
 | succ m ih=>
  intro t w n g hm hn hgw hta hnp hgd htw hmp
  have HGW:=aD hgw
  clear hgw
  obtain⟨t0,ti,hz0,hz1,hz2⟩:=bH bK1
  have TI:Hid (Tryz.prog.info? 76=some t0/\t0.zero=some (.agg #[.int .u64 0,.int .u64 0,.int .u64 0,.int .u64 0,.bool false])/\t0.size=5/\t0.bytes=40):=⟨ti,hz0,hz1,hz2⟩
  clear ti hz0 hz1 hz2
  have HTA:=aD hta
  have HTW:=aD htw
  obtain⟨q,cap,hkv,hk1,hk2,hk3⟩:=hta.node.k.slice
  injection hkv with hkq hkl hkc
  subst hkq
  have HKL:=aD hkl
  have HK3:=aD hk3
  have hkm:t.ks.length<=9223372036854775807:=hk1
  have hkz:=aD (show szs t.ks+1=t.sz from (jG t).symm)
  clear hkl hkc hk3 hk1
  have m0:w.cell? ⟨bm,0,none⟩=some (.bool c):=aA htw.m (i:=0) rfl
  have m1:w.cell? ⟨bm,1,none⟩=some (.bool o):=aA htw.m (i:=1) rfl
  obtain⟨gv,hgv⟩:∃ gv,Value.func (.func 82) #[] #[bx bp]=gv:=⟨_,rfl⟩
  have g0:w.cell? ⟨bg,0,none⟩=some (.func (.func 82) #[] #[bx bp]):=aA htw.g (i:=0) rfl
  have l1:=aB htw.m
  have l2:=aB htw.g
  have IH:=aD ih
  have HR:=aD hr
  have HWF:=aD hwf
  have HG:=aD hg
  have HNP:=aD hnp
  have HGD:=aD hgd
  have HMP:=aD hmp
  have HM:=aD hm
  have HN:=aD hn
  have HGV:=aD hgv
  clear ih hr hwf hg hnp hgd hmp hm hn hta htw hgv
  go_enter Tryz.func83,Tryz.ntmps83
  go_upto_region 5 with fail
  have B0:Hid (Below w.heap.size w (((w.alloc (.cells #[.int .i64 t.f.k,.int .i64 t.f.n,.int .i64 t.f.mn,.int .i64 t.f.mx,.slice t.f.rq t.f.rs.length t.f.rc,.slice t.f.kq t.f.kl t.f.kc] 25)).alloc (.cells #[.int .u64 0,.int .u64 0,.int .u64 0,.int .u64 0,.bool false] 76)).alloc (.cells #[.int .i64 t.f.k,.int .i64 t.f.n,.int .i64 t.f.mn,.int .i64 t.f.mx,.slice t.f.rq t.f.rs.length t.f.rc,.slice t.f.kq t.f.kl t.f.kc,.bool c,.bool o,.slice none 0 0,.func (.func 82) #[] #[bx bp]] 138))):=((bz9).alloc (by simp only [a7];omega) _).alloc (by simp only [a7];omega) _
  have N0:Hid (BoxN (((w.alloc (.cells #[.int .i64 t.f.k,.int .i64 t.f.n,.int .i64 t.f.mn,.int .i64 t.f.mx,.slice t.f.rq t.f.rs.length t.f.rc,.slice t.f.kq t.f.kl t.f.kc] 25)).alloc (.cells #[.int .u64 0,.int .u64 0,.int .u64 0,.int .u64 0,.bool false] 76)).alloc (.cells #[.int .i64 t.f.k,.int .i64 t.f.n,.int .i64 t.f.mn,.int .i64 t.f.mx,.slice t.f.rq t.f.rs.length t.f.rc,.slice t.f.kq t.f.kl t.f.kc,.bool c,.bool o,.slice none 0 0,.func (.func 82) #[] #[bx bp]] 138)) w.heap.size t.f):=(Below.heap_alloc _ _ _ (by simp only [a7];omega)).trans ((Below.heap_alloc _ _ _ (by simp only [a7];omega)).trans (aE w _))
  have R0:Hid ((((w.alloc (.cells #[.int .i64 t.f.k,.int .i64 t.f.n,.int .i64 t.f.mn,.int .i64 t.f.mx,.slice t.f.rq t.f.rs.length t.f.rc,.slice t.f.kq t.f.kl t.f.kc] 25)).alloc (.cells #[.int .u64 0,.int .u64 0,.int .u64 0,.int .u64 0,.bool false] 76)).alloc (.cells #[.int .i64 t.f.k,.int .i64 t.f.n,.int .i64 t.f.mn,.int .i64 t.f.mx,.slice t.f.rq t.f.rs.length t.f.rc,.slice t.f.kq t.f.kl t.f.kc,.bool c,.bool o,.slice none 0 0,.func (.func 82) #[] #[bx bp]] 138)).heap[w.heap.size+1]?=some (.cells #[.int .u64 0,.int .u64 0,.int .u64 0,.int .u64 0,.bool false] 76 (0,0))):=(by have:=aE (w.alloc (.cells #[.int .i64 t.f.k,.int .i64 t.f.n,.int .i64 t.f.mn,.int .i64 t.f.mx,.slice t.f.rq t.f.rs.length t.f.rc,.slice t.f.kq t.f.kl t.f.kc] 25)) (.cells #[.int .u64 0,.int .u64 0,.int .u64 0,.int .u64 0,.bool false] 76);rw [a7] at this;exact(Below.heap_alloc _ _ _ (by simp)).trans this)
  have S0:Hid ((((w.alloc (.cells #[.int .i64 t.f.k,.int .i64 t.f.n,.int .i64 t.f.mn,.int .i64 t.f.mx,.slice t.f.rq t.f.rs.length t.f.rc,.slice t.f.kq t.f.kl t.f.kc] 25)).alloc (.cells #[.int .u64 0,.int .u64 0,.int .u64 0,.int .u64 0,.bool false] 76)).alloc (.cells #[.int .i64 t.f.k,.int .i64 t.f.n,.int .i64 t.f.mn,.int .i64 t.f.mx,.slice t.f.rq t.f.rs.length t.f.rc,.slice t.f.kq t.f.kl t.f.kc,.bool c,.bool o,.slice none 0 0,.func (.func 82) #[] #[bx bp]] 138)).heap[w.heap.size+1+1]?=some (.cells (dE t.f c o (.slice none 0 0) (.func (.func 82) #[] #[bx bp])) 138 (0,0))):=(by have:=aE ((w.alloc (.cells #[.int .i64 t.f.k,.int .i64 t.f.n,.int .i64 t.f.mn,.int .i64 t.f.mx,.slice t.f.rq t.f.rs.length t.f.rc,.slice t.f.kq t.f.kl t.f.kc] 25)).alloc (.cells #[.int .u64 0,.int .u64 0,.int .u64 0,.int .u64 0,.bool false] 76)) (.cells #[.int .i64 t.f.k,.int .i64 t.f.n,.int .i64 t.f.mn,.int .i64 t.f.mx,.slice t.f.rq t.f.rs.length t.f.rc,.slice t.f.kq t.f.kl t.f.kc,.bool c,.bool o,.slice none 0 0,.func (.func 82) #[] #[bx bp]] 138);simp only [a7] at this;exact this)
  generalize hW0:(((w.alloc (.cells #[.int .i64 t.f.k,.int .i64 t.f.n,.int .i64 t.f.mn,.int .i64 t.f.mx,.slice t.f.rq t.f.rs.length t.f.rc,.slice t.f.kq t.f.kl t.f.kc] 25)).alloc (.cells #[.int .u64 0,.int .u64 0,.int .u64 0,.int .u64 0,.bool false] 76)).alloc (.cells #[.int .i64 t.f.k,.int .i64 t.f.n,.int .i64 t.f.mn,.int .i64 t.f.mx,.slice t.f.rq t.f.rs.length t.f.rc,.slice t.f.kq t.f.kl t.f.kc,.bool c,.bool o,.slice none 0 0,.func (.func 82) #[] #[bx bp]] 138))=W0 at B0 N0 R0 S0 ⊢
  clear hW0
  obtain⟨bs,hbs⟩:∃ bs,w.heap.size+1+1=bs:=⟨_,rfl⟩
  have HBS:Hid (w.heap.size<=bs/\bs < W0.heap.size/\bs=w.heap.size+1+1):=⟨by omega,by rw [<- hbs];exact aB S0.out,hbs.symm⟩
  rw [hbs] at S0 ⊢
  clear hbs
  have MB:Hid (∃ es clock,W0.heap[bb]?=some (.map es clock)):=aD (by obtain⟨es,cl,hb⟩:=HMP.out.block;exact⟨es,cl,(B0.out.block _ (aB hb)).trans hb⟩)
  go_loopw [19] (fun i wr=>∃ (j:Nat) (v:Value),j<=t.ks.length/\i=.int .i64 (j:Int)/\LpS ρ W0 wr bb bs n t c o g j v (.func (.func 82) #[] #[bx bp])) (fun i _=>t.ks.length - (intOf i).toNat)
  case atStart=>exact⟨0,_,m9 _,rfl,S0.out,(by rw [aAS,cX];exact⟨rfl,.inl ⟨rfl,rfl⟩⟩),(by rw [aAS,cX,fZ];exact HMP.out.kept B0.out),Fr.refl _ _⟩
  case round=>
   clear S0
   obtain⟨j,v,hj,rfl,hlp⟩:=hrel
   obtain⟨qv,cv,rfl⟩:=aZ hlp.own
   have LP:=aD hlp
   have CW:Hid (CK w wr):=fQ MB.out HBS.out.1 B0.out hlp.fr
   clear hlp
   by_cases hjl:j < t.ks.length
   ·have e0:(j:Int) < (t.f.kl:Int):=by rw [HKL.out];omega
    obtain⟨u,hu⟩:∃ u,t.ks[j]?=some u:=⟨_,g9 hjl⟩
    obtain⟨gq,off,hq,hgl,hsix⟩:=HK3.out j u hu
    rw [hq]
    obtain⟨c0,c1,c2,c3,c4,c5⟩:=hsix.ck CW.out hgl
    have HU:=aD hu
    have hin:u∈t.ks:=i9 hu
    clear hsix hu
    have SK:Hid (Fr (Wr2 bb bs) W0 (wr.alloc (.cells #[.int .i64 u.f.k,.int .i64 u.f.n,.int .i64 u.f.mn,.int .i64 u.f.mx,.slice u.f.rq u.f.rs.length u.f.rc,.slice u.f.kq u.f.kl u.f.kc] 25)).drew/\BoxN (wr.alloc (.cells #[.int .i64 u.f.k,.int .i64 u.f.n,.int .i64 u.f.mn,.int .i64 u.f.mx,.slice u.f.rq u.f.rs.length u.f.rc,.slice u.f.kq u.f.kl u.f.kc] 25)).drew wr.heap.size u.f):=⟨(LP.out.fr.alloc _).drew,aE wr _⟩
    have NE:Hid (¬ wr.heap.size=bb/\¬ bb=bs):=⟨fun e=>by have:=LP.out.mp.lt;omega,fun e=>by
     obtain⟨es,cl,hb⟩:=LP.out.mp.block
     rw [e,LP.out.sc] at hb
     cases hb⟩
    have NE3:Hid (wr.heap.size≠bs):=fun e=>by have:=aB LP.out.sc;omega
    have CB:Hid ((wr.alloc (.cells #[.int .i64 u.f.k,.int .i64 u.f.n,.int .i64 u.f.mn,.int .i64 u.f.mx,.slice u.f.rq u.f.rs.length u.f.rc,.slice u.f.kq u.f.kl u.f.kc] 25)).drew.heap[bs]?=some (.cells (dE t.f c o (.slice qv j cv) (.func (.func 82) #[] #[bx bp])) 138 (0,0))):=(Below.heap_alloc wr _ _ (aB LP.out.sc)).trans LP.out.sc
    have k8:(wr.alloc (.cells #[.int .i64 u.f.k,.int .i64 u.f.n,.int .i64 u.f.mn,.int .i64 u.f.mx,.slice u.f.rq u.f.rs.length u.f.rc,.slice u.f.kq u.f.kl u.f.kc] 25)).drew.cell? ⟨bs,8,none⟩=some (.slice qv j cv):=aA CB.out (i:=8) rfl
    have QC:Hid (∀ w',(Fr (Wr2 bb bs) W0 w'/\BoxN w' wr.heap.size u.f)->w'.cell? ⟨bo,0,none⟩=some (.func (.func 83) #[] #[bx bm,bx bg,bx bo,bx br,bx bp])/\w'.cell? ⟨wr.heap.size,0,none⟩=some (.int .i64 u.f.k)/\w'.cell? ⟨wr.heap.size,1,none⟩=some (.int .i64 u.f.n)/\w'.cell? ⟨wr.heap.size,2,none⟩=some (.int .i64 u.f.mn)/\w'.cell? ⟨wr.heap.size,3,none⟩=some (.int .i64 u.f.mx)/\w'.cell? ⟨wr.heap.size,4,none⟩=some (.slice u.f.rq u.f.rs.length u.f.rc)/\w'.cell? ⟨wr.heap.size,5,none⟩=some (.slice u.f.kq u.f.kl u.f.kc)):=fun w' hS=>by
     have six:=hS.2.six
     simp only [Six,g8] at six
     exact⟨aA (HTW.out.ck (fQ MB.out HBS.out.1 B0.out hS.1)).o (i:=0) rfl,six⟩
    have MK:Hid (MapV (wr.alloc (.cells #[.int .i64 u.f.k,.int .i64 u.f.n,.int .i64 u.f.mn,.int .i64 u.f.mx,.slice u.f.rq u.f.rs.length u.f.rc,.slice u.f.kq u.f.kl u.f.kc] 25)).drew (.agg #[.int .u64 0,.int .u64 0,.int .u64 0,.int .u64 0,.bool false]) bb (n+szs (t.ks.take j)) (fun i=>enS ((evs ρ g (t.ks.take j)).2 i))):=LP.out.mp.kept ((bz9).drew)
    have OK:Hid ((wr.alloc (.cells #[.int .i64 u.f.k,.int .i64 u.f.n,.int .i64 u.f.mn,.int .i64 u.f.mx,.slice u.f.rq u.f.rs.length u.f.rc,.slice u.f.kq u.f.kl u.f.kc] 25)).drew.ownsRow W0.heap.size 76 5 (.slice qv j cv) j (ceS (evs ρ g (t.ks.take j)).1)):=aBO (l9 LP.out.own _)
    have CK2:Hid (CK w (wr.alloc (.cells #[.int .i64 u.f.k,.int .i64 u.f.n,.int .i64 u.f.mn,.int .i64 u.f.mx,.slice u.f.rq u.f.rs.length u.f.rc,.slice u.f.kq u.f.kl u.f.kc] 25)).drew):=fQ MB.out HBS.out.1 B0.out SK.out.1
    have LJ:=aD (show j<=1000000 by have:=eM t.ks;have:=hkz.out;have:=HN.out;omega)
    have IH0:=IH.out u (wr.alloc (.cells #[.int .i64 u.f.k,.int .i64 u.f.n,.int .i64 u.f.mn,.int .i64 u.f.mx,.slice u.f.rq u.f.rs.length u.f.rc,.slice u.f.kq u.f.kl u.f.kc] 25)).drew (n+szs (t.ks.take j)) (evs ρ g (t.ks.take j)).2 (by have:=dM hin;have:=HM.out;omega)
     (by have:=pP t.ks (j+1);rw [cC HU.out] at this;have:=hkz.out;have:=HN.out;omega) (hglo CK2.out HGW.out) ((HTA.out.ck CK2.out).kid hin) (bI HNP.out hin)
     (eY HG.out (t.ks.take j) g (fun u hu=>bI HNP.out (aAU hu)) HGD.out).2 (HTW.out.ck CK2.out) MK.out
    obtain⟨x5,hx5⟩:∃ x,(ev ρ (evs ρ g (t.ks.take j)).2 u).1=x:=⟨_,rfl⟩
    have IHU:Hid (Calls Tryz.prog 83 #[.agg #[.int .i64 u.f.k,.int .i64 u.f.n,.int .i64 u.f.mn,.int .i64 u.f.mx,.slice u.f.rq u.f.rs.length u.f.rc,.slice u.f.kq u.f.kl u.f.kc],bx bm,bx bg,bx bo,bx br,bx bp] (wr.alloc (.cells #[.int .i64 u.f.k,.int .i64 u.f.n,.int .i64 u.f.mn,.int .i64 u.f.mx,.slice u.f.rq u.f.rs.length u.f.rc,.slice u.f.kq u.f.kl u.f.kc] 25)).drew (fun e w'=>e=.returned (.agg #[.int .u64 (aC x5.1 0),.int .u64 (aC x5.1 1),.int .u64 (aC x5.1 2),.int .u64 (aC x5.1 3),.bool x5.2])/\MapV w' (.agg #[.int .u64 0,.int .u64 0,.int .u64 0,.int .u64 0,.bool false]) bb (n+szs (t.ks.take j)+u.sz) (fun i=>enS ((ev ρ (evs ρ g (t.ks.take j)).2 u).2 i))/\Fr (fun k=>k=bb) (wr.alloc (.cells #[.int .i64 u.f.k,.int .i64 u.f.n,.int .i64 u.f.mn,.int .i64 u.f.mx,.slice u.f.rq u.f.rs.length u.f.rc,.slice u.f.kq u.f.kl u.f.kc] 25)).drew w')):=aD (by subst hx5;exact IH0)
    have HX5:=aD hx5
    clear hin IH0 hx5
    go_wp2
    refine wp_region_held_drew (S:=fun w'=>Fr (Wr2 bb bs) W0 w'/\BoxN w' wr.heap.size u.f) (by kernel_rfl) SK.out (fun hHeld=>?_)
    refine aCD (v:=?_) 0 ?_ ?_
    rotate_left
    ·intro wz hSw;obtain⟨q0,q1,q2,q3,q4,q5,q6⟩:=QC.out wz hSw;clear hSw;go_simp;try with_reducible rfl
    dsimp only [Act.put,f4,b6,b7]
    simp only [a8,g4,g3]
    refine aCD (v:=?_) 2 ?_ ?_
    rotate_left
    ·intro wz hSw;obtain⟨q0,q1,q2,q3,q4,q5,q6⟩:=QC.out wz hSw;clear hSw;go_simp;try with_reducible rfl
    dsimp only [Act.put,f4,b6,b7]
    simp only [a8,g4,g3]
    refine aCD (v:=?_) 3 ?_ ?_
    rotate_left
    ·intro wz hSw;obtain⟨q0,q1,q2,q3,q4,q5,q6⟩:=QC.out wz hSw;clear hSw;go_simp;try with_reducible rfl
    dsimp only [Act.put,f4,b6,b7]
    simp only [a8,g4,g3]
    refine wpAnyH_ready (rs:=[1,4]) (by kernel_rfl) (by simp) ?_
    refine AllReadyH.cons rfl (fun K hK=>?_) (AllReadyH.cons rfl (fun K hK=>?_) AllReadyH.nil)
    ·go_simp
     refine hK.out _ _ SK.out (fun hHeld1=>?_)
     clear hK K
     refine wpAnyH_ready (rs:=[4]) (by kernel_rfl) (by simp) ?_
     refine AllReadyH.cons rfl (fun K hK=>?_) AllReadyH.nil
     go_simp
     go_at_call 83
     refine IHU.out.mono ?_
     rintro e w5 ⟨rfl,hm5,hf5⟩
     have M5:=aD hm5
     have F5:=aD hf5
     clear hm5 hf5
     have S5:Hid (Fr (Wr2 bb bs) W0 w5/\BoxN w5 wr.heap.size u.f):=⟨SK.out.1.trans (F5.out.mono (fun k e=>.inl e)),(F5.out.block _ (aB SK.out.2) (fun e=>NE.out.1 e)).trans SK.out.2⟩
     refine hK.out _ _ S5.out (fun hHeld2=>?_)
     clear hK K
     refine wpAnyH_ready (rs:=[5]) (by kernel_rfl) (by simp) ?_
     refine AllReadyH.cons rfl (fun K hK=>?_) AllReadyH.nil
     go_simp
     have S6:Hid (Fr (Wr2 bb bs) W0 (w5.alloc (.cells #[.int .u64 (aC x5.1 0),.int .u64 (aC x5.1 1),.int .u64 (aC x5.1 2),.int .u64 (aC x5.1 3),.bool x5.2] 76))/\BoxN (w5.alloc (.cells #[.int .u64 (aC x5.1 0),.int .u64 (aC x5.1 1),.int .u64 (aC x5.1 2),.int .u64 (aC x5.1 3),.bool x5.2] 76)) wr.heap.size u.f):=⟨S5.out.1.alloc _,(Below.heap_alloc _ _ _ (aB S5.out.2)).trans S5.out.2⟩
     refine hK.out _ _ S6.out (fun hHeld3=>?_)
     clear hK K
     refine wpAnyH_ready (rs:=[6]) (by kernel_rfl) (by simp) ?_
     refine AllReadyH.cons rfl (fun K hK=>?_) AllReadyH.nil
     have O6:Hid ((w5.alloc (.cells #[.int .u64 (aC x5.1 0),.int .u64 (aC x5.1 1),.int .u64 (aC x5.1 2),.int .u64 (aC x5.1 3),.bool x5.2] 76)).ownsRow W0.heap.size 76 5 (.slice qv j cv) j (ceS (evs ρ g (t.ks.take j)).1)):=l9 (aM OK.out F5.out (fun k e z=>bS OK.out MK.out.block (z ▸ e))) _
     refine bF rfl _ _ 136 rfl W0.heap.size 76 t0 (.agg #[.int .u64 0,.int .u64 0,.int .u64 0,.int .u64 0,.bool false]) 5 40 aC4 TI.out.1 TI.out.2.1 TI.out.2.2.1 TI.out.2.2.2 rfl (by decide) (.slice qv j cv) j (ceS (evs ρ g (t.ks.take j)).1) (by simp [Act.eval]) O6.out ⟨w5.heap.size,0,none⟩ 1 1 [.int .u64 (aC x5.1 0),.int .u64 (aC x5.1 1),.int .u64 (aC x5.1 2),.int .u64 (aC x5.1 3),.bool x5.2] (by simp [Act.eval]) rfl (cR w5 [.int .u64 (aC x5.1 0),.int .u64 (aC x5.1 1),.int .u64 (aC x5.1 2),.int .u64 (aC x5.1 3),.bool x5.2] _) (by simp [Value.oneCell']) (by have:=LJ.out;unfold maxLen;omega) (by have:=LJ.out;omega) (i8 S5.out.1.size (by simp only [a7];omega)) ?_
     intro v' w6 hown' hgrow hblk
     obtain⟨g6,cap6,rfl⟩:=aL hown' (aAC _)
     have O7:=aD hown'
     have G6:=aD hgrow
     clear hown' hgrow hblk
     have S7:Hid (Fr (Wr2 bb bs) W0 w6/\BoxN w6 wr.heap.size u.f):=⟨S6.out.1.grownNew G6.out (fun k e=>(aH O6.out e).1),(G6.out.block _ (aB S6.out.2) (fun e=>by
      have:=(aH LP.out.own e.symm).2.1
      omega)).trans S6.out.2⟩
     have C7:Hid (w6.heap[bs]?=some (.cells (dE t.f c o (.slice qv j cv) (.func (.func 82) #[] #[bx bp])) 138 (0,0))):=(by
      have e5:=(F5.out.block _ (aB CB.out) (fun e=>NE.out.2 e.symm)).trans CB.out
      have e6:=(Below.heap_alloc w5 (.cells #[.int .u64 (aC x5.1 0),.int .u64 (aC x5.1 1),.int .u64 (aC x5.1 2),.int .u64 (aC x5.1 3),.bool x5.2] 76) _ (aB e5)).trans e5
      exact(G6.out.block _ (aB e6) (fun e=>aP O6.out e6 (by decide) e.symm)).trans e6)
     have M7:Hid (MapV w6 (.agg #[.int .u64 0,.int .u64 0,.int .u64 0,.int .u64 0,.bool false]) bb (n+szs (t.ks.take j)+u.sz) (fun i=>enS ((ev ρ (evs ρ g (t.ks.take j)).2 u).2 i))):=(by
      have m6:=M5.out.kept ((Below.refl _ _).alloc lz9 (.cells #[.int .u64 (aC x5.1 0),.int .u64 (aC x5.1 1),.int .u64 (aC x5.1 2),.int .u64 (aC x5.1 3),.bool x5.2] 76))
      exact m6.same (G6.out.block _ m6.lt (fun e=>bS O6.out m6.block e.symm)))
     refine hK.out _ _ S7.out (fun hHeld4=>?_)
     clear hK K
     refine aCD (v:=?_) 7 ?_ ?_
     rotate_left
     ·intro wz hSw;obtain⟨q0,q1,q2,q3,q4,q5,q6⟩:=QC.out wz hSw;clear hSw;go_simp;try with_reducible rfl
     dsimp only [Act.put,f4,b6,b7]
     simp only [a8,g4,g3]
     refine wpAnyH_ready (rs:=[8]) (by kernel_rfl) (by simp) ?_
     refine AllReadyH.cons rfl (fun K hK=>?_) AllReadyH.nil
     have k7:w6.cell? ⟨bs,8,none⟩=some (.slice qv j cv):=aA C7.out (i:=8) rfl
     have fz:=aG C7.out 8
     go_simp
     have S8:Hid (Fr (Wr2 bb bs) W0 (w6.setCell ⟨bs,8,none⟩ (.slice (some ⟨g6,0,none⟩) (j+1) cap6))/\BoxN (w6.setCell ⟨bs,8,none⟩ (.slice (some ⟨g6,0,none⟩) (j+1) cap6)) wr.heap.size u.f):=⟨S7.out.1.setCell (p:=⟨bs,8,none⟩) (.inr rfl) _,(Below.heap_setCell _ _ _ _ (fun e=>NE3.out e)).trans S7.out.2⟩
     refine hK.out _ _ S8.out (fun hHeld5=>?_)
     clear hK K
     refine wpAnyH_done (by kernel_rfl) ?_ _
     have LQ:Hid (LpS ρ W0 (w6.setCell ⟨bs,8,none⟩ (.slice (some ⟨g6,0,none⟩) (j+1) cap6)) bb bs n t c o g (j+1) (.slice (some ⟨g6,0,none⟩) (j+1) cap6) (.func (.func 82) #[] #[bx bp])):=by
      obtain⟨ea,eb⟩:=dJ (ρ:=ρ) HU.out g
      refine⟨aO C7.out 8 _,?_,?_,S8.out.1⟩
      ·rw [ea,wX,HX5.out]
       exact aM O7.out ((Fr.refl (fun k=>k=bs) w6).setCell (p:=⟨bs,8,none⟩) rfl _) (fun k e z=>aP O7.out C7.out (by decide) (z ▸ e))
      ·rw [eb,cC HU.out,<- aAI]
       exact M7.out.fr ((Fr.refl (fun k=>k=bs) w6).setCell (p:=⟨bs,8,none⟩) rfl _) (fun e=>by
        obtain⟨es,cl,hb⟩:=M7.out.block
        rw [e,C7.out] at hb
        cases hb)
     clear k7 fz
     go_wp2
     go_roundw
     case rel=>exact⟨j+1,_,by omega,by go_num,LQ.out⟩
     case measure=>simp only [intOf];omega
    ·go_simp
     go_at_call 83
     refine IHU.out.mono ?_
     rintro e w5 ⟨rfl,hm5,hf5⟩
     have M5:=aD hm5
     have F5:=aD hf5
     clear hm5 hf5
     have S5:Hid (Fr (Wr2 bb bs) W0 w5/\BoxN w5 wr.heap.size u.f):=⟨SK.out.1.trans (F5.out.mono (fun k e=>.inl e)),(F5.out.block _ (aB SK.out.2) (fun e=>NE.out.1 e)).trans SK.out.2⟩
     refine hK.out _ _ S5.out (fun hHeld1=>?_)
     clear hK K
     refine wpAnyH_ready (rs:=[1,5]) (by kernel_rfl) (by simp) ?_
     refine AllReadyH.cons rfl (fun K hK=>?_) (AllReadyH.cons rfl (fun K hK=>?_) AllReadyH.nil)
     ·have k9:w5.cell? ⟨bs,8,none⟩=some (.slice qv j cv):=aA ((F5.out.block _ (aB CB.out) (fun e=>NE.out.2 e.symm)).trans CB.out) (i:=8) rfl
      go_simp
      refine hK.out _ _ S5.out (fun hHeld2=>?_)
      clear hK K
      refine wpAnyH_ready (rs:=[5]) (by kernel_rfl) (by simp) ?_
      refine AllReadyH.cons rfl (fun K hK=>?_) AllReadyH.nil
      go_simp
      have S6:Hid (Fr (Wr2 bb bs) W0 (w5.alloc (.cells #[.int .u64 (aC x5.1 0),.int .u64 (aC x5.1 1),.int .u64 (aC x5.1 2),.int .u64 (aC x5.1 3),.bool x5.2] 76))/\BoxN (w5.alloc (.cells #[.int .u64 (aC x5.1 0),.int .u64 (aC x5.1 1),.int .u64 (aC x5.1 2),.int .u64 (aC x5.1 3),.bool x5.2] 76)) wr.heap.size u.f):=⟨S5.out.1.alloc _,(Below.heap_alloc _ _ _ (aB S5.out.2)).trans S5.out.2⟩
      refine hK.out _ _ S6.out (fun hHeld3=>?_)
      clear hK K
      refine wpAnyH_ready (rs:=[6]) (by kernel_rfl) (by simp) ?_
      refine AllReadyH.cons rfl (fun K hK=>?_) AllReadyH.nil
      have O6:Hid ((w5.alloc (.cells #[.int .u64 (aC x5.1 0),.int .u64 (aC x5.1 1),.int .u64 (aC x5.1 2),.int .u64 (aC x5.1 3),.bool x5.2] 76)).ownsRow W0.heap.size 76 5 (.slice qv j cv) j (ceS (evs ρ g (t.ks.take j)).1)):=l9 (aM OK.out F5.out (fun k e z=>bS OK.out MK.out.block (z ▸ e))) _
      refine bF rfl _ _ 136 rfl W0.heap.size 76 t0 (.agg #[.int .u64 0,.int .u64 0,.int .u64 0,.int .u64 0,.bool false]) 5 40 aC4 TI.out.1 TI.out.2.1 TI.out.2.2.1 TI.out.2.2.2 rfl (by decide) (.slice qv j cv) j (ceS (evs ρ g (t.ks.take j)).1) (by simp [Act.eval]) O6.out ⟨w5.heap.size,0,none⟩ 1 1 [.int .u64 (aC x5.1 0),.int .u64 (aC x5.1 1),.int .u64 (aC x5.1 2),.int .u64 (aC x5.1 3),.bool x5.2] (by simp [Act.eval]) rfl (cR w5 [.int .u64 (aC x5.1 0),.int .u64 (aC x5.1 1),.int .u64 (aC x5.1 2),.int .u64 (aC x5.1 3),.bool x5.2] _) (by simp [Value.oneCell']) (by have:=LJ.out;unfold maxLen;omega) (by have:=LJ.out;omega) (i8 S5.out.1.size (by simp only [a7];omega)) ?_
      intro v' w6 hown' hgrow hblk
      obtain⟨g6,cap6,rfl⟩:=aL hown' (aAC _)
      have O7:=aD hown'
      have G6:=aD hgrow
      clear hown' hgrow hblk
      have S7:Hid (Fr (Wr2 bb bs) W0 w6/\BoxN w6 wr.heap.size u.f):=⟨S6.out.1.grownNew G6.out (fun k e=>(aH O6.out e).1),(G6.out.block _ (aB S6.out.2) (fun e=>by
       have:=(aH LP.out.own e.symm).2.1
       omega)).trans S6.out.2⟩
      have C7:Hid (w6.heap[bs]?=some (.cells (dE t.f c o (.slice qv j cv) (.func (.func 82) #[] #[bx bp])) 138 (0,0))):=(by
       have e5:=(F5.out.block _ (aB CB.out) (fun e=>NE.out.2 e.symm)).trans CB.out
       have e6:=(Below.heap_alloc w5 (.cells #[.int .u64 (aC x5.1 0),.int .u64 (aC x5.1 1),.int .u64 (aC x5.1 2),.int .u64 (aC x5.1 3),.bool x5.2] 76) _ (aB e5)).trans e5
       exact(G6.out.block _ (aB e6) (fun e=>aP O6.out e6 (by decide) e.symm)).trans e6)
      have M7:Hid (MapV w6 (.agg #[.int .u64 0,.int .u64 0,.int .u64 0,.int .u64 0,.bool false]) bb (n+szs (t.ks.take j)+u.sz) (fun i=>enS ((ev ρ (evs ρ g (t.ks.take j)).2 u).2 i))):=(by
       have m6:=M5.out.kept ((Below.refl _ _).alloc lz9 (.cells #[.int .u64 (aC x5.1 0),.int .u64 (aC x5.1 1),.int .u64 (aC x5.1 2),.int .u64 (aC x5.1 3),.bool x5.2] 76))
       exact m6.same (G6.out.block _ m6.lt (fun e=>bS O6.out m6.block e.symm)))
      refine hK.out _ _ S7.out (fun hHeld4=>?_)
      clear hK K
      refine aCD (v:=?_) 7 ?_ ?_
      rotate_left
      ·intro wz hSw;obtain⟨q0,q1,q2,q3,q4,q5,q6⟩:=QC.out wz hSw;clear hSw;go_simp;try with_reducible rfl
      dsimp only [Act.put,f4,b6,b7]
      simp only [a8,g4,g3]
      refine wpAnyH_ready (rs:=[8]) (by kernel_rfl) (by simp) ?_
      refine AllReadyH.cons rfl (fun K hK=>?_) AllReadyH.nil
      have k7:w6.cell? ⟨bs,8,none⟩=some (.slice qv j cv):=aA C7.out (i:=8) rfl
      have fz:=aG C7.out 8
      go_simp
      have S8:Hid (Fr (Wr2 bb bs) W0 (w6.setCell ⟨bs,8,none⟩ (.slice (some ⟨g6,0,none⟩) (j+1) cap6))/\BoxN (w6.setCell ⟨bs,8,none⟩ (.slice (some ⟨g6,0,none⟩) (j+1) cap6)) wr.heap.size u.f):=⟨S7.out.1.setCell (p:=⟨bs,8,none⟩) (.inr rfl) _,(Below.heap_setCell _ _ _ _ (fun e=>NE3.out e)).trans S7.out.2⟩
      refine hK.out _ _ S8.out (fun hHeld5=>?_)
      clear hK K
      refine wpAnyH_done (by kernel_rfl) ?_ _
      have LQ:Hid (LpS ρ W0 (w6.setCell ⟨bs,8,none⟩ (.slice (some ⟨g6,0,none⟩) (j+1) cap6)) bb bs n t c o g (j+1) (.slice (some ⟨g6,0,none⟩) (j+1) cap6) (.func (.func 82) #[] #[bx bp])):=by
       obtain⟨ea,eb⟩:=dJ (ρ:=ρ) HU.out g
       refine⟨aO C7.out 8 _,?_,?_,S8.out.1⟩
       ·rw [ea,wX,HX5.out]
        exact aM O7.out ((Fr.refl (fun k=>k=bs) w6).setCell (p:=⟨bs,8,none⟩) rfl _) (fun k e z=>aP O7.out C7.out (by decide) (z ▸ e))
       ·rw [eb,cC HU.out,<- aAI]
        exact M7.out.fr ((Fr.refl (fun k=>k=bs) w6).setCell (p:=⟨bs,8,none⟩) rfl _) (fun e=>by
         obtain⟨es,cl,hb⟩:=M7.out.block
         rw [e,C7.out] at hb
         cases hb)
      clear k7 fz
      go_wp2
      go_roundw
      case rel=>exact⟨j+1,_,by omega,by go_num,LQ.out⟩
      case measure=>simp only [intOf];omega
     ·go_simp
      have S6:Hid (Fr (Wr2 bb bs) W0 (w5.alloc (.cells #[.int .u64 (aC x5.1 0),.int .u64 (aC x5.1 1),.int .u64 (aC x5.1 2),.int .u64 (aC x5.1 3),.bool x5.2] 76))/\BoxN (w5.alloc (.cells #[.int .u64 (aC x5.1 0),.int .u64 (aC x5.1 1),.int .u64 (aC x5.1 2),.int .u64 (aC x5.1 3),.bool x5.2] 76)) wr.heap.size u.f):=⟨S5.out.1.alloc _,(Below.heap_alloc _ _ _ (aB S5.out.2)).trans S5.out.2⟩
      refine hK.out _ _ S6.out (fun hHeld2=>?_)
      clear hK K
      refine wpAnyH_ready (rs:=[1]) (by kernel_rfl) (by simp) ?_
      refine AllReadyH.cons rfl (fun K hK=>?_) AllReadyH.nil
      have k9:(w5.alloc (.cells #[.int .u64 (aC x5.1 0),.int .u64 (aC x5.1 1),.int .u64 (aC x5.1 2),.int .u64 (aC x5.1 3),.bool x5.2] 76)).cell? ⟨bs,8,none⟩=some (.slice qv j cv):=(by have e5:=(F5.out.block _ (aB CB.out) (fun e=>NE.out.2 e.symm)).trans CB.out;exact aA ((Below.heap_alloc w5 (.cells #[.int .u64 (aC x5.1 0),.int .u64 (aC x5.1 1),.int .u64 (aC x5.1 2),.int .u64 (aC x5.1 3),.bool x5.2] 76) _ (aB e5)).trans e5) (i:=8) rfl)
      go_simp
      refine hK.out _ _ S6.out (fun hHeld3=>?_)
      clear hK K
      refine wpAnyH_ready (rs:=[6]) (by kernel_rfl) (by simp) ?_
      refine AllReadyH.cons rfl (fun K hK=>?_) AllReadyH.nil
      have O6:Hid ((w5.alloc (.cells #[.int .u64 (aC x5.1 0),.int .u64 (aC x5.1 1),.int .u64 (aC x5.1 2),.int .u64 (aC x5.1 3),.bool x5.2] 76)).ownsRow W0.heap.size 76 5 (.slice qv j cv) j (ceS (evs ρ g (t.ks.take j)).1)):=l9 (aM OK.out F5.out (fun k e z=>bS OK.out MK.out.block (z ▸ e))) _
      refine bF rfl _ _ 136 rfl W0.heap.size 76 t0 (.agg #[.int .u64 0,.int .u64 0,.int .u64 0,.int .u64 0,.bool false]) 5 40 aC4 TI.out.1 TI.out.2.1 TI.out.2.2.1 TI.out.2.2.2 rfl (by decide) (.slice qv j cv) j (ceS (evs ρ g (t.ks.take j)).1) (by simp [Act.eval]) O6.out ⟨w5.heap.size,0,none⟩ 1 1 [.int .u64 (aC x5.1 0),.int .u64 (aC x5.1 1),.int .u64 (aC x5.1 2),.int .u64 (aC x5.1 3),.bool x5.2] (by simp [Act.eval]) rfl (cR w5 [.int .u64 (aC x5.1 0),.int .u64 (aC x5.1 1),.int .u64 (aC x5.1 2),.int .u64 (aC x5.1 3),.bool x5.2] _) (by simp [Value.oneCell']) (by have:=LJ.out;unfold maxLen;omega) (by have:=LJ.out;omega) (i8 S5.out.1.size (by simp only [a7];omega)) ?_
      intro v' w6 hown' hgrow hblk
      obtain⟨g6,cap6,rfl⟩:=aL hown' (aAC _)
      have O7:=aD hown'
      have G6:=aD hgrow
      clear hown' hgrow hblk
      have S7:Hid (Fr (Wr2 bb bs) W0 w6/\BoxN w6 wr.heap.size u.f):=⟨S6.out.1.grownNew G6.out (fun k e=>(aH O6.out e).1),(G6.out.block _ (aB S6.out.2) (fun e=>by
       have:=(aH LP.out.own e.symm).2.1
       omega)).trans S6.out.2⟩
      have C7:Hid (w6.heap[bs]?=some (.cells (dE t.f c o (.slice qv j cv) (.func (.func 82) #[] #[bx bp])) 138 (0,0))):=(by
       have e5:=(F5.out.block _ (aB CB.out) (fun e=>NE.out.2 e.symm)).trans CB.out
       have e6:=(Below.heap_alloc w5 (.cells #[.int .u64 (aC x5.1 0),.int .u64 (aC x5.1 1),.int .u64 (aC x5.1 2),.int .u64 (aC x5.1 3),.bool x5.2] 76) _ (aB e5)).trans e5
       exact(G6.out.block _ (aB e6) (fun e=>aP O6.out e6 (by decide) e.symm)).trans e6)
      have M7:Hid (MapV w6 (.agg #[.int .u64 0,.int .u64 0,.int .u64 0,.int .u64 0,.bool false]) bb (n+szs (t.ks.take j)+u.sz) (fun i=>enS ((ev ρ (evs ρ g (t.ks.take j)).2 u).2 i))):=(by
       have m6:=M5.out.kept ((Below.refl _ _).alloc lz9 (.cells #[.int .u64 (aC x5.1 0),.int .u64 (aC x5.1 1),.int .u64 (aC x5.1 2),.int .u64 (aC x5.1 3),.bool x5.2] 76))
       exact m6.same (G6.out.block _ m6.lt (fun e=>bS O6.out m6.block e.symm)))
      refine hK.out _ _ S7.out (fun hHeld4=>?_)
      clear hK K
      refine aCD (v:=?_) 7 ?_ ?_
      rotate_left
      ·intro wz hSw;obtain⟨q0,q1,q2,q3,q4,q5,q6⟩:=QC.out wz hSw;clear hSw;go_simp;try with_reducible rfl
      dsimp only [Act.put,f4,b6,b7]
      simp only [a8,g4,g3]
      refine wpAnyH_ready (rs:=[8]) (by kernel_rfl) (by simp) ?_
      refine AllReadyH.cons rfl (fun K hK=>?_) AllReadyH.nil
      have k7:w6.cell? ⟨bs,8,none⟩=some (.slice qv j cv):=aA C7.out (i:=8) rfl
      have fz:=aG C7.out 8
      go_simp
      have S8:Hid (Fr (Wr2 bb bs) W0 (w6.setCell ⟨bs,8,none⟩ (.slice (some ⟨g6,0,none⟩) (j+1) cap6))/\BoxN (w6.setCell ⟨bs,8,none⟩ (.slice (some ⟨g6,0,none⟩) (j+1) cap6)) wr.heap.size u.f):=⟨S7.out.1.setCell (p:=⟨bs,8,none⟩) (.inr rfl) _,(Below.heap_setCell _ _ _ _ (fun e=>NE3.out e)).trans S7.out.2⟩
      refine hK.out _ _ S8.out (fun hHeld5=>?_)
      clear hK K
      refine wpAnyH_done (by kernel_rfl) ?_ _
      have LQ:Hid (LpS ρ W0 (w6.setCell ⟨bs,8,none⟩ (.slice (some ⟨g6,0,none⟩) (j+1) cap6)) bb bs n t c o g (j+1) (.slice (some ⟨g6,0,none⟩) (j+1) cap6) (.func (.func 82) #[] #[bx bp])):=by
       obtain⟨ea,eb⟩:=dJ (ρ:=ρ) HU.out g
       refine⟨aO C7.out 8 _,?_,?_,S8.out.1⟩
       ·rw [ea,wX,HX5.out]
        exact aM O7.out ((Fr.refl (fun k=>k=bs) w6).setCell (p:=⟨bs,8,none⟩) rfl _) (fun k e z=>aP O7.out C7.out (by decide) (z ▸ e))
       ·rw [eb,cC HU.out,<- aAI]
        exact M7.out.fr ((Fr.refl (fun k=>k=bs) w6).setCell (p:=⟨bs,8,none⟩) rfl _) (fun e=>by
         obtain⟨es,cl,hb⟩:=M7.out.block
         rw [e,C7.out] at hb
         cases hb)
      clear k7 fz
      go_wp2
      go_roundw
      case rel=>exact⟨j+1,_,by omega,by go_num,LQ.out⟩
      case measure=>simp only [intOf];omega
   ·have e0:¬ (j:Int) < (t.f.kl:Int):=by rw [HKL.out];omega
    obtain rfl:j=t.ks.length:=by omega
    have hk:t.ks.take t.ks.length=t.ks:=aAQ
    have XO:=aD (hk ▸ LP.out.own)
    have XM:=aD (hk ▸ LP.out.mp)
    have r0:wr.cell? ⟨br,0,none⟩=some (.func (.func 45) #[] #[]):=aA (HTW.out.ck CW.out).r (i:=0) rfl
    have s0:wr.cell? ⟨bs,0,none⟩=some (.int .i64 t.f.k):=aA LP.out.sc (i:=0) rfl
    have s1:wr.cell? ⟨bs,1,none⟩=some (.int .i64 t.f.n):=aA LP.out.sc (i:=1) rfl
    have s2:wr.cell? ⟨bs,2,none⟩=some (.int .i64 t.f.mn):=aA LP.out.sc (i:=2) rfl
    have s3:wr.cell? ⟨bs,3,none⟩=some (.int .i64 t.f.mx):=aA LP.out.sc (i:=3) rfl
    have s4:wr.cell? ⟨bs,4,none⟩=some (.slice t.f.rq t.f.rs.length t.f.rc):=aA LP.out.sc (i:=4) rfl
    have s5:wr.cell? ⟨bs,5,none⟩=some (.slice t.f.kq t.f.kl t.f.kc):=aA LP.out.sc (i:=5) rfl
    have s6:wr.cell? ⟨bs,6,none⟩=some (.bool c):=aA LP.out.sc (i:=6) rfl
    have s7:wr.cell? ⟨bs,7,none⟩=some (.bool o):=aA LP.out.sc (i:=7) rfl
    have s8:wr.cell? ⟨bs,8,none⟩=some (.slice qv t.ks.length cv):=aA LP.out.sc (i:=8) rfl
    have s9:wr.cell? ⟨bs,9,none⟩=some (.func (.func 82) #[] #[bx bp]):=aA LP.out.sc (i:=9) rfl
    clear hk
    obtain⟨gx,gy⟩:=eY HG.out t.ks g (fun u hu=>bI HNP.out hu) HGD.out
    have hC:=HR.out t (evs ρ g t.ks).1 (evs ρ g t.ks).2 wr (.slice qv t.ks.length cv) bp bb (n+szs t.ks) W0.heap.size (hglo CW.out HGW.out) ((bE t).1 HNP.out).1 (by have:=eM t.ks;have:=hkz.out;have:=HN.out;omega) ((HTA.out.ck CW.out).node) (gJ _ _) gx gy (by rw [gJ];exact XO.out) (HTW.out.ck CW.out).p XM.out
    simp only [dE,enS] at hC
    have HC:=aD hC
    clear hC gx gy
    have BN:Hid (BoxN wr w.heap.size t.f):=(LP.out.fr.block _ (aB N0.out) (fun z=>by
     rcases z with e | e
     ·obtain⟨es,cl,hb⟩:=MB.out
      rw [<- e,show W0.heap[w.heap.size]?=_ from N0.out] at hb
      cases hb
     ·have:=HBS.out.2.2;omega)).trans N0.out
    have BR:Hid (wr.heap[w.heap.size+1]?=some (.cells #[.int .u64 0,.int .u64 0,.int .u64 0,.int .u64 0,.bool false] 76 (0,0))):=(LP.out.fr.block _ (aB R0.out) (fun z=>by
     rcases z with e | e
     ·obtain⟨es,cl,hb⟩:=MB.out
      rw [<- e,R0.out] at hb
      cases hb
     ·have:=HBS.out.2.2;omega)).trans R0.out
    have hx:(ev ρ g t).1=ρ t.f t.ks (evs ρ g t.ks).1 (evs ρ g t.ks).2:=iV g t
    rw [<- hx] at HC
    have HS:=aD (jN (ρ:=ρ) g t)
    obtain⟨x,hxx⟩:∃ x,(ev ρ g t).1=x:=⟨_,rfl⟩
    rw [hxx] at HC HS
    have HX:=aD hxx
    clear hx hxx
    have FW:Hid (Fr (fun k=>k=bb) w wr):=sT HBS.out.1 B0.out LP.out.fr
    by_cases h7:t.f.k=7
    ·have h7b:(t.f.k==7)=true:=by simp [h7]
     have WF:Hid ((Lit.int .i64 t.f.n).wf=true):=HWF.out t ((bE t).1 HNP.out).1 h7
     rw [if_pos h7] at HS
     clear h7
     go_wp2_with first
      |(go_at_call 45;refine HC.out.mono ?_;rintro e w5 ⟨rfl,h5⟩;have B5:=aD h5;clear h5 s0 s1 s2 s3 s4 s5 s6 s7 s8 s9 r0;have N5:Hid (BoxN w5 w.heap.size t.f):=(B5.out.block _ (aB BN.out)).trans BN.out;have A5:Hid (Below w5.heap.size w5 (w5.alloc (.cells #[.int .u64 (aC x.1 0),.int .u64 (aC x.1 1),.int .u64 (aC x.1 2),.int .u64 (aC x.1 3),.bool x.2] 76))):=bz9;have N6:Hid (BoxN (w5.alloc (.cells #[.int .u64 (aC x.1 0),.int .u64 (aC x.1 1),.int .u64 (aC x.1 2),.int .u64 (aC x.1 3),.bool x.2] 76)) w.heap.size t.f):=(A5.out.block _ (aB N5.out)).trans N5.out;have R5:Hid ((w5.alloc (.cells #[.int .u64 (aC x.1 0),.int .u64 (aC x.1 1),.int .u64 (aC x.1 2),.int .u64 (aC x.1 3),.bool x.2] 76)).heap[w.heap.size+1]?=some (.cells #[.int .u64 0,.int .u64 0,.int .u64 0,.int .u64 0,.bool false] 76 (0,0))):=(A5.out.block _ (aB ((B5.out.block _ (aB BR.out)).trans BR.out))).trans ((B5.out.block _ (aB BR.out)).trans BR.out);have k0:(w5.alloc (.cells #[.int .u64 (aC x.1 0),.int .u64 (aC x.1 1),.int .u64 (aC x.1 2),.int .u64 (aC x.1 3),.bool x.2] 76)).cell? ⟨w.heap.size,0,none⟩=some (.int .i64 t.f.k):=N6.out.six.1;have k1:(w5.alloc (.cells #[.int .u64 (aC x.1 0),.int .u64 (aC x.1 1),.int .u64 (aC x.1 2),.int .u64 (aC x.1 3),.bool x.2] 76)).cell? ⟨w.heap.size,1,none⟩=some (.int .i64 t.f.n):=N6.out.six.2.1;have p0:(w5.alloc (.cells #[.int .u64 (aC x.1 0),.int .u64 (aC x.1 1),.int .u64 (aC x.1 2),.int .u64 (aC x.1 3),.bool x.2] 76)).cell? ⟨bp,0,none⟩=some (.map (some bb)):=aA (((HTW.out.ck CW.out).ck (CK.of_below B5.out)).ck (CK.of_below A5.out)).p (i:=0) rfl;have z0:=aA R5.out (i:=0) rfl;have z1:=aA R5.out (i:=1) rfl;have z2:=aA R5.out (i:=2) rfl;have z3:=aA R5.out (i:=3) rfl;have z4:=aA R5.out (i:=4) rfl;have fz:=fun z=>aG R5.out z)
      |(at_mapUpdate;refine eU _ rfl _ _ _ 133 rfl 76 aS3 (.agg #[.int .u64 0,.int .u64 0,.int .u64 0,.int .u64 0,.bool false]) bb (n+szs t.ks) (fun i=>enS ((evs ρ g t.ks).2 i)) rfl ((XM.out.kept B5.out).kept (bz9)) (by have:=HN.out;have:=hkz.out;unfold maxLen;omega) t.f.n rfl WF.out (enS x) rfl ?_;intro w6 hm6 hg6;have M6:=aD hm6;have G6:=aD hg6;clear hm6 hg6;have C6:Hid (CK (w5.alloc (.cells #[.int .u64 (aC x.1 0),.int .u64 (aC x.1 1),.int .u64 (aC x.1 2),.int .u64 (aC x.1 3),.bool x.2] 76)) w6):=wV ((XM.out.kept B5.out).kept A5.out).block ((Fr.refl _ _).grown G6.out (fun k e=>by injection e with e;exact e.symm));have R6:Hid (w6.heap[w.heap.size+1]?=some (.cells #[.int .u64 0,.int .u64 0,.int .u64 0,.int .u64 0,.bool false] 76 (0,0))):=C6.out.same _ _ _ _ (aB R5.out) R5.out;have X6:Hid (w6.heap[w5.heap.size]?=some (.cells #[.int .u64 (aC x.1 0),.int .u64 (aC x.1 1),.int .u64 (aC x.1 2),.int .u64 (aC x.1 3),.bool x.2] 76 (0,0))):=C6.out.same _ _ _ _ (aB (aE w5 _)) (aE w5 _);clear fz z0 z1 z2 z3 z4;have z0:=aA R6.out (i:=0) rfl;have x0:=aA X6.out (i:=0) rfl;have z1:=aA R6.out (i:=1) rfl;have x1:=aA X6.out (i:=1) rfl;have z2:=aA R6.out (i:=2) rfl;have x2:=aA X6.out (i:=2) rfl;have z3:=aA R6.out (i:=3) rfl;have x3:=aA X6.out (i:=3) rfl;have z4:=aA R6.out (i:=4) rfl;have x4:=aA X6.out (i:=4) rfl;have fz:=fun z=>aG R6.out z)
     refine aI0 (b:=w.heap.size+1) (x:=x) (bA R6.out [.int .u64 (aC x.1 0),.int .u64 (aC x.1 1),.int .u64 (aC x.1 2),.int .u64 (aC x.1 3),.bool x.2] rfl) rfl rfl ?_
     have F7:=aV (w.heap.size+1) [.int .u64 (aC x.1 0),.int .u64 (aC x.1 1),.int .u64 (aC x.1 2),.int .u64 (aC x.1 3),.bool x.2] 0 w6
     refine⟨by rw [HX.out],?_,?_⟩
     ·rw [HS.out,<- rS,show n+t.sz=n+szs t.ks+1 by have:=hkz.out;omega]
      exact M6.out.fr F7 (fun e=>by
       obtain⟨es,cl,hb⟩:=M6.out.block
       rw [e,R6.out] at hb
       cases hb)
     ·exact lY (((FW.out.then B5.out).then (bz9)).grown G6.out (fun k e=>by injection e with e;exact e.symm)) F7 (by omega)
    ·have h7b:(t.f.k==7)=false:=by simp [h7]
     rw [if_neg h7] at HS
     clear h7
     go_wp2_with first
      |(go_at_call 45;refine HC.out.mono ?_;rintro e w5 ⟨rfl,h5⟩;have B5:=aD h5;clear h5 s0 s1 s2 s3 s4 s5 s6 s7 s8 s9 r0;have N5:Hid (BoxN w5 w.heap.size t.f):=(B5.out.block _ (aB BN.out)).trans BN.out;have A5:Hid (Below w5.heap.size w5 (w5.alloc (.cells #[.int .u64 (aC x.1 0),.int .u64 (aC x.1 1),.int .u64 (aC x.1 2),.int .u64 (aC x.1 3),.bool x.2] 76))):=bz9;have N6:Hid (BoxN (w5.alloc (.cells #[.int .u64 (aC x.1 0),.int .u64 (aC x.1 1),.int .u64 (aC x.1 2),.int .u64 (aC x.1 3),.bool x.2] 76)) w.heap.size t.f):=(A5.out.block _ (aB N5.out)).trans N5.out;have R5:Hid ((w5.alloc (.cells #[.int .u64 (aC x.1 0),.int .u64 (aC x.1 1),.int .u64 (aC x.1 2),.int .u64 (aC x.1 3),.bool x.2] 76)).heap[w.heap.size+1]?=some (.cells #[.int .u64 0,.int .u64 0,.int .u64 0,.int .u64 0,.bool false] 76 (0,0))):=(A5.out.block _ (aB ((B5.out.block _ (aB BR.out)).trans BR.out))).trans ((B5.out.block _ (aB BR.out)).trans BR.out);have k0:(w5.alloc (.cells #[.int .u64 (aC x.1 0),.int .u64 (aC x.1 1),.int .u64 (aC x.1 2),.int .u64 (aC x.1 3),.bool x.2] 76)).cell? ⟨w.heap.size,0,none⟩=some (.int .i64 t.f.k):=N6.out.six.1;have k1:(w5.alloc (.cells #[.int .u64 (aC x.1 0),.int .u64 (aC x.1 1),.int .u64 (aC x.1 2),.int .u64 (aC x.1 3),.bool x.2] 76)).cell? ⟨w.heap.size,1,none⟩=some (.int .i64 t.f.n):=N6.out.six.2.1;have p0:(w5.alloc (.cells #[.int .u64 (aC x.1 0),.int .u64 (aC x.1 1),.int .u64 (aC x.1 2),.int .u64 (aC x.1 3),.bool x.2] 76)).cell? ⟨bp,0,none⟩=some (.map (some bb)):=aA (((HTW.out.ck CW.out).ck (CK.of_below B5.out)).ck (CK.of_below A5.out)).p (i:=0) rfl;have z0:=aA R5.out (i:=0) rfl;have z1:=aA R5.out (i:=1) rfl;have z2:=aA R5.out (i:=2) rfl;have z3:=aA R5.out (i:=3) rfl;have z4:=aA R5.out (i:=4) rfl;have fz:=fun z=>aG R5.out z)
     refine aI0 (b:=w.heap.size+1) (x:=x) (bA R5.out [.int .u64 (aC x.1 0),.int .u64 (aC x.1 1),.int .u64 (aC x.1 2),.int .u64 (aC x.1 3),.bool x.2] rfl) rfl rfl ?_
     have F7:=aV (w.heap.size+1) [.int .u64 (aC x.1 0),.int .u64 (aC x.1 1),.int .u64 (aC x.1 2),.int .u64 (aC x.1 3),.bool x.2] 0 (w5.alloc (.cells #[.int .u64 (aC x.1 0),.int .u64 (aC x.1 1),.int .u64 (aC x.1 2),.int .u64 (aC x.1 3),.bool x.2] 76))
     refine⟨by rw [HX.out],?_,?_⟩
     ·rw [HS.out]
      have M6:=((XM.out.kept B5.out).kept ((Below.refl _ _).alloc lz9 (.cells #[.int .u64 (aC x.1 0),.int .u64 (aC x.1 1),.int .u64 (aC x.1 2),.int .u64 (aC x.1 3),.bool x.2] 76)))
      exact(M6.fr F7 (fun e=>by
       obtain⟨es,cl,hb⟩:=M6.block
       rw [e,R5.out] at hb
       cases hb)).mono (by have:=hkz.out;omega)
     ·exact lY ((FW.out.then B5.out).then (bz9)) F7 (by omega)
end
section
attribute [local go_sem] Oper.semAt_some
theorem bC8{R:Ending->World->Prop}{a:Act}{W:World}{b:Nat}{x:BitVec 256 × Bool}(h:W.heap[b]?=some (.cells #[.int .u64 (aC x.1 0),.int .u64 (aC x.1 1),.int .u64 (aC x.1 2),.int .u64 (aC x.1 3),.bool x.2] 76 (0,0)))(ha:a.tmps[3]?.getD undef=.pointer (some ⟨b,0,none⟩))(hd:a.defers=[])(hR:R (.returned (enS x)) W):bodyPost Tryz.prog Tryz.f82 R .ret a W:=by
 refine bodyPost_ret (v:=enS x) ?_ hd hR
 have z0:=aA h (i:=0) rfl;have z1:=aA h (i:=1) rfl;have z2:=aA h (i:=2) rfl;have z3:=aA h (i:=3) rfl;have z4:=aA h (i:=4) rfl
 simp [results,Tryz.results82,go_sem,ha,enS,z0,z1,z2,z3,z4]
theorem aH5{R:Ending->World->Prop}{a:Act}{W:World}{b:Nat}{x:BitVec 256 × Bool}(h:W.heap[b]?=some (.cells #[.int .u64 (aC x.1 0),.int .u64 (aC x.1 1),.int .u64 (aC x.1 2),.int .u64 (aC x.1 3),.bool x.2] 76 (0,0)))(ha:a.tmps[6]?.getD undef=.pointer (some ⟨b,0,none⟩))(hd:a.defers=[])(hR:R (.returned (enS x)) W):bodyPost Tryz.prog Tryz.f44 R .ret a W:=by
 refine bodyPost_ret (v:=enS x) ?_ hd hR
 have z0:=aA h (i:=0) rfl;have z1:=aA h (i:=1) rfl;have z2:=aA h (i:=2) rfl;have z3:=aA h (i:=3) rfl;have z4:=aA h (i:=4) rfl
 simp [results,Tryz.results44,go_sem,ha,enS,z0,z1,z2,z3,z4]
theorem bI5(w:World):(zeroValue 76).run Tryz.prog w=.ok (.agg #[.int .u64 0,.int .u64 0,.int .u64 0,.int .u64 0,.bool false]) w:=by kernel_rfl
theorem bO3{w:World}{bp bb n:Nat}{g:Int->BitVec 256 × Bool}(hp:w.heap[bp]?=some (.cells #[.map (some bb)] 133 (0,0)))(hm:MapV w (.agg #[.int .u64 0,.int .u64 0,.int .u64 0,.int .u64 0,.bool false]) bb n (fun i=>enS (g i)))(i:Int)(hi:(Lit.int .i64 i).wf=true) :
  Calls Tryz.prog 82 #[.int .i64 i,bx bp] w fun e w'=>e=.returned (enS (g i))/\Below w.heap.size w w':=by
 have HM:=aD hm
 have HI:=aD hi
 have HP:=aD hp
 have lp:=aB hp
 have p0:w.cell? ⟨bp,0,none⟩=some (.map (some bb)):=aA hp (i:=0) rfl
 clear hm hi hp
 obtain⟨x,hx⟩:∃ x,g i=x:=⟨_,rfl⟩
 have HX:=aD hx
 clear hx
 have A1:Hid (Below w.heap.size w (w.alloc (.cells #[.int .u64 0,.int .u64 0,.int .u64 0,.int .u64 0,.bool false] 76))):=bz9
 go_enter Tryz.func82,Tryz.ntmps82
 go_wp2_with (at_lookup;refine nJ _ rfl _ _ 133 rfl 76 aS3 (.agg #[.int .u64 0,.int .u64 0,.int .u64 0,.int .u64 0,.bool false]) bb n (fun i=>enS (g i)) rfl (HM.out.kept A1.out) (bI5 _) i rfl HI.out ?_;rw [HX.out];simp only [enS])
 refine bC8 (b:=w.heap.size) (x:=x) (aE w _) rfl rfl ?_
 exact⟨by rw [HX.out],bz9⟩
noncomputable def tvS (ρ:dH (BitVec 256 × Bool)) (c o:Bool) (t:Tr):BitVec 256 × Bool:=if aY c o 0 0 (pp [] t)=0 then (ev ρ (fun _=>(0#256,false)) t).1 else (0#256,false)
theorem bJ3{Glo:World->Prop}(hglo:∀ {A B:World},CK A B->Glo A->Glo B){w:World}(hgw:Glo w){t:Tr}{Good:BitVec 256 × Bool->Prop}{ρ:dH (BitVec 256 × Bool)}{c o:Bool}(hta:TB w t)(hr:RuS Glo (NP c o) Good ρ c o)(hg:∀ t xs g,NP c o t->xs.length=t.ks.length->(∀ x∈xs,Good x)->(∀ i,Good (g i))->Good (ρ t.f t.ks xs g))(h0:Good (0#256,false)) :
  Calls Tryz.prog 44 #[.agg #[.int .i64 t.f.k,.int .i64 t.f.n,.int .i64 t.f.mn,.int .i64 t.f.mx,.slice t.f.rq t.f.rs.length t.f.rc,.slice t.f.kq t.f.kl t.f.kc],.agg #[.bool c,.bool o],.func (.func 45) #[] #[]] w fun e w'=>e=.returned (enS (tvS ρ c o t))/\Below w.heap.size w w':=by
 have HTA:=aD hta
 have HGW:=aD hgw
 have HR:=aD hr
 clear hgw
 have HG:=aD hg
 have H0:=aD h0
 clear hta hr hg h0
 by_cases hz:aY c o 0 0 (pp [] t)=0
 ·have HV:Hid (tvS ρ c o t=(ev ρ (fun _=>(0#256,false)) t).1):=if_pos hz
  have HZ:=aD hz
  clear hz
  have hmm:=@run_makeMap Tryz.prog
  go_enter Tryz.func44,Tryz.ntmps44
  go_upto_region 8 with (go_at_call 53;refine(eE c o (HTA.out.kept ((((bz9).alloc (by simp only [a7];omega) _).alloc (by simp only [a7];omega) _).alloc (by simp only [a7];omega) _))).mono ?_;rintro e w1 ⟨rfl,h1⟩;have B1:=aD h1;clear h1;have rz:=HZ.out)
  have l1:((((w.alloc (.cells #[.int .i64 t.f.k,.int .i64 t.f.n,.int .i64 t.f.mn,.int .i64 t.f.mx,.slice t.f.rq t.f.rs.length t.f.rc,.slice t.f.kq t.f.kl t.f.kc] 25)).alloc (.cells #[.bool c,.bool o] 27)).alloc (.cells #[.func (.func 45) #[] #[]] 78)).alloc (.cells #[.int .u64 0,.int .u64 0,.int .u64 0,.int .u64 0,.bool false] 76)).heap.size<=w1.heap.size:=B1.out.size
  simp only [a7] at l1
  have b1:w1.heap[w.heap.size]?=some (.cells #[.int .i64 t.f.k,.int .i64 t.f.n,.int .i64 t.f.mn,.int .i64 t.f.mx,.slice t.f.rq t.f.rs.length t.f.rc,.slice t.f.kq t.f.kl t.f.kc] 25 (0,0)):=(B1.out.block _ (by simp only [a7];omega)).trans (by(repeat (first | exact aK _ (by first | rfl | simp only [a7]) | rw [Below.heap_alloc _ _ _ (by first | omega |(simp only [a7];omega))])))
  have b2:w1.heap[w.heap.size+1]?=some (.cells #[.bool c,.bool o] 27 (0,0)):=(B1.out.block _ (by simp only [a7];omega)).trans (by(repeat (first | exact aK _ (by first | rfl | simp only [a7]) | rw [Below.heap_alloc _ _ _ (by first | omega |(simp only [a7];omega))])))
  have b3:w1.heap[w.heap.size+1+1]?=some (.cells #[.func (.func 45) #[] #[]] 78 (0,0)):=(B1.out.block _ (by simp only [a7];omega)).trans (by(repeat (first | exact aK _ (by first | rfl | simp only [a7]) | rw [Below.heap_alloc _ _ _ (by first | omega |(simp only [a7];omega))])))
  have b4:w1.heap[w.heap.size+1+1+1]?=some (.cells #[.int .u64 0,.int .u64 0,.int .u64 0,.int .u64 0,.bool false] 76 (0,0)):=(B1.out.block _ (by simp only [a7];omega)).trans (by(repeat (first | exact aK _ (by first | rfl | simp only [a7]) | rw [Below.heap_alloc _ _ _ (by first | omega |(simp only [a7];omega))])))
  have TT:Hid (TWS ((((w1.alloc (.map #[] 0)).alloc (.cells #[.map (some w1.heap.size)] 133)).alloc (.cells #[.func (.func 82) #[] #[.pointer (some ⟨w1.heap.size+1,0,none⟩)]] 134)).alloc (.cells #[.func (.func 83) #[] #[.pointer (some ⟨w.heap.size+1,0,none⟩),.pointer (some ⟨w1.heap.size+1+1,0,none⟩),.pointer (some ⟨w1.heap.size+1+1+1,0,none⟩),.pointer (some ⟨w.heap.size+1+1,0,none⟩),.pointer (some ⟨w1.heap.size+1,0,none⟩)]] 135)) (w.heap.size+1) (w1.heap.size+1+1) (w1.heap.size+1+1+1) (w.heap.size+1+1) (w1.heap.size+1) w1.heap.size c o):=⟨by rw [<- b2];(repeat (first | exact aK _ (by first | rfl | simp only [a7]) | rw [Below.heap_alloc _ _ _ (by first | omega |(simp only [a7];omega))])),by(repeat (first | exact aK _ (by first | rfl | simp only [a7]) | rw [Below.heap_alloc _ _ _ (by first | omega |(simp only [a7];omega))])),by(repeat (first | exact aK _ (by first | rfl | simp only [a7]) | rw [Below.heap_alloc _ _ _ (by first | omega |(simp only [a7];omega))])),by rw [<- b3];(repeat (first | exact aK _ (by first | rfl | simp only [a7]) | rw [Below.heap_alloc _ _ _ (by first | omega |(simp only [a7];omega))])),by(repeat (first | exact aK _ (by first | rfl | simp only [a7]) | rw [Below.heap_alloc _ _ _ (by first | omega |(simp only [a7];omega))]))⟩
  have BX:Hid (Below w1.heap.size w1 ((((w1.alloc (.map #[] 0)).alloc (.cells #[.map (some w1.heap.size)] 133)).alloc (.cells #[.func (.func 82) #[] #[.pointer (some ⟨w1.heap.size+1,0,none⟩)]] 134)).alloc (.cells #[.func (.func 83) #[] #[.pointer (some ⟨w.heap.size+1,0,none⟩),.pointer (some ⟨w1.heap.size+1+1,0,none⟩),.pointer (some ⟨w1.heap.size+1+1+1,0,none⟩),.pointer (some ⟨w.heap.size+1+1,0,none⟩),.pointer (some ⟨w1.heap.size+1,0,none⟩)]] 135))):=(((bz9).alloc (by simp only [a7];omega) _).alloc (by simp only [a7];omega) _).alloc (by simp only [a7];omega) _
  have MM:Hid (MapV ((((w1.alloc (.map #[] 0)).alloc (.cells #[.map (some w1.heap.size)] 133)).alloc (.cells #[.func (.func 82) #[] #[.pointer (some ⟨w1.heap.size+1,0,none⟩)]] 134)).alloc (.cells #[.func (.func 83) #[] #[.pointer (some ⟨w.heap.size+1,0,none⟩),.pointer (some ⟨w1.heap.size+1+1,0,none⟩),.pointer (some ⟨w1.heap.size+1+1+1,0,none⟩),.pointer (some ⟨w.heap.size+1+1,0,none⟩),.pointer (some ⟨w1.heap.size+1,0,none⟩)]] 135)) (.agg #[.int .u64 0,.int .u64 0,.int .u64 0,.int .u64 0,.bool false]) w1.heap.size 0 (fun _=>enS (0#256,false))):=(((MapV.made w1 (.agg #[.int .u64 0,.int .u64 0,.int .u64 0,.int .u64 0,.bool false])).kept (bz9)).kept (bz9)).kept (bz9)
  have BN:=aD ((BX.out.block _ (aB b1)).trans b1)
  have BR:=aD ((BX.out.block _ (aB b4)).trans b4)
  generalize hWX:((((w1.alloc (.map #[] 0)).alloc (.cells #[.map (some w1.heap.size)] 133)).alloc (.cells #[.func (.func 82) #[] #[.pointer (some ⟨w1.heap.size+1,0,none⟩)]] 134)).alloc (.cells #[.func (.func 83) #[] #[.pointer (some ⟨w.heap.size+1,0,none⟩),.pointer (some ⟨w1.heap.size+1+1,0,none⟩),.pointer (some ⟨w1.heap.size+1+1+1,0,none⟩),.pointer (some ⟨w.heap.size+1+1,0,none⟩),.pointer (some ⟨w1.heap.size+1,0,none⟩)]] 135))=WX at TT BX MM BN BR ⊢
  clear hWX b1 b2 b3 b4
  have B9:Hid (Below w.heap.size w WX):=aJ (aJ ((((bz9).alloc (by simp only [a7];omega) _).alloc (by simp only [a7];omega) _).alloc (by simp only [a7];omega) _) B1.out lz9) BX.out lz9
  have hO:=bP3 hglo HR.out (fun t h k=>h.wf k) HG.out (w.heap.size+1) (w1.heap.size+1+1) (w1.heap.size+1+1+1) (w.heap.size+1+1) (w1.heap.size+1) w1.heap.size t.sz t WX 0 (fun _=>(0#256,false)) lz9 (by have:=iQ HZ.out;omega) (hglo (CK.of_below B9.out) HGW.out) (HTA.out.kept B9.out) (gC HZ.out) (fun _=>H0.out) TT.out MM.out
  obtain⟨x,hx⟩:∃ x,tvS ρ c o t=x:=⟨_,rfl⟩
  have HC:Hid (Calls Tryz.prog 83 #[.agg #[.int .i64 t.f.k,.int .i64 t.f.n,.int .i64 t.f.mn,.int .i64 t.f.mx,.slice t.f.rq t.f.rs.length t.f.rc,.slice t.f.kq t.f.kl t.f.kc],.pointer (some ⟨w.heap.size+1,0,none⟩),.pointer (some ⟨w1.heap.size+1+1,0,none⟩),.pointer (some ⟨w1.heap.size+1+1+1,0,none⟩),.pointer (some ⟨w.heap.size+1+1,0,none⟩),.pointer (some ⟨w1.heap.size+1,0,none⟩)] WX (fun e w'=>e=.returned (.agg #[.int .u64 (aC x.1 0),.int .u64 (aC x.1 1),.int .u64 (aC x.1 2),.int .u64 (aC x.1 3),.bool x.2])/\Fr (fun k=>k=w1.heap.size) WX w')):=aD (hO.mono fun e w' h=>⟨by rw [h.1,<- HV.out,hx];rfl,h.2.2⟩)
  have HX:=aD hx
  clear hO hx
  have o0:WX.cell? ⟨w1.heap.size+1+1+1,0,none⟩=some (.func (.func 83) #[] #[.pointer (some ⟨w.heap.size+1,0,none⟩),.pointer (some ⟨w1.heap.size+1+1,0,none⟩),.pointer (some ⟨w1.heap.size+1+1+1,0,none⟩),.pointer (some ⟨w.heap.size+1+1,0,none⟩),.pointer (some ⟨w1.heap.size+1,0,none⟩)]):=aA TT.out.o (i:=0) rfl
  have n0:WX.cell? ⟨w.heap.size,0,none⟩=some (.int .i64 t.f.k):=aA BN.out (i:=0) rfl
  have n1:WX.cell? ⟨w.heap.size,1,none⟩=some (.int .i64 t.f.n):=aA BN.out (i:=1) rfl
  have n2:WX.cell? ⟨w.heap.size,2,none⟩=some (.int .i64 t.f.mn):=aA BN.out (i:=2) rfl
  have n3:WX.cell? ⟨w.heap.size,3,none⟩=some (.int .i64 t.f.mx):=aA BN.out (i:=3) rfl
  have n4:WX.cell? ⟨w.heap.size,4,none⟩=some (.slice t.f.rq t.f.rs.length t.f.rc):=aA BN.out (i:=4) rfl
  have n5:WX.cell? ⟨w.heap.size,5,none⟩=some (.slice t.f.kq t.f.kl t.f.kc):=aA BN.out (i:=5) rfl
  go_wp2_with (go_at_call 83;refine HC.out.mono ?_;rintro e w5 ⟨rfl,h5⟩;have F5:=aD h5;clear h5;have R5:Hid (w5.heap[w.heap.size+1+1+1]?=some (.cells #[.int .u64 0,.int .u64 0,.int .u64 0,.int .u64 0,.bool false] 76 (0,0))):=(F5.out.block _ (aB BR.out) (fun e=>by omega)).trans BR.out;have z0:=aA R5.out (i:=0) rfl;have z1:=aA R5.out (i:=1) rfl;have z2:=aA R5.out (i:=2) rfl;have z3:=aA R5.out (i:=3) rfl;have z4:=aA R5.out (i:=4) rfl;have fz:=fun z=>aG R5.out z)
  refine aH5 (b:=w.heap.size+1+1+1) (x:=x) (bA R5.out [.int .u64 (aC x.1 0),.int .u64 (aC x.1 1),.int .u64 (aC x.1 2),.int .u64 (aC x.1 3),.bool x.2] rfl) rfl rfl ?_
  exact⟨by rw [HX.out],bC (bC B9.out F5.out lz9 (fun k e=>by rw [e];exact i8 (by omega) l1)) (aV (w.heap.size+1+1+1) [.int .u64 (aC x.1 0),.int .u64 (aC x.1 1),.int .u64 (aC x.1 2),.int .u64 (aC x.1 3),.bool x.2] 0 w5) lz9 (fun k e=>by omega)⟩
 ·have HV:Hid (tvS ρ c o t=(0#256,false)):=if_neg hz
  have HZ:=aD hz
  obtain⟨r,hrr⟩:∃ r,aY c o 0 0 (pp [] t)=r:=⟨_,rfl⟩
  have rz:(r==0)=false:=by rw [<- hrr];simpa using hz
  have rz2:(r != 0)=true:=by rw [bne,rz];rfl
  have HQ:=aD hrr
  clear hz hrr
  go_enter Tryz.func44,Tryz.ntmps44
  go_wp2_with (go_at_call 53;refine(eE c o (HTA.out.kept ((((bz9).alloc (by simp only [a7];omega) _).alloc (by simp only [a7];omega) _).alloc (by simp only [a7];omega) _))).mono ?_;rw [HQ.out];rintro e w1 ⟨rfl,h1⟩;have B1:=aD h1;clear h1;have l1:((((w.alloc (.cells #[.int .i64 t.f.k,.int .i64 t.f.n,.int .i64 t.f.mn,.int .i64 t.f.mx,.slice t.f.rq t.f.rs.length t.f.rc,.slice t.f.kq t.f.kl t.f.kc] 25)).alloc (.cells #[.bool c,.bool o] 27)).alloc (.cells #[.func (.func 45) #[] #[]] 78)).alloc (.cells #[.int .u64 0,.int .u64 0,.int .u64 0,.int .u64 0,.bool false] 76)).heap.size<=w1.heap.size:=B1.out.size;simp only [a7] at l1;have RA:Hid ((w1.alloc (.cells #[.int .u64 0,.int .u64 0,.int .u64 0,.int .u64 0,.bool false] 76)).heap[w.heap.size+1+1+1]?=some (.cells #[.int .u64 0,.int .u64 0,.int .u64 0,.int .u64 0,.bool false] 76 (0,0))):=(Below.heap_alloc _ _ _ (by omega)).trans ((B1.out.block _ (by simp only [a7];omega)).trans (by(repeat (first | exact aK _ (by first | rfl | simp only [a7]) | rw [Below.heap_alloc _ _ _ (by first | omega |(simp only [a7];omega))]))));have z0:=aA RA.out (i:=0) rfl;have z1:=aA RA.out (i:=1) rfl;have z2:=aA RA.out (i:=2) rfl;have z3:=aA RA.out (i:=3) rfl;have z4:=aA RA.out (i:=4) rfl;have fz:=fun z=>aG RA.out z)
  refine aH5 (b:=w.heap.size+1+1+1) (x:=(0#256,false)) (bA RA.out [.int .u64 0,.int .u64 0,.int .u64 0,.int .u64 0,.bool false] rfl) rfl rfl ?_
  exact⟨by rw [HV.out],bC ((aJ ((((bz9).alloc (by simp only [a7];omega) _).alloc (by simp only [a7];omega) _).alloc (by simp only [a7];omega) _) B1.out lz9).alloc (by have:=(aJ ((((bz9).alloc (by simp only [a7];omega) _).alloc (by simp only [a7];omega) _).alloc (by simp only [a7];omega) _) B1.out lz9).size;omega) _) (aV (w.heap.size+1+1+1) [.int .u64 0,.int .u64 0,.int .u64 0,.int .u64 0,.bool false] 0 _) lz9 (fun k e=>by omega)⟩
end
section
attribute [local go_sem] Oper.semAt_some bB
def TwoS(bR bW:Nat)(W V:World)(x:BitVec 256 × Bool):Prop:=V.heap[bR]?=some (.cells #[.int .u64 0,.int .u64 0,.int .u64 0,.int .u64 0,.bool false] 76 (0,0))/\V.heap[bW]?=some (.cells #[.int .u64 (aC x.1 0),.int .u64 (aC x.1 1),.int .u64 (aC x.1 2),.int .u64 (aC x.1 3),.bool x.2] 76 (0,0))/\Below W.heap.size W V
theorem TwoS.put{bR bW:Nat}{W V:World}{x:BitVec 256 × Bool}(h:TwoS bR bW W V x)(hne:bR≠bW)(hW:W.heap.size<=bW)(y:BitVec 256 × Bool):TwoS bR bW W (bD V bW 0 [.int .u64 (aC y.1 0),.int .u64 (aC y.1 1),.int .u64 (aC y.1 2),.int .u64 (aC y.1 3),.bool y.2]) y:=
 ⟨((aV _ _ 0 V).block _ (aB h.1) hne).trans h.1,bA h.2.1 [.int .u64 (aC y.1 0),.int .u64 (aC y.1 1),.int .u64 (aC y.1 2),.int .u64 (aC y.1 3),.bool y.2] rfl,bC h.2.2 (aV _ _ 0 V) lz9 (fun _ e=>e ▸ hW)⟩
theorem TwoS.kept{bR bW:Nat}{W V V':World}{x:BitVec 256 × Bool}(h:TwoS bR bW W V x)(hb:Below V.heap.size V V'):TwoS bR bW W V' x:=
 ⟨(hb.block _ (aB h.1)).trans h.1,(hb.block _ (aB h.2.1)).trans h.2.1,aJ h.2.2 hb lz9⟩
theorem TwoS.end{bR bW:Nat}{W V:World}{x:BitVec 256 × Bool}(h:TwoS bR bW W V x)(hR:W.heap.size<=bR):(bD V bR 0 [.int .u64 (aC x.1 0),.int .u64 (aC x.1 1),.int .u64 (aC x.1 2),.int .u64 (aC x.1 3),.bool x.2]).heap[bR]?=some (.cells #[.int .u64 (aC x.1 0),.int .u64 (aC x.1 1),.int .u64 (aC x.1 2),.int .u64 (aC x.1 3),.bool x.2] 76 (0,0))/\Below W.heap.size W (bD V bR 0 [.int .u64 (aC x.1 0),.int .u64 (aC x.1 1),.int .u64 (aC x.1 2),.int .u64 (aC x.1 3),.bool x.2]):=
 ⟨bA h.1 [.int .u64 (aC x.1 0),.int .u64 (aC x.1 1),.int .u64 (aC x.1 2),.int .u64 (aC x.1 3),.bool x.2] rfl,bC h.2.2 (aV _ _ 0 V) lz9 (fun _ e=>e ▸ hR)⟩
def lP:BitVec 256->List (BitVec 256 × Bool)->BitVec 256 × Bool
 | a,[]=>(a,true)
 | a,x :: r=>if x.2 then lP (aN a x.1) r else (aN a x.1,false)
theorem bZ(i:Nat):aC (0#256) i=0:=by simp [aC]
theorem aH8{R:Ending->World->Prop}{a:Act}{W:World}{b:Nat}{x:BitVec 256 × Bool}(h:W.heap[b]?=some (.cells #[.int .u64 (aC x.1 0),.int .u64 (aC x.1 1),.int .u64 (aC x.1 2),.int .u64 (aC x.1 3),.bool x.2] 76 (0,0)))(ha:a.tmps[2]?.getD undef=.pointer (some ⟨b,0,none⟩))(hd:a.defers=[])(hR:R (.returned (enS x)) W):bodyPost Tryz.prog Tryz.f85 R .ret a W:=by
 refine bodyPost_ret (v:=enS x) ?_ hd hR
 have z0:=aA h (i:=0) rfl;have z1:=aA h (i:=1) rfl;have z2:=aA h (i:=2) rfl;have z3:=aA h (i:=3) rfl;have z4:=aA h (i:=4) rfl
 simp [results,Tryz.results85,go_sem,ha,enS,z0,z1,z2,z3,z4]
def RowS(W:World)(q:Option Addr)(xs:List (BitVec 256 × Bool)):Prop:=∀ (i:Nat) (x:BitVec 256 × Bool),xs[i]?=some x->∃ gb,q=some ⟨gb,0,none⟩/\gb < W.heap.size/\W.cell? ⟨gb,i * 5,none⟩=some (.int .u64 (aC x.1 0))/\W.cell? ⟨gb,i * 5+1,none⟩=some (.int .u64 (aC x.1 1))/\W.cell? ⟨gb,i * 5+2,none⟩=some (.int .u64 (aC x.1 2))/\W.cell? ⟨gb,i * 5+3,none⟩=some (.int .u64 (aC x.1 3))/\W.cell? ⟨gb,i * 5+4,none⟩=some (.bool x.2)
theorem RowS.of{W:World}{base:Nat}{q:Option Addr}{c:Nat}{xs:List (BitVec 256 × Bool)}(h:W.ownsRow base 76 5 (.slice q xs.length c) xs.length (ceS xs)):RowS W q xs:=fun i x hx=>by
 have hi:=(i5.1 hx).1
 obtain⟨gb,cb,e⟩:=aL h (by omega)
 injection e with e1 e2 e3
 subst e1 e3
 have p:=fun j hj=>kW (fun x:BitVec 256 × Bool=>[Value.int .u64 (aC x.1 0),.int .u64 (aC x.1 1),.int .u64 (aC x.1 2),.int .u64 (aC x.1 3),.bool x.2]) 5 (fun _=>rfl) xs i x hx j hj
 exact⟨gb,rfl,(aH h rfl).2.1,aU h (p 0 (by decide)),aU h (p 1 (by decide)),aU h (p 2 (by decide)),aU h (p 3 (by decide)),aU h (p 4 (by decide))⟩
theorem RowS.kept{W W':World}{q:Option Addr}{xs:List (BitVec 256 × Bool)}(h:RowS W q xs)(hb:Below W.heap.size W W'):RowS W' q xs:=fun i x hx=>by
 obtain⟨gb,h1,h2,a,b,c,d,e⟩:=h i x hx
 exact⟨gb,h1,i6 h2 hb.size,(hb.cell (p:=⟨gb,i * 5,none⟩) h2).trans a,(hb.cell (p:=⟨gb,i * 5+1,none⟩) h2).trans b,(hb.cell (p:=⟨gb,i * 5+2,none⟩) h2).trans c,(hb.cell (p:=⟨gb,i * 5+3,none⟩) h2).trans d,(hb.cell (p:=⟨gb,i * 5+4,none⟩) h2).trans e⟩
theorem wR{w:World}{q:Option Addr}{k:Nat}{xs:List (BitVec 256 × Bool)}(h:RowS w q xs)(hl:xs.length<=1000000) :
  Calls Tryz.prog 85 #[.slice q xs.length k] w fun e w'=>e=.returned (enS (lP 0#256 xs))/\Below w.heap.size w w':=by
 have T0:Hid (TwoS w.heap.size (w.heap.size+1) w ((w.alloc (.cells #[.int .u64 0,.int .u64 0,.int .u64 0,.int .u64 0,.bool false] 76)).alloc (.cells #[.int .u64 0,.int .u64 0,.int .u64 0,.int .u64 0,.bool true] 76)) (0#256,true)):=⟨(Below.heap_alloc _ _ _ (by simp only [a7];omega)).trans (aE w _),(aK _ (by simp only [a7])).trans (by simp only [bZ]),(bz9).alloc (by simp only [a7];omega) _⟩
 have HR:=aD h
 clear h
 go_enter Tryz.func85,Tryz.ntmps85
 go_upto_region 3 with fail
 generalize hW0:(w.alloc (.cells #[.int .u64 0,.int .u64 0,.int .u64 0,.int .u64 0,.bool false] 76)).alloc (.cells #[.int .u64 0,.int .u64 0,.int .u64 0,.int .u64 0,.bool true] 76)=W0 at T0 ⊢
 clear hW0
 go_loopw [9] (fun i wr=>∃ (j:Nat) (a:BitVec 256),j<=xs.length/\i=.int .i64 (j:Int)/\TwoS w.heap.size (w.heap.size+1) w wr (a,true)/\lP 0#256 xs=lP a (xs.drop j)) (fun i _=>xs.length - (intOf i).toNat)
 case atStart=>exact⟨0,0#256,m9 _,rfl,T0.out,rfl⟩
 case round=>
  obtain⟨j,ya,hj,rfl,ht,hrw⟩:=hrel
  have TT:=aD ht
  have RW:=aD hrw
  clear ht hrw
  by_cases hjl:j < xs.length
  ·obtain⟨⟨xa,xb⟩,hx⟩:∃ x,xs[j]?=some x:=⟨_,g9 hjl⟩
   have DN:=aD (show lP 0#256 xs=if xb then lP (aN ya xa) (xs.drop (j+1)) else (aN ya xa,false) by
    rw [RW.out,aAH hjl,show xs[j]=(xa,xb) from (i5.1 hx).2];rfl)
   have e1:(j:Int) < (xs.length:Int):=by omega
   obtain⟨gb,rfl,hg,c0,c1,c2,c3,c4⟩:=(HR.out.kept TT.out.2.2) j _ hx
   simp only at c0 c1 c2 c3 c4
   have T1:Hid (TwoS w.heap.size (w.heap.size+1) w (wr.alloc (.cells #[.int .u64 (aC xa 0),.int .u64 (aC xa 1),.int .u64 (aC xa 2),.int .u64 (aC xa 3),.bool xb] 76)) (ya,true)):=TT.out.kept (bz9)
   have k0:(wr.alloc (.cells #[.int .u64 (aC xa 0),.int .u64 (aC xa 1),.int .u64 (aC xa 2),.int .u64 (aC xa 3),.bool xb] 76)).cell? ⟨wr.heap.size,0,none⟩=some (.int .u64 (aC xa 0)):=aA (aE wr _) (i:=0) rfl
   have k1:(wr.alloc (.cells #[.int .u64 (aC xa 0),.int .u64 (aC xa 1),.int .u64 (aC xa 2),.int .u64 (aC xa 3),.bool xb] 76)).cell? ⟨wr.heap.size,1,none⟩=some (.int .u64 (aC xa 1)):=aA (aE wr _) (i:=1) rfl
   have k2:(wr.alloc (.cells #[.int .u64 (aC xa 0),.int .u64 (aC xa 1),.int .u64 (aC xa 2),.int .u64 (aC xa 3),.bool xb] 76)).cell? ⟨wr.heap.size,2,none⟩=some (.int .u64 (aC xa 2)):=aA (aE wr _) (i:=2) rfl
   have k3:(wr.alloc (.cells #[.int .u64 (aC xa 0),.int .u64 (aC xa 1),.int .u64 (aC xa 2),.int .u64 (aC xa 3),.bool xb] 76)).cell? ⟨wr.heap.size,3,none⟩=some (.int .u64 (aC xa 3)):=aA (aE wr _) (i:=3) rfl
   have k4:(wr.alloc (.cells #[.int .u64 (aC xa 0),.int .u64 (aC xa 1),.int .u64 (aC xa 2),.int .u64 (aC xa 3),.bool xb] 76)).cell? ⟨wr.heap.size,4,none⟩=some (.bool xb):=aA (aE wr _) (i:=4) rfl
   have y0:(wr.alloc (.cells #[.int .u64 (aC xa 0),.int .u64 (aC xa 1),.int .u64 (aC xa 2),.int .u64 (aC xa 3),.bool xb] 76)).cell? ⟨w.heap.size+1,0,none⟩=some (.int .u64 (aC ya 0)):=aA T1.out.2.1 (i:=0) rfl
   have y1:(wr.alloc (.cells #[.int .u64 (aC xa 0),.int .u64 (aC xa 1),.int .u64 (aC xa 2),.int .u64 (aC xa 3),.bool xb] 76)).cell? ⟨w.heap.size+1,1,none⟩=some (.int .u64 (aC ya 1)):=aA T1.out.2.1 (i:=1) rfl
   have y2:(wr.alloc (.cells #[.int .u64 (aC xa 0),.int .u64 (aC xa 1),.int .u64 (aC xa 2),.int .u64 (aC xa 3),.bool xb] 76)).cell? ⟨w.heap.size+1,2,none⟩=some (.int .u64 (aC ya 2)):=aA T1.out.2.1 (i:=2) rfl
   have y3:(wr.alloc (.cells #[.int .u64 (aC xa 0),.int .u64 (aC xa 1),.int .u64 (aC xa 2),.int .u64 (aC xa 3),.bool xb] 76)).cell? ⟨w.heap.size+1,3,none⟩=some (.int .u64 (aC ya 3)):=aA T1.out.2.1 (i:=3) rfl
   have y4:(wr.alloc (.cells #[.int .u64 (aC xa 0),.int .u64 (aC xa 1),.int .u64 (aC xa 2),.int .u64 (aC xa 3),.bool xb] 76)).cell? ⟨w.heap.size+1,4,none⟩=some (.bool true):=aA T1.out.2.1 (i:=4) rfl
   have l6:w.heap.size+1 < (wr.alloc (.cells #[.int .u64 (aC xa 0),.int .u64 (aC xa 1),.int .u64 (aC xa 2),.int .u64 (aC xa 3),.bool xb] 76)).heap.size:=aB T1.out.2.1
   have l7:wr.heap.size < (wr.alloc (.cells #[.int .u64 (aC xa 0),.int .u64 (aC xa 1),.int .u64 (aC xa 2),.int .u64 (aC xa 3),.bool xb] 76)).heap.size:=by rw [a7];omega
   have KN:=aE wr (.cells #[.int .u64 (aC xa 0),.int .u64 (aC xa 1),.int .u64 (aC xa 2),.int .u64 (aC xa 3),.bool xb] 76)
   have HKN:=aD KN
   clear hx KN
   go_wp2
   generalize hW1:wr.alloc (.cells #[.int .u64 (aC xa 0),.int .u64 (aC xa 1),.int .u64 (aC xa 2),.int .u64 (aC xa 3),.bool xb] 76)=W1 at T1 l6 l7 y0 y1 y2 y3 y4 k0 k1 k2 k3 k4 HKN ⊢
   clear hW1
   refine aW (aAF _ _) (by kernel_rfl) (by kernel_rfl) (by kernel_rfl) ?_
   dsimp only [List.dropLast,List.getLast]
   repeat (go_big_quiet_step (first | exact rfl |(go_at_call 86;exact bN (mK ya xa _))))
   refine wpQuiet_nil ?_
   intro w3 hw
   have B3:=aD (aQ hw)
   have T3:Hid (TwoS w.heap.size (w.heap.size+1) w w3 (ya,true)):=T1.out.kept B3.out
   have K3:Hid (w3.heap[wr.heap.size]?=some (.cells #[.int .u64 (aC xa 0),.int .u64 (aC xa 1),.int .u64 (aC xa 2),.int .u64 (aC xa 3),.bool xb] 76 (0,0))):=(B3.out.block _ l7).trans HKN.out
   clear hw y0 y1 y2 y3 y4 k0 k1 k2 k3 k4 c0 c1 c2 c3 c4
   have y0:=aA T3.out.2.1 (i:=0) rfl
   have y1:=aA T3.out.2.1 (i:=1) rfl
   have y2:=aA T3.out.2.1 (i:=2) rfl
   have y3:=aA T3.out.2.1 (i:=3) rfl
   have y4:=aA T3.out.2.1 (i:=4) rfl
   have fy:=fun z=>aG T3.out.2.1 z
   have kk:w3.cell? ⟨wr.heap.size,4,none⟩=some (.bool xb):=aA K3.out (i:=4) rfl
   have nn:wr.heap.size≠w.heap.size+1:=by have:=aB TT.out.2.1;omega
   have T6:Hid (TwoS w.heap.size (w.heap.size+1) w (bD w3 (w.heap.size+1) 0 [.int .u64 (aC (aN ya xa) 0),.int .u64 (aC (aN ya xa) 1),.int .u64 (aC (aN ya xa) 2),.int .u64 (aC (aN ya xa) 3),.bool xb]) (aN ya xa,xb)):=T3.out.put (Nat.ne_of_lt (Nat.lt_succ_self _)) (Nat.le_succ _) (aN ya xa,xb)
   cases xb with
   | true=>
    rw [if_pos rfl] at DN
    go_wp2
    go_roundw
    case rel=>exact⟨j+1,aN ya xa,by omega,by go_num,T6.out,DN.out⟩
    case measure=>simp only [intOf];omega
   | false=>
    rw [if_neg (by simp)] at DN
    go_upto_region 8 with fail
    change Code.wp _ _ _ _ (bD w3 (w.heap.size+1) 0 [.int .u64 (aC (aN ya xa) 0),.int .u64 (aC (aN ya xa) 1),.int .u64 (aC (aN ya xa) 2),.int .u64 (aC (aN ya xa) 3),.bool false])
    generalize bD w3 (w.heap.size+1) 0 [.int .u64 (aC (aN ya xa) 0),.int .u64 (aC (aN ya xa) 1),.int .u64 (aC (aN ya xa) 2),.int .u64 (aC (aN ya xa) 3),.bool false]=W9 at T6 ⊢
    generalize aN ya xa=X at T6 DN ⊢
    clear y0 y1 y2 y3 y4 fy kk
    have y0:=aA T6.out.2.1 (i:=0) rfl
    have y1:=aA T6.out.2.1 (i:=1) rfl
    have y2:=aA T6.out.2.1 (i:=2) rfl
    have y3:=aA T6.out.2.1 (i:=3) rfl
    have y4:=aA T6.out.2.1 (i:=4) rfl
    have z0:=aA T6.out.1 (i:=0) rfl
    have z1:=aA T6.out.1 (i:=1) rfl
    have z2:=aA T6.out.1 (i:=2) rfl
    have z3:=aA T6.out.1 (i:=3) rfl
    have z4:=aA T6.out.1 (i:=4) rfl
    have fz:=fun z=>aG T6.out.1 z
    go_wp2
    have T9:=T6.out.end lz9
    simp only [bD] at T9
    refine aH8 (b:=w.heap.size) (x:=(X,false)) T9.1 rfl rfl ?_
    exact⟨by rw [DN.out],T9.2⟩
  ·have e1:¬ (j:Int) < (xs.length:Int):=by omega
   have RW2:=aD (show lP 0#256 xs=(ya,true) by rw [RW.out,List.drop_of_length_le (by omega)];rfl)
   have y0:=aA TT.out.2.1 (i:=0) rfl
   have y1:=aA TT.out.2.1 (i:=1) rfl
   have y2:=aA TT.out.2.1 (i:=2) rfl
   have y3:=aA TT.out.2.1 (i:=3) rfl
   have y4:=aA TT.out.2.1 (i:=4) rfl
   have z0:=aA TT.out.1 (i:=0) rfl
   have z1:=aA TT.out.1 (i:=1) rfl
   have z2:=aA TT.out.1 (i:=2) rfl
   have z3:=aA TT.out.1 (i:=3) rfl
   have z4:=aA TT.out.1 (i:=4) rfl
   have fz:=fun z=>aG TT.out.1 z
   go_wp2
   have T9:=TT.out.end lz9
   simp only [bD] at T9
   refine aH8 (b:=w.heap.size) (x:=(ya,true)) T9.1 rfl rfl ?_
   exact⟨by rw [RW2.out],T9.2⟩
end
end Go.Proofs.YtlaimbkenbijeaaGreatDoor
