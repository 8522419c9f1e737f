/-
  Parts of the proof.
-/
import Derived.Test.YtdgfpiekjigfnaaGreatDoorHoldsProofA0
import Derived.Test.YtdgfpiekjigfnaaGreatDoorHoldsProofA1
import Derived.Test.YtdgfpiekjigfnaaGreatDoorHoldsProofB3
import Derived.Deep.RegionHeld
import Derived.Laws.EntriesVeiled
import Derived.Test.YtdgfpiekjigfnaaGreatDoorHoldsProofB6
import Derived.Test.YtdgfpiekjigfnaaGreatDoorHoldsProofB7
import Derived.Sort.OwnSortedInts
import Derived.Lib.RowBridge
set_option maxRecDepth 100000
set_option maxHeartbeats 8000000
namespace Go.Proofs.YtdgfpiekjigfnaaGreatDoor
open Go Go.RowKit
section
attribute [local go_sem] Oper.semAt_some
abbrev TWI:=TW 81 82 42 112 154 97 153
def enI(x:Int):Value:=.int .i64 x
def ceI(xs:List (Int)):List Value:=xs.flatMap fun x=>[.int .i64 x]
theorem xO(xs:List (Int))(x:Int):ceI (xs ++ [x])=ceI xs ++ [.int .i64 x]:=by simp [ceI]
theorem wF:Tryz.prog.underlying 44=some (.slice 3):=by kernel_rfl
theorem bQ7:Tryz.prog.underlying 153=some (.map 3 3):=by kernel_rfl
theorem aX4:(Tryz.prog.info? 3).map (fun i=>(i.zero,i.size,i.bytes))=some (some (.int .i64 0),1,8):=by kernel_rfl
def RuI(Glo:World->Prop)(NP:Tr->Prop)(Good:Int->Prop)(ρ:dJ (Int))(c o:Bool):Prop:=
 ∀ (t:Tr) (xs:List (Int)) (g:Int->Int) (W:World) (v:Value) (bp bb n base:Nat),Glo W->NP t->t.ks.length<=1000000->NB W t->xs.length=t.ks.length->(∀ x∈xs,Good x)->(∀ i,Good (g i))->W.ownsRow base 3 1 v xs.length (ceI xs) ->
  W.heap[bp]?=some (.cells #[.map (some bb)] 153 (0,0))->MapV W (.int .i64 0) bb n (fun i=>enI (g i)) ->
  Calls Tryz.prog 42 #[.agg (cX t.f c o v (.func (.func 81) #[] #[bx bp]))] W fun e w'=>e=.returned (enI (ρ t.f t.ks xs g))/\wBl W w'
def OfI(ρ:dJ (Int))(w:World)(bb n:Nat)(t:Tr)(g:Int->Int)(e:Ending)(w':World):Prop:=
 e=.returned (enI (ev ρ g t).1)/\MapV w' (.int .i64 0) bb (n+t.sz) (fun i=>enI ((ev ρ g t).2 i))/\Fr (fun k=>k=bb) w w'
structure LpI(ρ:dJ (Int))(W0 wr:World)(b s n:Nat)(t:Tr)(c o:Bool)(g:Int->Int)(j:Nat)(v gv:Value):Prop where
 sc:wr.heap[s]?=some (.cells (cX t.f c o v gv) 156 (0,0))
 own:wr.ownsRow W0.heap.size 3 1 v j (ceI (evs ρ g (t.ks.take j)).1)
 mp:MapV wr (.int .i64 0) b (n+szs (t.ks.take j)) (fun i=>enI ((evs ρ g (t.ks.take j)).2 i))
 fr:Fr (Wr2 b s) W0 wr
theorem bZ3{Glo:World->Prop}(hglo:∀ {A B:World},CK A B->Glo A->Glo B){NP:Tr->Prop}{Good:Int->Prop}{ρ:dJ (Int)}{c o:Bool}(hr:RuI Glo NP Good ρ c o)(hwf:∀ t,NP t->t.f.k=7->(Lit.int .i64 t.f.n).wf=true)(hg:∀ t xs g,NP t->xs.length=t.ks.length->(∀ x∈xs,Good x)->(∀ i,Good (g i))->Good (ρ t.f t.ks xs g))(bm bg bo br bp bb:Nat) :
  ∀ (m:Nat) (t:Tr) (w:World) (n:Nat) (g:Int->Int),t.sz<=m->n+t.sz<=1000000->Glo w->TB w t->bK NP t->(∀ i,Good (g i))->TWI w bm bg bo br bp bb c o->MapV w (.int .i64 0) bb n (fun i=>enI (g i)) ->
   Calls Tryz.prog 82 #[.agg (nDf t.f),bx bm,bx bg,bx bo,bx br,bx bp] w (OfI ρ w bb n t g):=by
 intro m
 induction m with
 | zero=>intro t w n g hm;exact absurd (dQ t) (by omega)
 | succ m ih=>
  intro t w n g hm hn hgw hta hnp hgd htw hmp;have HGW:=aC hgw;clear hgw;obtain⟨t0,ti,hz0,hz1,hz2⟩:=aV aX4;have TI:Hid (Tryz.prog.info? 3=some t0/\t0.zero=some (.int .i64 0)/\t0.size=1/\t0.bytes=8):=⟨ti,hz0,hz1,hz2⟩;clear ti hz0 hz1 hz2;have HTA:=aC hta;have HTW:=aC htw;obtain⟨q,cap,hkv,hk1,hk2,hk3⟩:=hta.node.k.slice;injection hkv with hkq hkl hkc;subst hkq;have HKL:=aC hkl;have HK3:=aC hk3;have hkm:t.ks.length<=9223372036854775807:=hk1;have hkz:=aC (show szs t.ks+1=t.sz from (fE t).symm);clear hkl hkc hk3 hk1;have m0:w.cell? ⟨bm,0,none⟩=some (.bool c):=aA htw.m (i:=0) rfl;have m1:w.cell? ⟨bm,1,none⟩=some (.bool o):=aA htw.m (i:=1) rfl;obtain⟨gv,hgv⟩:∃ gv,Value.func (.func 81) #[] #[bx bp]=gv:=⟨_,rfl⟩;have g0:w.cell? ⟨bg,0,none⟩=some (.func (.func 81) #[] #[bx bp]):=aA htw.g (i:=0) rfl;have l1:=aB htw.m;have l2:=aB htw.g;have IH:=aC ih;have HR:=aC hr;have HWF:=aC hwf;have HG:=aC hg;have HNP:=aC hnp;have HGD:=aC hgd;have HMP:=aC hmp;have HM:=aC hm;have HN:=aC hn;have HGV:=aC hgv;clear ih hr hwf hg hnp hgd hmp hm hn hta htw hgv;go_enter Tryz.func82,Tryz.ntmps82;go_upto_region 5 with fail
  have B0:Hid (wBl w ((w.alloc (.cells (nDf t.f) 25)).alloc (.cells #[.int .i64 t.f.k,.int .i64 t.f.n,.int .i64 t.f.mn,.int .i64 t.f.mx,.slice t.f.rq t.f.rs.length t.f.rc,.slice t.f.kq t.f.kl t.f.kc,.bool c,.bool o,.slice none 0 0,.func (.func 81) #[] #[bx bp]] 156))):=(bz9).alloc (by simp only [f4];omega) _;have N0:Hid (BoxN ((w.alloc (.cells (nDf t.f) 25)).alloc (.cells #[.int .i64 t.f.k,.int .i64 t.f.n,.int .i64 t.f.mn,.int .i64 t.f.mx,.slice t.f.rq t.f.rs.length t.f.rc,.slice t.f.kq t.f.kl t.f.kc,.bool c,.bool o,.slice none 0 0,.func (.func 81) #[] #[bx bp]] 156)) w.heap.size t.f):=(Below.heap_alloc _ _ _ (by simp only [f4];omega)).trans (aE w _);have S0:Hid (((w.alloc (.cells (nDf t.f) 25)).alloc (.cells #[.int .i64 t.f.k,.int .i64 t.f.n,.int .i64 t.f.mn,.int .i64 t.f.mx,.slice t.f.rq t.f.rs.length t.f.rc,.slice t.f.kq t.f.kl t.f.kc,.bool c,.bool o,.slice none 0 0,.func (.func 81) #[] #[bx bp]] 156)).heap[w.heap.size+1]?=some (.cells (cX t.f c o (.slice none 0 0) (.func (.func 81) #[] #[bx bp])) 156 (0,0))):=(by have:=aE (w.alloc (.cells (nDf t.f) 25)) (.cells #[.int .i64 t.f.k,.int .i64 t.f.n,.int .i64 t.f.mn,.int .i64 t.f.mx,.slice t.f.rq t.f.rs.length t.f.rc,.slice t.f.kq t.f.kl t.f.kc,.bool c,.bool o,.slice none 0 0,.func (.func 81) #[] #[bx bp]] 156);simp only [f4] at this;exact this);generalize hW0:((w.alloc (.cells (nDf t.f) 25)).alloc (.cells #[.int .i64 t.f.k,.int .i64 t.f.n,.int .i64 t.f.mn,.int .i64 t.f.mx,.slice t.f.rq t.f.rs.length t.f.rc,.slice t.f.kq t.f.kl t.f.kc,.bool c,.bool o,.slice none 0 0,.func (.func 81) #[] #[bx bp]] 156))=W0 at B0 N0 S0 ⊢;clear hW0;obtain⟨bs,hbs⟩:∃ bs,w.heap.size+1=bs:=⟨_,rfl⟩;have HBS:Hid (w.heap.size<=bs/\bs < W0.heap.size/\bs=w.heap.size+1):=⟨by omega,by rw [<- hbs];exact aB S0.o,hbs.symm⟩;rw [hbs] at S0 ⊢;clear hbs;have MB:Hid (∃ es clock,W0.heap[bb]?=some (.map es clock)):=aC (by obtain⟨es,cl,hb⟩:=HMP.o.block;exact⟨es,cl,(B0.o.block _ (aB hb)).trans hb⟩);go_loopw [19] (fun i wr=>∃ (j:Nat) (v:Value),j<=t.ks.length/\i=.int .i64 (j:Int)/\LpI ρ W0 wr bb bs n t c o g j v (.func (.func 81) #[] #[bx bp])) (fun i _=>t.ks.length - (intOf i).toNat)
  case atStart=>exact⟨0,_,o9 _,rfl,S0.o,(by rw [v9,cQ];exact⟨rfl,.inl ⟨rfl,rfl⟩⟩),(by rw [v9,cQ,eP];exact HMP.o.kept B0.o),Fr.refl _ _⟩
  case round=>
   clear S0;obtain⟨j,v,hj,rfl,hlp⟩:=hrel;obtain⟨qv,cv,rfl⟩:=aR hlp.own;have LP:=aC hlp;have CW:Hid (CK w wr):=fD MB.o HBS.o.1 B0.o hlp.fr;clear hlp;by_cases hjl:j < t.ks.length
   ·have e0:(j:Int) < (t.f.kl:Int):=by rw [HKL.o];omega
    obtain⟨u,hu⟩:∃ u,t.ks[j]?=some u:=⟨_,i9 hjl⟩;obtain⟨gq,off,hq,hgl,hsix⟩:=HK3.o j u hu;rw [hq];obtain⟨c0,c1,c2,c3,c4,c5⟩:=hsix.ck CW.o hgl;have HU:=aC hu;have hin:u∈t.ks:=n7 hu;clear hsix hu;have SK:Hid (Fr (Wr2 bb bs) W0 (wr.alloc (.cells (nDf u.f) 25)).drew/\BoxN (wr.alloc (.cells (nDf u.f) 25)).drew wr.heap.size u.f):=⟨(LP.o.fr.alloc _).drew,aE wr _⟩;have NE:Hid (¬ wr.heap.size=bb/\¬ bb=bs):=⟨fun e=>by have:=LP.o.mp.lt;omega,fun e=>by
     obtain⟨es,cl,hb⟩:=LP.o.mp.block;rw [e,LP.o.sc] at hb;cases hb⟩
    have NE3:Hid (wr.heap.size≠bs):=fun e=>by have:=aB LP.o.sc;omega
    have CB:Hid ((wr.alloc (.cells (nDf u.f) 25)).drew.heap[bs]?=some (.cells (cX t.f c o (.slice qv j cv) (.func (.func 81) #[] #[bx bp])) 156 (0,0))):=(Below.heap_alloc wr _ _ (aB LP.o.sc)).trans LP.o.sc;have k8:(wr.alloc (.cells (nDf u.f) 25)).drew.cell? ⟨bs,8,none⟩=some (.slice qv j cv):=aA CB.o (i:=8) rfl;have QC:Hid (∀ w',(Fr (Wr2 bb bs) W0 w'/\BoxN w' wr.heap.size u.f)->w'.cell? ⟨bo,0,none⟩=some (.func (.func 82) #[] #[bx bm,bx bg,bx bo,bx br,bx bp])/\w'.cell? ⟨wr.heap.size,0,none⟩=some (.int .i64 u.f.k)/\w'.cell? ⟨wr.heap.size,1,none⟩=some (.int .i64 u.f.n)/\w'.cell? ⟨wr.heap.size,2,none⟩=some (.int .i64 u.f.mn)/\w'.cell? ⟨wr.heap.size,3,none⟩=some (.int .i64 u.f.mx)/\w'.cell? ⟨wr.heap.size,4,none⟩=some (.slice u.f.rq u.f.rs.length u.f.rc)/\w'.cell? ⟨wr.heap.size,5,none⟩=some (.slice u.f.kq u.f.kl u.f.kc)):=fun w' hS=>by
     have six:=hS.2.six;simp only [Six,m9] at six;exact⟨aA (HTW.o.ck (fD MB.o HBS.o.1 B0.o hS.1)).o (i:=0) rfl,six⟩
    have MK:Hid (MapV (wr.alloc (.cells (nDf u.f) 25)).drew (.int .i64 0) bb (n+szs (t.ks.take j)) (fun i=>enI ((evs ρ g (t.ks.take j)).2 i))):=LP.o.mp.kept ((bz9).drew);have OK:Hid ((wr.alloc (.cells (nDf u.f) 25)).drew.ownsRow W0.heap.size 3 1 (.slice qv j cv) j (ceI (evs ρ g (t.ks.take j)).1)):=aBY (o8 LP.o.own _);have CK2:Hid (CK w (wr.alloc (.cells (nDf u.f) 25)).drew):=fD MB.o HBS.o.1 B0.o SK.o.1;have LJ:=aC (show j<=1000000 by have:=cO t.ks;have:=hkz.o;have:=HN.o;omega);have IH0:=IH.o u (wr.alloc (.cells (nDf u.f) 25)).drew (n+szs (t.ks.take j)) (evs ρ g (t.ks.take j)).2 (by have:=cK hin;have:=HM.o;omega)
     (by have:=lB t.ks (j+1);rw [bL HU.o] at this;have:=hkz.o;have:=HN.o;omega) (hglo CK2.o HGW.o) ((HTA.o.ck CK2.o).kid hin) (bC HNP.o hin)
     (eM HG.o (t.ks.take j) g (fun u hu=>bC HNP.o (aAJ hu)) HGD.o).2 (HTW.o.ck CK2.o) MK.o
    obtain⟨x5,hx5⟩:∃ x,(ev ρ (evs ρ g (t.ks.take j)).2 u).1=x:=⟨_,rfl⟩;have IHU:Hid (Calls Tryz.prog 82 #[.agg (nDf u.f),bx bm,bx bg,bx bo,bx br,bx bp] (wr.alloc (.cells (nDf u.f) 25)).drew (fun e w'=>e=.returned (.int .i64 x5)/\MapV w' (.int .i64 0) bb (n+szs (t.ks.take j)+u.sz) (fun i=>enI ((ev ρ (evs ρ g (t.ks.take j)).2 u).2 i))/\Fr (fun k=>k=bb) (wr.alloc (.cells (nDf u.f) 25)).drew w')):=aC (by subst hx5;exact IH0);have HX5:=aC hx5;clear hin IH0 hx5;go_wp2;refine wp_region_held_drew (S:=fun w'=>Fr (Wr2 bb bs) W0 w'/\BoxN w' wr.heap.size u.f) (by kernel_rfl) SK.o (fun hHeld=>?_);refine aCO (v:=?_) 0 ?_ ?_;rotate_left
    ·intro wz hSw;obtain⟨q0,q1,q2,q3,q4,q5,q6⟩:=QC.o wz hSw;clear hSw;go_simp;try with_reducible rfl
    dsimp only [Act.put,g9,g4,g8];simp only [f8,i8,i7];refine aCO (v:=?_) 2 ?_ ?_;rotate_left
    ·intro wz hSw;obtain⟨q0,q1,q2,q3,q4,q5,q6⟩:=QC.o wz hSw;clear hSw;go_simp;try with_reducible rfl
    dsimp only [Act.put,g9,g4,g8];simp only [f8,i8,i7];refine aCO (v:=?_) 3 ?_ ?_;rotate_left
    ·intro wz hSw;obtain⟨q0,q1,q2,q3,q4,q5,q6⟩:=QC.o wz hSw;clear hSw;go_simp;try with_reducible rfl
    dsimp only [Act.put,g9,g4,g8];simp only [f8,i8,i7];refine wpAnyH_ready (rs:=[1,4]) (by kernel_rfl) (by simp) ?_;refine AllReadyH.cons rfl (fun K hK=>?_) (AllReadyH.cons rfl (fun K hK=>?_) AllReadyH.nil)
    ·go_simp;refine hK.out _ _ SK.o (fun hHeld1=>?_);clear hK K;refine wpAnyH_ready (rs:=[4]) (by kernel_rfl) (by simp) ?_;refine AllReadyH.cons rfl (fun K hK=>?_) AllReadyH.nil;go_simp
     go_at_call 82
     refine IHU.o.mono ?_;rintro e w5 ⟨rfl,hm5,hf5⟩;have M5:=aC hm5;have F5:=aC hf5;clear hm5 hf5;have S5:Hid (Fr (Wr2 bb bs) W0 w5/\BoxN w5 wr.heap.size u.f):=⟨SK.o.1.trans (F5.o.mono (fun k e=>.inl e)),(F5.o.block _ (aB SK.o.2) (fun e=>NE.o.1 e)).trans SK.o.2⟩;refine hK.out _ _ S5.o (fun hHeld2=>?_);clear hK K;refine wpAnyH_ready (rs:=[5]) (by kernel_rfl) (by simp) ?_;refine AllReadyH.cons rfl (fun K hK=>?_) AllReadyH.nil;go_simp;have S6:Hid (Fr (Wr2 bb bs) W0 (w5.alloc (.cells #[.int .i64 x5] 3))/\BoxN (w5.alloc (.cells #[.int .i64 x5] 3)) wr.heap.size u.f):=⟨S5.o.1.alloc _,(Below.heap_alloc _ _ _ (aB S5.o.2)).trans S5.o.2⟩;refine hK.out _ _ S6.o (fun hHeld3=>?_);clear hK K;refine wpAnyH_ready (rs:=[6]) (by kernel_rfl) (by simp) ?_;refine AllReadyH.cons rfl (fun K hK=>?_) AllReadyH.nil;have O6:Hid ((w5.alloc (.cells #[.int .i64 x5] 3)).ownsRow W0.heap.size 3 1 (.slice qv j cv) j (ceI (evs ρ g (t.ks.take j)).1)):=o8 (aH OK.o F5.o (fun k e z=>bJ OK.o MK.o.block (z ▸ e))) _;refine aZ rfl _ _ 44 rfl W0.heap.size 3 t0 (.int .i64 0) 1 8 wF TI.o.1 TI.o.2.1 TI.o.2.2.1 TI.o.2.2.2 rfl (by decide) (.slice qv j cv) j (ceI (evs ρ g (t.ks.take j)).1) (by simp [Act.eval]) O6.o ⟨w5.heap.size,0,none⟩ 1 1 [.int .i64 x5] (by simp [Act.eval]) rfl (bI w5 [.int .i64 x5] _) (by simp [Value.oneCell']) (by have:=LJ.o;unfold maxLen;omega) (by have:=LJ.o;omega) (m8 S5.o.1.size (by simp only [f4];omega)) ?_;intro v' w6 hown' hgrow hblk;obtain⟨g6,cap6,rfl⟩:=aL hown' (aAL _);have O7:=aC hown';have G6:=aC hgrow;clear hown' hgrow hblk;have S7:Hid (Fr (Wr2 bb bs) W0 w6/\BoxN w6 wr.heap.size u.f):=⟨S6.o.1.grownNew G6.o (fun k e=>(aF O6.o e).1),(G6.o.block _ (aB S6.o.2) (fun e=>by
      have:=(aF LP.o.own e.symm).2.1;omega)).trans S6.o.2⟩
     have C7:Hid (w6.heap[bs]?=some (.cells (cX t.f c o (.slice qv j cv) (.func (.func 81) #[] #[bx bp])) 156 (0,0))):=(by
      have e5:=(F5.o.block _ (aB CB.o) (fun e=>NE.o.2 e.symm)).trans CB.o;have e6:=(Below.heap_alloc w5 (.cells #[.int .i64 x5] 3) _ (aB e5)).trans e5;exact(G6.o.block _ (aB e6) (fun e=>aO O6.o e6 (by decide) e.symm)).trans e6)
     have M7:Hid (MapV w6 (.int .i64 0) bb (n+szs (t.ks.take j)+u.sz) (fun i=>enI ((ev ρ (evs ρ g (t.ks.take j)).2 u).2 i))):=(by
      have m6:=M5.o.kept ((Below.refl _ _).alloc lz9 (.cells #[.int .i64 x5] 3));exact m6.same (G6.o.block _ m6.lt (fun e=>bJ O6.o m6.block e.symm)))
     refine hK.out _ _ S7.o (fun hHeld4=>?_);clear hK K;refine aCO (v:=?_) 7 ?_ ?_;rotate_left
     ·intro wz hSw;obtain⟨q0,q1,q2,q3,q4,q5,q6⟩:=QC.o wz hSw;clear hSw;go_simp;try with_reducible rfl
     dsimp only [Act.put,g9,g4,g8];simp only [f8,i8,i7];refine wpAnyH_ready (rs:=[8]) (by kernel_rfl) (by simp) ?_;refine AllReadyH.cons rfl (fun K hK=>?_) AllReadyH.nil;have k7:w6.cell? ⟨bs,8,none⟩=some (.slice qv j cv):=aA C7.o (i:=8) rfl;have fz:=aG C7.o 8;go_simp;have S8:Hid (Fr (Wr2 bb bs) W0 (w6.setCell ⟨bs,8,none⟩ (.slice (some ⟨g6,0,none⟩) (j+1) cap6))/\BoxN (w6.setCell ⟨bs,8,none⟩ (.slice (some ⟨g6,0,none⟩) (j+1) cap6)) wr.heap.size u.f):=⟨S7.o.1.setCell (p:=⟨bs,8,none⟩) (.inr rfl) _,(Below.heap_setCell _ _ _ _ (fun e=>NE3.o e)).trans S7.o.2⟩;refine hK.out _ _ S8.o (fun hHeld5=>?_);clear hK K;refine wpAnyH_done (by kernel_rfl) ?_ _;have LQ:Hid (LpI ρ W0 (w6.setCell ⟨bs,8,none⟩ (.slice (some ⟨g6,0,none⟩) (j+1) cap6)) bb bs n t c o g (j+1) (.slice (some ⟨g6,0,none⟩) (j+1) cap6) (.func (.func 81) #[] #[bx bp])):=by
      obtain⟨ea,eb⟩:=dD (ρ:=ρ) HU.o g;refine⟨aN C7.o 8 _,?_,?_,S8.o.1⟩
      ·rw [ea,xO,HX5.o];exact aH O7.o ((Fr.refl (fun k=>k=bs) w6).setCell (p:=⟨bs,8,none⟩) rfl _) (fun k e z=>aO O7.o C7.o (by decide) (z ▸ e))
      ·rw [eb,bL HU.o,<- aAN];exact M7.o.fr ((Fr.refl (fun k=>k=bs) w6).setCell (p:=⟨bs,8,none⟩) rfl _) (fun e=>by
        obtain⟨es,cl,hb⟩:=M7.o.block;rw [e,C7.o] at hb;cases hb)
     clear k7 fz;go_wp2;go_roundw
     case rel=>exact⟨j+1,_,by omega,by go_num,LQ.o⟩
     case measure=>simp only [intOf];omega
    ·go_simp
     go_at_call 82
     refine IHU.o.mono ?_;rintro e w5 ⟨rfl,hm5,hf5⟩;have M5:=aC hm5;have F5:=aC hf5;clear hm5 hf5;have S5:Hid (Fr (Wr2 bb bs) W0 w5/\BoxN w5 wr.heap.size u.f):=⟨SK.o.1.trans (F5.o.mono (fun k e=>.inl e)),(F5.o.block _ (aB SK.o.2) (fun e=>NE.o.1 e)).trans SK.o.2⟩;refine hK.out _ _ S5.o (fun hHeld1=>?_);clear hK K;refine wpAnyH_ready (rs:=[1,5]) (by kernel_rfl) (by simp) ?_;refine AllReadyH.cons rfl (fun K hK=>?_) (AllReadyH.cons rfl (fun K hK=>?_) AllReadyH.nil)
     ·have k9:w5.cell? ⟨bs,8,none⟩=some (.slice qv j cv):=aA ((F5.o.block _ (aB CB.o) (fun e=>NE.o.2 e.symm)).trans CB.o) (i:=8) rfl;go_simp;refine hK.out _ _ S5.o (fun hHeld2=>?_);clear hK K;refine wpAnyH_ready (rs:=[5]) (by kernel_rfl) (by simp) ?_;refine AllReadyH.cons rfl (fun K hK=>?_) AllReadyH.nil;go_simp;have S6:Hid (Fr (Wr2 bb bs) W0 (w5.alloc (.cells #[.int .i64 x5] 3))/\BoxN (w5.alloc (.cells #[.int .i64 x5] 3)) wr.heap.size u.f):=⟨S5.o.1.alloc _,(Below.heap_alloc _ _ _ (aB S5.o.2)).trans S5.o.2⟩;refine hK.out _ _ S6.o (fun hHeld3=>?_);clear hK K;refine wpAnyH_ready (rs:=[6]) (by kernel_rfl) (by simp) ?_;refine AllReadyH.cons rfl (fun K hK=>?_) AllReadyH.nil;have O6:Hid ((w5.alloc (.cells #[.int .i64 x5] 3)).ownsRow W0.heap.size 3 1 (.slice qv j cv) j (ceI (evs ρ g (t.ks.take j)).1)):=o8 (aH OK.o F5.o (fun k e z=>bJ OK.o MK.o.block (z ▸ e))) _;refine aZ rfl _ _ 44 rfl W0.heap.size 3 t0 (.int .i64 0) 1 8 wF TI.o.1 TI.o.2.1 TI.o.2.2.1 TI.o.2.2.2 rfl (by decide) (.slice qv j cv) j (ceI (evs ρ g (t.ks.take j)).1) (by simp [Act.eval]) O6.o ⟨w5.heap.size,0,none⟩ 1 1 [.int .i64 x5] (by simp [Act.eval]) rfl (bI w5 [.int .i64 x5] _) (by simp [Value.oneCell']) (by have:=LJ.o;unfold maxLen;omega) (by have:=LJ.o;omega) (m8 S5.o.1.size (by simp only [f4];omega)) ?_;intro v' w6 hown' hgrow hblk;obtain⟨g6,cap6,rfl⟩:=aL hown' (aAL _);have O7:=aC hown';have G6:=aC hgrow;clear hown' hgrow hblk;have S7:Hid (Fr (Wr2 bb bs) W0 w6/\BoxN w6 wr.heap.size u.f):=⟨S6.o.1.grownNew G6.o (fun k e=>(aF O6.o e).1),(G6.o.block _ (aB S6.o.2) (fun e=>by
       have:=(aF LP.o.own e.symm).2.1;omega)).trans S6.o.2⟩
      have C7:Hid (w6.heap[bs]?=some (.cells (cX t.f c o (.slice qv j cv) (.func (.func 81) #[] #[bx bp])) 156 (0,0))):=(by
       have e5:=(F5.o.block _ (aB CB.o) (fun e=>NE.o.2 e.symm)).trans CB.o;have e6:=(Below.heap_alloc w5 (.cells #[.int .i64 x5] 3) _ (aB e5)).trans e5;exact(G6.o.block _ (aB e6) (fun e=>aO O6.o e6 (by decide) e.symm)).trans e6)
      have M7:Hid (MapV w6 (.int .i64 0) bb (n+szs (t.ks.take j)+u.sz) (fun i=>enI ((ev ρ (evs ρ g (t.ks.take j)).2 u).2 i))):=(by
       have m6:=M5.o.kept ((Below.refl _ _).alloc lz9 (.cells #[.int .i64 x5] 3));exact m6.same (G6.o.block _ m6.lt (fun e=>bJ O6.o m6.block e.symm)))
      refine hK.out _ _ S7.o (fun hHeld4=>?_);clear hK K;refine aCO (v:=?_) 7 ?_ ?_;rotate_left
      ·intro wz hSw;obtain⟨q0,q1,q2,q3,q4,q5,q6⟩:=QC.o wz hSw;clear hSw;go_simp;try with_reducible rfl
      dsimp only [Act.put,g9,g4,g8];simp only [f8,i8,i7];refine wpAnyH_ready (rs:=[8]) (by kernel_rfl) (by simp) ?_;refine AllReadyH.cons rfl (fun K hK=>?_) AllReadyH.nil;have k7:w6.cell? ⟨bs,8,none⟩=some (.slice qv j cv):=aA C7.o (i:=8) rfl;have fz:=aG C7.o 8;go_simp;have S8:Hid (Fr (Wr2 bb bs) W0 (w6.setCell ⟨bs,8,none⟩ (.slice (some ⟨g6,0,none⟩) (j+1) cap6))/\BoxN (w6.setCell ⟨bs,8,none⟩ (.slice (some ⟨g6,0,none⟩) (j+1) cap6)) wr.heap.size u.f):=⟨S7.o.1.setCell (p:=⟨bs,8,none⟩) (.inr rfl) _,(Below.heap_setCell _ _ _ _ (fun e=>NE3.o e)).trans S7.o.2⟩;refine hK.out _ _ S8.o (fun hHeld5=>?_);clear hK K;refine wpAnyH_done (by kernel_rfl) ?_ _;have LQ:Hid (LpI ρ W0 (w6.setCell ⟨bs,8,none⟩ (.slice (some ⟨g6,0,none⟩) (j+1) cap6)) bb bs n t c o g (j+1) (.slice (some ⟨g6,0,none⟩) (j+1) cap6) (.func (.func 81) #[] #[bx bp])):=by
       obtain⟨ea,eb⟩:=dD (ρ:=ρ) HU.o g;refine⟨aN C7.o 8 _,?_,?_,S8.o.1⟩
       ·rw [ea,xO,HX5.o];exact aH O7.o ((Fr.refl (fun k=>k=bs) w6).setCell (p:=⟨bs,8,none⟩) rfl _) (fun k e z=>aO O7.o C7.o (by decide) (z ▸ e))
       ·rw [eb,bL HU.o,<- aAN];exact M7.o.fr ((Fr.refl (fun k=>k=bs) w6).setCell (p:=⟨bs,8,none⟩) rfl _) (fun e=>by
         obtain⟨es,cl,hb⟩:=M7.o.block;rw [e,C7.o] at hb;cases hb)
      clear k7 fz;go_wp2;go_roundw
      case rel=>exact⟨j+1,_,by omega,by go_num,LQ.o⟩
      case measure=>simp only [intOf];omega
     ·go_simp;have S6:Hid (Fr (Wr2 bb bs) W0 (w5.alloc (.cells #[.int .i64 x5] 3))/\BoxN (w5.alloc (.cells #[.int .i64 x5] 3)) wr.heap.size u.f):=⟨S5.o.1.alloc _,(Below.heap_alloc _ _ _ (aB S5.o.2)).trans S5.o.2⟩;refine hK.out _ _ S6.o (fun hHeld2=>?_);clear hK K;refine wpAnyH_ready (rs:=[1]) (by kernel_rfl) (by simp) ?_;refine AllReadyH.cons rfl (fun K hK=>?_) AllReadyH.nil;have k9:(w5.alloc (.cells #[.int .i64 x5] 3)).cell? ⟨bs,8,none⟩=some (.slice qv j cv):=(by have e5:=(F5.o.block _ (aB CB.o) (fun e=>NE.o.2 e.symm)).trans CB.o;exact aA ((Below.heap_alloc w5 (.cells #[.int .i64 x5] 3) _ (aB e5)).trans e5) (i:=8) rfl);go_simp;refine hK.out _ _ S6.o (fun hHeld3=>?_);clear hK K;refine wpAnyH_ready (rs:=[6]) (by kernel_rfl) (by simp) ?_;refine AllReadyH.cons rfl (fun K hK=>?_) AllReadyH.nil;have O6:Hid ((w5.alloc (.cells #[.int .i64 x5] 3)).ownsRow W0.heap.size 3 1 (.slice qv j cv) j (ceI (evs ρ g (t.ks.take j)).1)):=o8 (aH OK.o F5.o (fun k e z=>bJ OK.o MK.o.block (z ▸ e))) _;refine aZ rfl _ _ 44 rfl W0.heap.size 3 t0 (.int .i64 0) 1 8 wF TI.o.1 TI.o.2.1 TI.o.2.2.1 TI.o.2.2.2 rfl (by decide) (.slice qv j cv) j (ceI (evs ρ g (t.ks.take j)).1) (by simp [Act.eval]) O6.o ⟨w5.heap.size,0,none⟩ 1 1 [.int .i64 x5] (by simp [Act.eval]) rfl (bI w5 [.int .i64 x5] _) (by simp [Value.oneCell']) (by have:=LJ.o;unfold maxLen;omega) (by have:=LJ.o;omega) (m8 S5.o.1.size (by simp only [f4];omega)) ?_;intro v' w6 hown' hgrow hblk;obtain⟨g6,cap6,rfl⟩:=aL hown' (aAL _);have O7:=aC hown';have G6:=aC hgrow;clear hown' hgrow hblk;have S7:Hid (Fr (Wr2 bb bs) W0 w6/\BoxN w6 wr.heap.size u.f):=⟨S6.o.1.grownNew G6.o (fun k e=>(aF O6.o e).1),(G6.o.block _ (aB S6.o.2) (fun e=>by
       have:=(aF LP.o.own e.symm).2.1;omega)).trans S6.o.2⟩
      have C7:Hid (w6.heap[bs]?=some (.cells (cX t.f c o (.slice qv j cv) (.func (.func 81) #[] #[bx bp])) 156 (0,0))):=(by
       have e5:=(F5.o.block _ (aB CB.o) (fun e=>NE.o.2 e.symm)).trans CB.o;have e6:=(Below.heap_alloc w5 (.cells #[.int .i64 x5] 3) _ (aB e5)).trans e5;exact(G6.o.block _ (aB e6) (fun e=>aO O6.o e6 (by decide) e.symm)).trans e6)
      have M7:Hid (MapV w6 (.int .i64 0) bb (n+szs (t.ks.take j)+u.sz) (fun i=>enI ((ev ρ (evs ρ g (t.ks.take j)).2 u).2 i))):=(by
       have m6:=M5.o.kept ((Below.refl _ _).alloc lz9 (.cells #[.int .i64 x5] 3));exact m6.same (G6.o.block _ m6.lt (fun e=>bJ O6.o m6.block e.symm)))
      refine hK.out _ _ S7.o (fun hHeld4=>?_);clear hK K;refine aCO (v:=?_) 7 ?_ ?_;rotate_left
      ·intro wz hSw;obtain⟨q0,q1,q2,q3,q4,q5,q6⟩:=QC.o wz hSw;clear hSw;go_simp;try with_reducible rfl
      dsimp only [Act.put,g9,g4,g8];simp only [f8,i8,i7];refine wpAnyH_ready (rs:=[8]) (by kernel_rfl) (by simp) ?_;refine AllReadyH.cons rfl (fun K hK=>?_) AllReadyH.nil;have k7:w6.cell? ⟨bs,8,none⟩=some (.slice qv j cv):=aA C7.o (i:=8) rfl;have fz:=aG C7.o 8;go_simp;have S8:Hid (Fr (Wr2 bb bs) W0 (w6.setCell ⟨bs,8,none⟩ (.slice (some ⟨g6,0,none⟩) (j+1) cap6))/\BoxN (w6.setCell ⟨bs,8,none⟩ (.slice (some ⟨g6,0,none⟩) (j+1) cap6)) wr.heap.size u.f):=⟨S7.o.1.setCell (p:=⟨bs,8,none⟩) (.inr rfl) _,(Below.heap_setCell _ _ _ _ (fun e=>NE3.o e)).trans S7.o.2⟩;refine hK.out _ _ S8.o (fun hHeld5=>?_);clear hK K;refine wpAnyH_done (by kernel_rfl) ?_ _;have LQ:Hid (LpI ρ W0 (w6.setCell ⟨bs,8,none⟩ (.slice (some ⟨g6,0,none⟩) (j+1) cap6)) bb bs n t c o g (j+1) (.slice (some ⟨g6,0,none⟩) (j+1) cap6) (.func (.func 81) #[] #[bx bp])):=by
       obtain⟨ea,eb⟩:=dD (ρ:=ρ) HU.o g;refine⟨aN C7.o 8 _,?_,?_,S8.o.1⟩
       ·rw [ea,xO,HX5.o];exact aH O7.o ((Fr.refl (fun k=>k=bs) w6).setCell (p:=⟨bs,8,none⟩) rfl _) (fun k e z=>aO O7.o C7.o (by decide) (z ▸ e))
       ·rw [eb,bL HU.o,<- aAN];exact M7.o.fr ((Fr.refl (fun k=>k=bs) w6).setCell (p:=⟨bs,8,none⟩) rfl _) (fun e=>by
         obtain⟨es,cl,hb⟩:=M7.o.block;rw [e,C7.o] at hb;cases hb)
      clear k7 fz;go_wp2;go_roundw
      case rel=>exact⟨j+1,_,by omega,by go_num,LQ.o⟩
      case measure=>simp only [intOf];omega
   ·have e0:¬ (j:Int) < (t.f.kl:Int):=by rw [HKL.o];omega
    obtain rfl:j=t.ks.length:=by omega
    have hk:t.ks.take t.ks.length=t.ks:=aBF;have XO:=aC (hk ▸ LP.o.own);have XM:=aC (hk ▸ LP.o.mp);have r0:wr.cell? ⟨br,0,none⟩=some (.func (.func 42) #[] #[]):=aA (HTW.o.ck CW.o).r (i:=0) rfl;have s0:wr.cell? ⟨bs,0,none⟩=some (.int .i64 t.f.k):=aA LP.o.sc (i:=0) rfl;have s1:wr.cell? ⟨bs,1,none⟩=some (.int .i64 t.f.n):=aA LP.o.sc (i:=1) rfl;have s2:wr.cell? ⟨bs,2,none⟩=some (.int .i64 t.f.mn):=aA LP.o.sc (i:=2) rfl;have s3:wr.cell? ⟨bs,3,none⟩=some (.int .i64 t.f.mx):=aA LP.o.sc (i:=3) rfl;have s4:wr.cell? ⟨bs,4,none⟩=some (.slice t.f.rq t.f.rs.length t.f.rc):=aA LP.o.sc (i:=4) rfl;have s5:wr.cell? ⟨bs,5,none⟩=some (.slice t.f.kq t.f.kl t.f.kc):=aA LP.o.sc (i:=5) rfl;have s6:wr.cell? ⟨bs,6,none⟩=some (.bool c):=aA LP.o.sc (i:=6) rfl;have s7:wr.cell? ⟨bs,7,none⟩=some (.bool o):=aA LP.o.sc (i:=7) rfl;have s8:wr.cell? ⟨bs,8,none⟩=some (.slice qv t.ks.length cv):=aA LP.o.sc (i:=8) rfl;have s9:wr.cell? ⟨bs,9,none⟩=some (.func (.func 81) #[] #[bx bp]):=aA LP.o.sc (i:=9) rfl;clear hk;obtain⟨gx,gy⟩:=eM HG.o t.ks g (fun u hu=>bC HNP.o hu) HGD.o;have hC:=HR.o t (evs ρ g t.ks).1 (evs ρ g t.ks).2 wr (.slice qv t.ks.length cv) bp bb (n+szs t.ks) W0.heap.size (hglo CW.o HGW.o) ((aQ t).1 HNP.o).1 (by have:=cO t.ks;have:=hkz.o;have:=HN.o;omega) ((HTA.o.ck CW.o).node) (fT _ _) gx gy (by rw [fT];exact XO.o) (HTW.o.ck CW.o).p XM.o;simp only [cX,enI] at hC;have HC:=aC hC;clear hC gx gy;have BN:Hid (BoxN wr w.heap.size t.f):=(LP.o.fr.block _ (aB N0.o) (fun z=>by
     rcases z with e | e
     ·obtain⟨es,cl,hb⟩:=MB.o;rw [<- e,show W0.heap[w.heap.size]?=_ from N0.o] at hb;cases hb
     ·have:=HBS.o.2.2;omega)).trans N0.o
    have hx:(ev ρ g t).1=ρ t.f t.ks (evs ρ g t.ks).1 (evs ρ g t.ks).2:=kN g t;rw [<- hx] at HC;have HS:=aC (lP (ρ:=ρ) g t);obtain⟨x,hxx⟩:∃ x,(ev ρ g t).1=x:=⟨_,rfl⟩;rw [hxx] at HC HS;have HX:=aC hxx;clear hx hxx;have FW:Hid (Fr (fun k=>k=bb) w wr):=tD HBS.o.1 B0.o LP.o.fr;by_cases h7:t.f.k=7
    ·have h7b:(t.f.k==7)=true:=by simp [h7]
     have WF:Hid ((Lit.int .i64 t.f.n).wf=true):=HWF.o t ((aQ t).1 HNP.o).1 h7;rw [if_pos h7] at HS;clear h7;go_wp2_with first
      |(go_at_call 42;refine HC.o.mono ?_;rintro e w5 ⟨rfl,h5⟩;have B5:=aC h5;clear h5 s0 s1 s2 s3 s4 s5 s6 s7 s8 s9 r0;have N5:Hid (BoxN w5 w.heap.size t.f):=(B5.o.block _ (aB BN.o)).trans BN.o;have k0:w5.cell? ⟨w.heap.size,0,none⟩=some (.int .i64 t.f.k):=N5.o.six.1;have k1:w5.cell? ⟨w.heap.size,1,none⟩=some (.int .i64 t.f.n):=N5.o.six.2.1;have p0:w5.cell? ⟨bp,0,none⟩=some (.map (some bb)):=aA (((HTW.o.ck CW.o).ck (CK.of_below B5.o))).p (i:=0) rfl)
      |(at_mapUpdate;refine eI _ rfl _ _ _ 153 rfl 3 bQ7 (.int .i64 0) bb (n+szs t.ks) (fun i=>enI ((evs ρ g t.ks).2 i)) rfl (XM.o.kept B5.o) (by have:=HN.o;have:=hkz.o;unfold maxLen;omega) t.f.n rfl WF.o (enI x) rfl ?_;intro w6 hm6 hg6;have M6:=aC hm6;have G6:=aC hg6;clear hm6 hg6)
     go_ret;refine⟨by rw [HX.o];rfl,?_,(FW.o.then B5.o).grown G6.o (fun k e=>by injection e with e;exact e.symm)⟩;rw [HS.o,<- rW,show n+t.sz=n+szs t.ks+1 by have:=hkz.o;omega];exact M6.o
    ·have h7b:(t.f.k==7)=false:=by simp [h7]
     rw [if_neg h7] at HS;clear h7;go_wp2_with first
      |(go_at_call 42;refine HC.o.mono ?_;rintro e w5 ⟨rfl,h5⟩;have B5:=aC h5;clear h5 s0 s1 s2 s3 s4 s5 s6 s7 s8 s9 r0;have N5:Hid (BoxN w5 w.heap.size t.f):=(B5.o.block _ (aB BN.o)).trans BN.o;have k0:w5.cell? ⟨w.heap.size,0,none⟩=some (.int .i64 t.f.k):=N5.o.six.1;have k1:w5.cell? ⟨w.heap.size,1,none⟩=some (.int .i64 t.f.n):=N5.o.six.2.1;have p0:w5.cell? ⟨bp,0,none⟩=some (.map (some bb)):=aA (((HTW.o.ck CW.o).ck (CK.of_below B5.o))).p (i:=0) rfl)
     go_ret;refine⟨by rw [HX.o];rfl,?_,FW.o.then B5.o⟩;rw [HS.o];exact(XM.o.kept B5.o).mono (by have:=hkz.o;omega)
end
section
open Go Go.RowKit Go.Shelf
def srt(zs:List Int):List Int:=zs.mergeSort fun x y=>decide (x<=y)
theorem rF(zs:List Int):(srt zs).length=zs.length:=List.length_mergeSort zs
abbrev tS(base:Nat)(w:World)(q:Option Addr)(c:Nat)(zs:List Int):Prop:=w.ownsRow base 3 1 (.slice q zs.length c) zs.length (zs.map (Value.int .i64))
theorem oY(w:World)(r:Option Nat):w.grownBy w r:=⟨rfl,rfl,rfl,t9 _,fun _ _ _=>rfl⟩
theorem aX1{w:World}{base:Nat}{q:Option Addr}{c:Nat}{zs:List Int}(h:tS base w q c zs)(hl:zs.length<=2000) :
  Calls Tryz.prog 79 #[.slice q zs.length c] w fun e w'=>e=.returned (.tuple #[])/\tS base w' q c (srt zs)/\w.grownBy w' (Value.slice q zs.length c).ownBlock:=by
 rcases h.2 with⟨h1,h2⟩ | ⟨g,cap,cur,h1,h2,h3,h4,h5,h6,h7⟩
 ·have hz:zs=[]:=aCI.1 h2;subst hz;injection h1 with a b d;subst a d;refine(Tryz.slices_Sort_int_none none 0 w).mono ?_;rintro e w' ⟨rfl,rfl⟩;exact⟨rfl,by rw [show srt []=[] by simp [srt]];exact h,oY _ _⟩
 ·injection h1 with a b d;subst a d;have hH:=holds_of_blockI (ss:=zs) h3 (by rw [Nat.mul_one] at h7;exact h7);refine(Tryz.slices_Sort_int g 0 c zs w hH (aB h3) (by omega)).mono ?_;rintro e w' ⟨rfl,n,os,rfl⟩;refine⟨rfl,?_,grownBy_sortedI _⟩;have:=ownsRow_sortedI (n:=n) (os:=os) (ts:=srt zs) (rF zs) h2 h3 h4 h5 h6;unfold tS;rw [rF];exact this
theorem zZ{w:World}{base:Nat}{q:Option Addr}{c:Nat}{zs:List Int}(h:tS base w q c zs)(hl:zs.length<=2000) :
  Calls Tryz.prog 80 #[.slice q zs.length c] w fun e w'=>e=.returned (.slice q (Lib.compact zs).length c)/\tS base w' q c (Lib.compact zs)/\w.grownBy w' (Value.slice q zs.length c).ownBlock:=by
 have hcl:=Lib.compact_length_le zs;rcases h.2 with⟨h1,h2⟩ | ⟨g,cap,cur,h1,h2,h3,h4,h5,h6,h7⟩
 ·have hz:zs=[]:=aCI.1 h2;subst hz;injection h1 with a b d;subst a d;have e0:Lib.compact ([]:List Int)=[]:=aCI.1 (by simpa using hcl);refine(Tryz.slices_Compact_int_empty none 0 w).mono ?_;rintro e w' ⟨rfl,rfl⟩;exact⟨by rw [e0];rfl,by rw [e0];exact h,oY _ _⟩
 ·injection h1 with a b d;subst a d;have hH:=holds_of_blockI (ss:=zs) h3 (by rw [Nat.mul_one] at h7;exact h7);refine(Tryz.slices_Compact_int g 0 c zs w hH (by omega) h4).mono ?_;rintro e w' ⟨rfl,n,rfl⟩;have he:(Lib.compact zs ++ List.replicate (zs.length - (Lib.compact zs).length) 0).length=zs.length:=by simp;omega
  refine⟨rfl,?_,?_⟩
  ·have hb:=heap_sortedI (n:=n) (os:=#[]) (Lib.compact zs ++ List.replicate (zs.length - (Lib.compact zs).length) 0).toArray h3;rw [Go.Sort.grow_empty] at hb;have ht:=take_putCellsI cur (Lib.compact zs ++ List.replicate (zs.length - (Lib.compact zs).length) 0) (by rw [he,h6];omega);refine⟨by simp,.inr ⟨g,c,_,rfl,h2,hb,by omega,h5,by simp [Go.Sort.putCells,h6],?_⟩⟩;rw [Nat.mul_one];have:=congrArg (List.take (Lib.compact zs).length) ht;rw [List.take_take,he,Nat.min_eq_left hcl] at this;rw [this,<- List.map_take,List.take_left]
  ·have:=grownBy_sortedI (w:=w) (g:=g) (n:=n) (os:=#[]) (Lib.compact zs ++ List.replicate (zs.length - (Lib.compact zs).length) 0).toArray;rw [Go.Sort.grow_empty] at this;exact this
end
section
attribute [local go_sem] aS
def eK(pk:Int)(seen:Int)(kl:Nat)(k:Int):Bool:=
 if pk=5 then cA k ||(k==3 && seen==0) ||(k==4 && seen==(kl:Int) - 1)
 else if pk=9 then cA k
 else if pk=6 then eL k && k != 6
 else eL k
theorem aG1{w:World}{b:Nat}{c f:Bool}{ah gr:Int}{A:Nat->dV}(h:CB w b c f ah gr A){d:Nat}(hd:d < 41)(k:Int)(hkl:(A d).f.kl<=9223372036854775807) :
  Calls Tryz.prog 101 #[.pointer (some ⟨b,0,none⟩),.I ((d:Int)+1),.I k] w fun e w'=>e=.returned (.bool (eK (A d).f.k (A d).s (A d).f.kl k))/\wBl w w':=by
 obtain⟨⟨k0,k1,k2,k3,k4,k5⟩,k6⟩:=h.sp d hd;have hlt:=h.lt;have e1:((d:Int)+1) - 1=(d:Int):=by omega
 have e2:(d:Int) < 41:=by omega
 have B1:Hid (wBl w (w.alloc (.cells #[.I (A d).f.k,.I (A d).f.n,.I (A d).f.mn,.I (A d).f.mx,.slice (A d).f.rq (A d).f.rs.length (A d).f.rc,.slice (A d).f.kq (A d).f.kl (A d).f.kc,.I (A d).s] 143))):=bz9;have N1:=aE w (.cells #[.I (A d).f.k,.I (A d).f.n,.I (A d).f.mn,.I (A d).f.mx,.slice (A d).f.rq (A d).f.rs.length (A d).f.rc,.slice (A d).f.kq (A d).f.kl (A d).f.kc,.I (A d).s] 143);obtain⟨r,hr⟩:∃ r,eK (A d).f.k (A d).s (A d).f.kl k=r:=⟨_,rfl⟩;rw [hr];have HR:=aC hr;clear hr;go_enter Tryz.func101,Tryz.ntmps101;go_upto_region 2 with fail
 have m0:(w.alloc (.cells #[.I (A d).f.k,.I (A d).f.n,.I (A d).f.mn,.I (A d).f.mx,.slice (A d).f.rq (A d).f.rs.length (A d).f.rc,.slice (A d).f.kq (A d).f.kl (A d).f.kc,.I (A d).s] 143)).cell? ⟨w.heap.size,0,none⟩=some (.I (A d).f.k):=aA N1 (i:=0) rfl;have m5:(w.alloc (.cells #[.I (A d).f.k,.I (A d).f.n,.I (A d).f.mn,.I (A d).f.mx,.slice (A d).f.rq (A d).f.rs.length (A d).f.rc,.slice (A d).f.kq (A d).f.kl (A d).f.kc,.I (A d).s] 143)).cell? ⟨w.heap.size,5,none⟩=some (.slice (A d).f.kq (A d).f.kl (A d).f.kc):=aA N1 (i:=5) rfl;have m6:(w.alloc (.cells #[.I (A d).f.k,.I (A d).f.n,.I (A d).f.mn,.I (A d).f.mx,.slice (A d).f.rq (A d).f.rs.length (A d).f.rc,.slice (A d).f.kq (A d).f.kl (A d).f.kc,.I (A d).s] 143)).cell? ⟨w.heap.size,6,none⟩=some (.I (A d).s):=aA N1 (i:=6) rfl;have hlw:=aB N1;generalize (w.alloc (.cells #[.I (A d).f.k,.I (A d).f.n,.I (A d).f.mn,.I (A d).f.mx,.slice (A d).f.rq (A d).f.rs.length (A d).f.rc,.slice (A d).f.kq (A d).f.kl (A d).f.kc,.I (A d).s] 143))=W1 at B1 m0 m5 m6 hlw ⊢;clear N1 k0 k1 k2 k3 k4 k5 k6 hlt e1 e2 h hd;generalize (A d).f.k=pk at m0 HR ⊢;generalize (A d).f.kl=kl at m5 HR hkl ⊢;generalize (A d).s=se at m6 HR ⊢
 cases h5:(pk==5) with
 | true=>
  obtain rfl:pk=5:=by simpa using h5
  go_upto_region 4 with fail
  refine wx9 ?_
  repeat (go_big_quiet_step (first | exact rfl))
  refine wpQuiet_nil ?_;intro w2 hw;have B2:Hid (wBl w w2):=aJ B1.o (aP hw) lz9;clear hw B1;have RR0:r=(cA k ||(k==3 && se==0) ||(k==4 && se==(kl:Int) - 1)):=by rw [<- HR.o];simp [eK]
  have HK:=aC (qR k);obtain⟨tb,htb⟩:∃ tb,cA k=tb:=⟨_,rfl⟩;rw [htb] at HK RR0;obtain⟨b1,hb1⟩:∃ b1,(se==0)=b1:=⟨_,rfl⟩;obtain⟨b2,hb2⟩:∃ b2,(se==(kl:Int) - 1)=b2:=⟨_,rfl⟩;rw [hb1,hb2] at RR0;rw [hb1,hb2];have RRX:=aC RR0;clear htb hb1 hb2 m0 m5 m6 RR0;cases tb
  ·cases h3:(k==3)
   ·cases h4:(k==4)
    ·go_wp2_with (go_at_call 126;(with_reducible refine(HK.o _).mono ?_);rintro e w5 ⟨rfl,h5⟩;subst w5)
     go_ret;exact⟨by rw [RRX.o,h3,h4];rfl,B2.o⟩
    ·go_wp2_with (go_at_call 126;(with_reducible refine(HK.o _).mono ?_);rintro e w5 ⟨rfl,h5⟩;subst w5)
     go_ret;exact⟨by rw [RRX.o,h3,h4];simp,B2.o⟩
   ·obtain rfl:k=3:=by simpa using h3
    cases b1
    all_goals
     go_wp2_with (go_at_call 126;(with_reducible refine(HK.o _).mono ?_);rintro e w5 ⟨rfl,h5⟩;subst w5)
     go_ret;exact⟨by rw [RRX.o];rfl,B2.o⟩
  ·go_wp2_with (go_at_call 126;(with_reducible refine(HK.o _).mono ?_);rintro e w5 ⟨rfl,h5⟩;subst w5)
   go_ret;exact⟨by rw [RRX.o];rfl,B2.o⟩
 | false=>
  cases h9:(pk==9) with
  | true=>
   obtain rfl:pk=9:=by simpa using h9
   go_wp2_with (go_at_call 126;(with_reducible refine(qR _ _).mono ?_);rintro e w5 ⟨rfl,h5⟩;subst w5)
   go_ret;exact⟨by rw [<- HR.o];simp [eK],B1.o⟩
  | false=>
   cases h6:(pk==6) with
   | true=>
    obtain rfl:pk=6:=by simpa using h6
    obtain⟨kb,hkb⟩:∃ kb,eL k=kb:=⟨_,rfl⟩;have HK:=aC (zO k);rw [hkb] at HK;have R2:r=(kb && k != 6):=(by rw [<- HR.o,<- hkb];simp [eK]);clear hkb
    cases kb with
    | true=>
     go_wp2_with (go_at_call 127;(with_reducible refine(HK.o _).mono ?_);rintro e w5 ⟨rfl,h5⟩;subst w5)
     go_ret;exact⟨by rw [R2,aCN];rfl,B1.o⟩
    | false=>
     go_wp2_with (go_at_call 127;(with_reducible refine(HK.o _).mono ?_);rintro e w5 ⟨rfl,h5⟩;subst w5)
     go_ret;exact⟨by rw [R2,Bool.false_and];rfl,B1.o⟩
   | false=>
    have R2:eL k=r:=(by rw [<- HR.o];simp at h5 h9 h6;simp [eK,h5,h9,h6]);go_wp2_with (go_at_call 127;(with_reducible refine(zO _ _).mono ?_);rintro e w5 ⟨rfl,h5⟩;subst w5)
    go_ret;exact⟨by rw [<- R2];rfl,B1.o⟩
end
section
attribute [local go_sem] aS
def inB(A:Nat->dV)(d:Nat)(num:Int):Bool:=(List.range d).any fun i=>(A i).f.k==7 && (A i).f.n==num
theorem oX(A:Nat->dV)(d:Nat)(num:Int):inB A (d+1) num=(inB A d num ||((A d).f.k==7 && (A d).f.n==num)):=by
 unfold inB;rw [List.range_succ,List.any_append];simp
theorem bU9{A:Nat->dV}{d e:Nat}{num:Int}(h:inB A d num=true)(hde:d<=e):inB A e num=true:=by
 unfold inB at *;rw [List.any_eq_true] at *;obtain⟨x,hx,h⟩:=h;exact⟨x,by rw [aCJ] at *;omega,h⟩
theorem aG2{w:World}{b:Nat}{c f:Bool}{ah gr:Int}{A:Nat->dV}(h:CB w b c f ah gr A){d:Nat}(hd:d<=41)(num:Int) :
  Calls Tryz.prog 104 #[.pointer (some ⟨b,0,none⟩),.I (d:Int),.I num] w fun e w'=>e=.returned (.bool (!inB A d num && decide (num<=gr)))/\wBl w w':=by
 have H:=aC h;have hlt:=h.lt;have e2:(d:Int)<=41:=by omega
 obtain⟨r,hr⟩:∃ r,(!inB A d num && decide (num<=gr))=r:=⟨_,rfl⟩;rw [hr];have HR:=aC hr;clear h hr;go_enter Tryz.func104,Tryz.ntmps104;go_wp2;go_loopw [15] (fun i wr=>∃ j:Nat,j<=d/\i=.I (j:Int)/\inB A j num=false/\wBl w wr) (fun i _=>d - (intOf i).toNat)
 case atStart=>exact⟨0,o9 _,rfl,rfl,Below.refl _ _⟩
 case round=>
  obtain⟨j,hj,rfl,hin,hb⟩:=hrel;have HI:=aC hin;have HB:=aC hb;have H1:Hid (CB wr b c f ah gr A):=H.o.kept hb;clear hin hb hlt;have hlt:=H1.o.lt;by_cases hjl:j < d
  ·have e0:(j:Int) < (d:Int):=by omega
   obtain⟨⟨k0,k1,k2,k3,k4,k5⟩,k6⟩:=H1.o.sp j (by omega);have B2:Hid (wBl w (wr.alloc (.cells #[.I (A j).f.k,.I (A j).f.n,.I (A j).f.mn,.I (A j).f.mx,.slice (A j).f.rq (A j).f.rs.length (A j).f.rc,.slice (A j).f.kq (A j).f.kl (A j).f.kc,.I (A j).s] 143))):=HB.o.alloc HB.o.size _;have N2:=aE wr (.cells #[.I (A j).f.k,.I (A j).f.n,.I (A j).f.mn,.I (A j).f.mx,.slice (A j).f.rq (A j).f.rs.length (A j).f.rc,.slice (A j).f.kq (A j).f.kl (A j).f.kc,.I (A j).s] 143);have m0:(wr.alloc (.cells #[.I (A j).f.k,.I (A j).f.n,.I (A j).f.mn,.I (A j).f.mx,.slice (A j).f.rq (A j).f.rs.length (A j).f.rc,.slice (A j).f.kq (A j).f.kl (A j).f.kc,.I (A j).s] 143)).cell? ⟨wr.heap.size,0,none⟩=some (.I (A j).f.k):=aA N2 (i:=0) rfl;have m1:(wr.alloc (.cells #[.I (A j).f.k,.I (A j).f.n,.I (A j).f.mn,.I (A j).f.mx,.slice (A j).f.rq (A j).f.rs.length (A j).f.rc,.slice (A j).f.kq (A j).f.kl (A j).f.kc,.I (A j).s] 143)).cell? ⟨wr.heap.size,1,none⟩=some (.I (A j).f.n):=aA N2 (i:=1) rfl;have HS:=aC (oX A j num);clear N2;go_upto_region 4 with fail
   generalize (wr.alloc (.cells #[.I (A j).f.k,.I (A j).f.n,.I (A j).f.mn,.I (A j).f.mx,.slice (A j).f.rq (A j).f.rs.length (A j).f.rc,.slice (A j).f.kq (A j).f.kl (A j).f.kc,.I (A j).s] 143))=W2 at B2 m0 m1 ⊢;cases h7:((A j).f.k==7)
   ·have HN:Hid (inB A (j+1) num=false):=(by rw [HS.o,HI.o,h7];rfl);clear HS;go_wp2;go_roundw
    case rel=>exact⟨j+1,by omega,by go_num,HN.o,B2.o⟩
    case measure=>simp only [intOf];omega
   ·cases hn:((A j).f.n==num)
    ·have HN:Hid (inB A (j+1) num=false):=(by rw [HS.o,HI.o,h7,hn];rfl);clear HS;go_wp2;go_roundw
     case rel=>exact⟨j+1,by omega,by go_num,HN.o,B2.o⟩
     case measure=>simp only [intOf];omega
    ·have HN:Hid (inB A d num=true):=bU9 (d:=j+1) (by rw [HS.o,HI.o,h7,hn];rfl) (by omega);clear HS;go_wp2;go_ret;exact⟨by rw [<- HR.o,HN.o];rfl,B2.o⟩
  ·have e0:¬ (j:Int) < (d:Int):=by omega
   obtain rfl:j=d:=by omega
   have k3:=H1.o.c3;go_wp2;go_ret;exact⟨by rw [<- HR.o,HI.o];rfl,HB.o⟩
theorem CB.frz{W:World}{b:Nat}{c f:Bool}{ah gr:Int}{A:Nat->dV}(h:CB W b c f ah gr A)(j:Nat):W.frozen? ⟨b,j,none⟩=false:=by
 obtain⟨cur,hc⟩:=h.blk;exact aG hc j
theorem rK{W:World}{k b j:Nat}{f:Fl}{u:Value}(h:BoxN W k f)(hk:k≠b):BoxN (W.setCell ⟨b,j,none⟩ u) k f:=(((Fr.refl (fun z=>z=b) W).setCell (p:=⟨b,j,none⟩) rfl u).block _ (aB h) hk).trans h
theorem xH{w:World}{b:Nat}{c f:Bool}{ah gr:Int}{A:Nat->dV}(h:CB w b c f ah gr A){d:Nat}(hd:d+1 < 41)(x:Fl)(ha:0<=ah/\ah<=1000000)(hg:0<=gr/\gr<=1000000)(hs:0<=(A d).s/\(A d).s<=1000000) :
  Calls Tryz.prog 105 #[.pointer (some ⟨b,0,none⟩),.I ((d:Int)+1),.agg (nDf x)] w fun e w'=>e=.returned (.tuple #[])/\CB w' b c f (ah+1) (gr+(if x.k=7 then 1 else 0)) (pY (pY A d ⟨(A d).f,(A d).s+1⟩) (d+1) ⟨x,0⟩)/\Fr (fun z=>z=b) w w':=by
 have H:=aC h;have hlt:=h.lt;have B1:Hid (wBl w (w.alloc (.cells (nDf x) 25))):=bz9;have N1:Hid (BoxN (w.alloc (.cells (nDf x) 25)) w.heap.size x):=aE w _;have H1:Hid (CB (w.alloc (.cells (nDf x) 25)) b c f ah gr A):=h.kept B1.o;have F1:Hid (Fr (fun z=>z=b) w (w.alloc (.cells (nDf x) 25))):=Fr.of_below B1.o;have hne:w.heap.size≠b:=by omega
 clear h H;obtain⟨g2,hg2⟩:∃ g2,gr+(if x.k=7 then 1 else 0)=g2:=⟨_,rfl⟩;rw [hg2];have HG:=aC hg2;clear hg2;go_enter Tryz.func105,Tryz.ntmps105;go_upto_region 1 with fail
 generalize (w.alloc (.cells (nDf x) 25))=w1 at B1 N1 H1 F1 ⊢;have c2:=H1.o.c2;have f2:=H1.o.frz 2;have lb:=H1.o.lt;have H2:Hid (CB (w1.setCell ⟨b,2,none⟩ (.I (ah+1))) b c f (ah+1) gr A):=H1.o.setAh _;have N2:Hid (BoxN (w1.setCell ⟨b,2,none⟩ (.I (ah+1))) w.heap.size x):=rK N1.o hne;have F2:Hid (Fr (fun z=>z=b) w (w1.setCell ⟨b,2,none⟩ (.I (ah+1)))):=F1.o.setCell (p:=⟨b,2,none⟩) rfl _;clear B1 N1 H1 F1;go_upto_region 2 with fail
 generalize (w1.setCell ⟨b,2,none⟩ (.I (ah+1)))=w2 at H2 N2 F2 ⊢;clear c2 f2 lb hlt;obtain⟨c0,-⟩:=N2.o.six;have c3:=H2.o.c3;have f3:=H2.o.frz 3;have lb:=H2.o.lt;have e1:((d:Int)+1) - 1=(d:Int):=by omega
 have e2:(d:Int) < 41:=by omega
 have e3:(d:Int)+1 < 41:=by omega
 by_cases hk:x.k=7
 ·have hkb:(x.k==7)=true:=by simpa using hk
  have E2:=HG.o;rw [if_pos hk] at E2;subst E2;have H3:Hid (CB (w2.setCell ⟨b,3,none⟩ (.I (gr+1))) b c f (ah+1) (gr+1) A):=H2.o.setGr _;have N3:Hid (BoxN (w2.setCell ⟨b,3,none⟩ (.I (gr+1))) w.heap.size x):=rK N2.o hne;have F3:Hid (Fr (fun z=>z=b) w (w2.setCell ⟨b,3,none⟩ (.I (gr+1)))):=F2.o.setCell (p:=⟨b,3,none⟩) rfl _;clear H2 N2 F2 hk;go_upto_region 4 with fail
  generalize (w2.setCell ⟨b,3,none⟩ (.I (gr+1)))=w3 at H3 N3 F3 ⊢;clear c0 c3 f3 lb;have p6:=(H3.o.sp d (by omega)).2;have lb:=H3.o.lt;have f6:=H3.o.frz (4+d * 7+6);have H5:=aC ((H3.o.setSeen (d:=d) (by omega) ((A d).s+1)).kept ((Below.refl _ _).drew));have N5:Hid (BoxN (w3.setCell ⟨b,4+d * 7+6,none⟩ (.I ((A d).s+1))).drew w.heap.size x):=rK N3.o hne;have F5:Hid (Fr (fun z=>z=b) w (w3.setCell ⟨b,4+d * 7+6,none⟩ (.I ((A d).s+1))).drew):=(F3.o.setCell (p:=⟨b,4+d * 7+6,none⟩) rfl _).trans (Fr.of_below ((Below.refl _ _).drew));clear H3 N3 F3
  go_region
  go_upto_region 5 with fail
  generalize (w3.setCell ⟨b,4+d * 7+6,none⟩ (.I ((A d).s+1))).drew=w5 at H5 N5 F5 ⊢;clear p6 f6 lb;have lb:=H5.o.lt;have ln:=aB N5.o;obtain⟨n0,n1,n2,n3,n4,n5⟩:=N5.o.six;simp only [m9] at n1 n2 n3 n4 n5;have fr:=fun j=>H5.o.frz j;obtain⟨⟨q0,q1,q2,q3,q4,q5⟩,q6⟩:=H5.o.sp (d+1) (by omega);have H7:=aC ((H5.o.setSpot (d:=d+1) (by omega) ⟨x,0⟩).kept ((Below.refl _ _).drew));have F7:Hid (Fr (fun z=>z=b) w (lF w5 b (4+(d+1) * 7) ⟨x,0⟩).drew):=(F5.o.trans (aK1 _ _ _ _)).trans (Fr.of_below ((Below.refl _ _).drew));unfold lF at H7 F7;clear H5 F5
  go_region
  go_wp2
  go_end0
  exact⟨rfl,H7.o,F7.o⟩
 ·have hkb:(x.k==7)=false:=by simpa using hk
  have E2:=HG.o;rw [if_neg hk,Int.add_zero] at E2;subst E2;have H3:=H2;have N3:=N2;have F3:=F2;clear H2 N2 F2 hk;go_upto_region 4 with fail
  clear c0 c3 f3 lb;have p6:=(H3.o.sp d (by omega)).2;have lb:=H3.o.lt;have f6:=H3.o.frz (4+d * 7+6);have H5:=aC ((H3.o.setSeen (d:=d) (by omega) ((A d).s+1)).kept ((Below.refl _ _).drew));have N5:Hid (BoxN (w2.setCell ⟨b,4+d * 7+6,none⟩ (.I ((A d).s+1))).drew w.heap.size x):=rK N3.o hne;have F5:Hid (Fr (fun z=>z=b) w (w2.setCell ⟨b,4+d * 7+6,none⟩ (.I ((A d).s+1))).drew):=(F3.o.setCell (p:=⟨b,4+d * 7+6,none⟩) rfl _).trans (Fr.of_below ((Below.refl _ _).drew));clear H3 N3 F3
  go_region
  go_upto_region 5 with fail
  generalize (w2.setCell ⟨b,4+d * 7+6,none⟩ (.I ((A d).s+1))).drew=w5 at H5 N5 F5 ⊢;clear p6 f6 lb;have lb:=H5.o.lt;have ln:=aB N5.o;obtain⟨n0,n1,n2,n3,n4,n5⟩:=N5.o.six;simp only [m9] at n1 n2 n3 n4 n5;have fr:=fun j=>H5.o.frz j;obtain⟨⟨q0,q1,q2,q3,q4,q5⟩,q6⟩:=H5.o.sp (d+1) (by omega);have H7:=aC ((H5.o.setSpot (d:=d+1) (by omega) ⟨x,0⟩).kept ((Below.refl _ _).drew));have F7:Hid (Fr (fun z=>z=b) w (lF w5 b (4+(d+1) * 7) ⟨x,0⟩).drew):=(F5.o.trans (aK1 _ _ _ _)).trans (Fr.of_below ((Below.refl _ _).drew));unfold lF at H7 F7;clear H5 F5
  go_region
  go_wp2
  go_end0
  exact⟨rfl,H7.o,F7.o⟩
end
end Go.Proofs.YtdgfpiekjigfnaaGreatDoor
