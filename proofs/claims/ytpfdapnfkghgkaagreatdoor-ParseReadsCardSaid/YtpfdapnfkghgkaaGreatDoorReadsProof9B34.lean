/-
  Parts of the proof.
-/
import Derived.Test.YtpfdapnfkghgkaaGreatDoorReadsProof9B1
import Derived.Test.YtpfdapnfkghgkaaGreatDoorReadsProof9B3
import Derived.Test.YtpfdapnfkghgkaaGreatDoorReadsProof9B15
set_option maxRecDepth 100000
set_option maxHeartbeats 8000000
namespace Go.Proofs.YtpfdapnfkghgkaaGreatDoor
open Go Go.RowKit
attribute [local go_sem] aR
theorem aC9:(Tryz.prog.info? 3).map (fun i=>(i.zero,i.size,i.bytes))=some (some (.int .i64 0),1,8):=by kernel_rfl
theorem rA:Tryz.prog.underlying 80=some (.slice 3):=by kernel_rfl
abbrev c31:Array Value:=#[.bool false,.bool false,.bool false,.bool false,.bool false,.bool false,.bool false,.bool false,.bool false,.bool false,.bool false,.bool false,.bool false,.bool false,.bool false,.bool false,.bool false,.bool false,.bool false,.bool false,.bool false,.bool false,.bool false,.bool false,.bool false,.bool false,.bool false,.bool false,.bool false,.bool false,.bool false]
theorem aR0:c31.toList=List.replicate 31 (.bool false):=by kernel_rfl
def AB(w:World)(b:Nat)(E:List Nat):Prop:=(∃ cs,w.heap[b]?=some (.cells cs 107 (0,0)))/\∀ i,i < 31->w.cell? ⟨b,i,none⟩=some (.bool (decide (i∈E)))
theorem AB.fr{w w':World}{b:Nat}{E:List Nat}{S:Nat->Prop}(h:AB w b E)(hf:Fr S w w')(hS:¬ S b):AB w' b E:=by
 obtain⟨⟨cs,q⟩,h2⟩:=h
 have q':=(hf.block _ (aA q) hS).trans q
 refine⟨⟨cs,q'⟩,fun i hi=>?_⟩
 have e:w'.cell? ⟨b,i,none⟩=w.cell? ⟨b,i,none⟩:=by unfold World.cell?;simp only [q,q']
 rw [e]
 exact h2 i hi
theorem AB.set{w:World}{b n:Nat}{E:List Nat}(h:AB w b E)(hn:n < 31):AB (w.setCell ⟨b,n,none⟩ (.bool true)) b (n :: E):=
 ⟨cM h.1 _ _,fun i hi=>by
  by_cases e:i=n
  ·subst e
   rw [World.cell?_setCell_same _ _ _ (h.2 i hi)]
   simp
  ·rw [aZ (h.2 i hi) e]
   have:decide (i∈n :: E)=decide (i∈E):=by simp [e]
   rw [this]⟩
def o1(o:List (Nat × Nat)):List Value:=o.map fun x=>.int .i64 (x.1:Int)
def o2(o:List (Nat × Nat)):List Value:=o.map fun x=>.int .i64 (x.2:Int)
structure HS(lo b:Nat)(w:World)(vo va:Value)(s:GS):Prop where
 oo:w.ownsRow lo 3 1 vo s.o.length (o1 s.o)
 oa:w.ownsRow lo 3 1 va s.o.length (o2 s.o)
 ne:∀ k,vo.ownBlock=some k->va.ownBlock≠some k
 ab:AB w b s.e
 hb:lo<=b
 hg:s.g<=30
 ho:∀ x∈s.o,x.1<=30
 hl:s.o.length<=s.g
theorem HS.kept{lo b:Nat}{w w':World}{vo va:Value}{s:GS}(h:HS lo b w vo va s)(hb:Below w.heap.size w w'):HS lo b w' vo va s:=
 ⟨aQ h.oo (Fr.of_below (S:=fun _=>False) hb) (fun _ _ z=>z),aQ h.oa (Fr.of_below (S:=fun _=>False) hb) (fun _ _ z=>z),h.ne,h.ab.fr (S:=fun _=>False) (Fr.of_below hb) id,h.hb,h.hg,h.ho,h.hl⟩
theorem HS.push{lo b a:Nat}{w w1 w2 w3 w4:World}{vo va vo' va':Value}{s:GS}(h:HS lo b w vo va s)(h1:Below w.heap.size w w1)
  (q2:w2.ownsRow lo 3 1 vo' (s.o.length+1) (o1 s.o ++ [.int .i64 ((s.g:Int)+1)])) (g2:w1.grownBy w2 vo.ownBlock) (v2:vo'.ownBlock=vo.ownBlock\/vo'.ownBlock=some w1.heap.size)
  (h3:Below w2.heap.size w2 w3) (q4:w4.ownsRow lo 3 1 va' (s.o.length+1) (o2 s.o ++ [.int .i64 (a:Int)])) (g4:w3.grownBy w4 va.ownBlock) (v4:va'.ownBlock=va.ownBlock\/va'.ownBlock=some w3.heap.size) (hg:s.g < 30) :
  HS lo b w4 vo' va' ⟨s.g+1,s.o ++ [(s.g+1,a)],s.e⟩:=by
 have F2:Fr (fun k=>vo.ownBlock=some k) w1 w2:=Fr.grown (Fr.refl _ _) g2 (fun k hk=>hk)
 have F4:Fr (fun k=>va.ownBlock=some k) w3 w4:=Fr.grown (Fr.refl _ _) g4 (fun k hk=>hk)
 have k1:=h.kept h1
 have l1:=h1.size
 have l2:=h3.size
 have la:∀ k,va.ownBlock=some k->k < w.heap.size:=fun k hk=>(aH h.oa hk).2.1
 have dj:∀ k,vo'.ownBlock=some k->va.ownBlock≠some k:=fun k hk e=>by
  rcases v2 with z | z
  ·rw [z] at hk;exact h.ne k hk e
  ·rw [z] at hk;cases hk;have:=la _ e;omega
 obtain⟨cs,hbk⟩:=k1.ab.1
 have a2:=k1.ab.fr F2 (aN k1.oo hbk (by decide))
 have a3:=a2.fr (S:=fun _=>False) (Fr.of_below h3) id
 have oa2:=aQ k1.oa F2 (fun k hk e=>h.ne k e hk)
 have oa3:=aQ oa2 (Fr.of_below (S:=fun _=>False) h3) (fun _ _ z=>z)
 obtain⟨cs3,hbk3⟩:=a3.1
 refine⟨?_,?_,fun k hk e=>?_,a3.fr F4 (aN oa3 hbk3 (by decide)),h.hb,by show s.g+1<=30;omega,fun x hx=>?_,by simp;exact h.hl⟩
 ·have:=aQ (aQ q2 (Fr.of_below (S:=fun _=>False) h3) (fun _ _ z=>z)) F4 dj
  rw [List.length_append]
  simpa [o1] using this
 ·rw [List.length_append]
  simpa [o2] using q4
 ·rcases v4 with z | z
  ·rw [z] at e;exact dj k hk e
  ·rw [z] at e;cases e;have:=(aH q2 hk).2.1;omega
 ·rcases List.mem_append.1 hx with z | z
  ·exact h.ho x z
  ·simp at z;rw [z];show s.g+1<=30;omega
theorem HS.pop{lo b:Nat}{w:World}{qo qa:Option Addr}{co ca:Nat}{s:GS}{o:List (Nat × Nat)}{x:Nat × Nat}(h:HS lo b w (.slice qo s.o.length co) (.slice qa s.o.length ca) s)(hs:s.o=o ++ [x]):HS lo b (w.setCell ⟨b,x.1,none⟩ (.bool true)) (.slice qo o.length co) (.slice qa o.length ca) ⟨s.g,o,x.1 :: s.e⟩:=by
 have hx:=h.ho x (by rw [hs];simp)
 obtain⟨cs,hbk⟩:=h.ab.1
 have hf:Fr (At b) w (w.setCell ⟨b,x.1,none⟩ (.bool true)):=(Fr.refl (At b) w).setCell (p:=⟨b,x.1,none⟩) rfl _
 have r1:=aQ h.oo hf (fun k hk e=>by obtain rfl:k=b:=e;exact aN h.oo hbk (by decide) hk)
 have r2:=aQ h.oa hf (fun k hk e=>by obtain rfl:k=b:=e;exact aN h.oa hbk (by decide) hk)
 have hne:=h.ne
 rw [hs] at r1 r2
 simp only [List.length_append,List.length_singleton] at r1 r2
 obtain⟨g1,c1,e1⟩:=aI r1 (by omega)
 obtain⟨g2,c2,e2⟩:=aI r2 (by omega)
 injection e1 with e11 _ e12
 injection e2 with e21 _ e22
 subst e11 e12 e21 e22
 have t1:=jA r1 (k:=o.length) (by omega)
 have t2:=jA r2 (k:=o.length) (by omega)
 refine⟨?_,?_,fun k hk e=>h.ne k hk e,h.ab.set (by omega),h.hb,h.hg,fun y hy=>h.ho y (by rw [hs];simp [hy]),by have:=h.hl;rw [hs] at this;simp at this;show o.length<=s.g;omega⟩
 ·have e:(o1 (o ++ [x])).take (o.length * 1)=o1 o:=by simp [o1]
  rw [e] at t1
  exact t1
 ·have e:(o2 (o ++ [x])).take (o.length * 1)=o2 o:=by simp [o2]
  rw [e] at t2
  exact t2
def hdR(r:Option (Nat × Nat)):Nat × Nat:=r.getD (0,0)
theorem yN(w:World):HS w.heap.size w.heap.size (w.alloc (.cells c31 107)) (.slice none 0 0) (.slice none 0 0) gs0:=by
 have N:=aG w (.cells c31 107)
 refine⟨World.ownsRow_nil _ _ _ _,World.ownsRow_nil _ _ _ _,fun k hk=>(by cases hk),⟨⟨_,N⟩,fun i hi=>?_⟩,Nat.le_refl _,by simp [gs0],fun x hx=>(by cases hx),by simp [gs0]⟩
 refine aB N (i:=i) ?_
 rw [<- Array.getElem?_toList,aR0,List.getElem?_replicate,if_pos hi]
 simp [gs0]
theorem zQ{base:Nat}{w:World}{tv:Value}{D:List Dt}(h:TL base w tv D)(hok:∀ d∈D,eD d.1.1)(hfew:D.length<=2000) :
  Calls Tryz.prog 40 #[tv] w fun e w'=>e=.returned (.tuple #[.int .i64 ((hdR (dC (D.map Prod.fst))).1:Int),.int .i64 ((hdR (dC (D.map Prod.fst))).2:Int)])/\Below w.heap.size w w':=by
 obtain⟨t0,hi,hz0,hz1,hz2⟩:=aS aC9
 obtain⟨q,c,rfl⟩:=aL h.own
 have HT:=aC h
 have HOK:=aC hok
 have G0:=aC (yN w)
 have B0:Hid (Below w.heap.size w (w.alloc (.cells c31 107))):=bz9
 obtain⟨X,hX⟩:∃ X:Ending->World->Prop,(fun (e:Ending) (w':World)=>e=.returned (.tuple #[.int .i64 ((hdR (dC (D.map Prod.fst))).1:Int),.int .i64 ((hdR (dC (D.map Prod.fst))).2:Int)])/\Below w.heap.size w w')=X:=⟨_,rfl⟩
 have HX:=aC hX
 rw [hX]
 clear h hok hX
 go_enter Tryz.func40,Tryz.ntmps40
 go_upto_region 6 with fail
 generalize w.alloc (.cells c31 107)=W0 at G0 B0 ⊢
 go_loopw [8,7,4,5] (fun i n vo va wr=>∃ (j:Nat) (s:GS),j<=D.length/\i=.int .i64 (j:Int)/\n=.int .i64 (s.g:Int)/\HS w.heap.size w.heap.size wr vo va s/\gck s ((D.map Prod.fst).drop j)=gck gs0 (D.map Prod.fst)/\Below w.heap.size w wr) (fun i _ _ _ _=>D.length - (intOf i).toNat)
 case atStart=>exact⟨0,gs0,Nat.zero_le _,rfl,rfl,G0.out,by simp,B0.out⟩
 case round=>
  clear G0 B0
  obtain⟨j,s,hj,rfl,rfl,g1,g3,g4⟩:=hrel
  obtain⟨qo,co,rfl⟩:=aL g1.oo
  obtain⟨qa,ca,rfl⟩:=aL g1.oa
  have HG:=aC g1
  have HK:=aC g3
  have HB:=aC g4
  have hg30:=g1.hg
  have hol:=g1.hl
  clear g1 g3 g4
  by_cases hjl:j < D.length
  ·have i0:(j:Int) < (D.length:Int):=by omega
   obtain⟨d,hd⟩:∃ d,D[j]?=some d:=⟨_,List.getElem?_eq_getElem hjl⟩
   obtain⟨qt,ct,e,hq,hc⟩:=(HT.out.kept HB.out).tok hd
   injection e with e1 _ e3
   subst e1 e3
   have hm:=List.mem_of_getElem? hd
   have hokd:=HOK.out d hm
   have k0:wr.cell? ⟨qt,j * 7,none⟩=some (.int .i64 (d.1.1.kind:Int)):=hc 0 _ rfl
   have k1:wr.cell? ⟨qt,j * 7+1,none⟩=some (.int .i64 (d.1.2.1:Int)):=hc 1 _ rfl
   have k3:wr.cell? ⟨qt,j * 7+3,none⟩=some (.int .i64 (d.1.1.n:Int)):=hc 3 _ rfl
   have hstep:gck s ((D.map Prod.fst).drop j)=match glk s d.1 with
    | .error x=>.error x
    | .ok s'=>gck s' ((D.map Prod.fst).drop (j+1)):=by
    rw [List.drop_eq_getElem_cons (by simpa using hjl),gck]
    have:(D.map Prod.fst)[j]'(by simpa using hjl)=d.1:=by rw [List.getElem_map];have:=(List.getElem?_eq_some_iff.1 hd).2;rw [this]
    rw [this]
    cases glk s d.1 <;> rfl
   have ERR:Hid (∀ c a w',glk s d.1=.error (c,a)->Below w.heap.size w w'->X (.returned (.tuple #[.int .i64 (c:Int),.int .i64 (a:Int)])) w'):=fun c a w' h1 h2=>by
    rw [<- HX.out]
    have:dC (D.map Prod.fst)=some (c,a):=by unfold dC;rw [<- HK.out,hstep,h1]
    rw [this]
    exact⟨rfl,h2⟩
   have NXT:Hid (∀ s',glk s d.1=.ok s'->gck s' ((D.map Prod.fst).drop (j+1))=gck gs0 (D.map Prod.fst)):=fun s' h1=>by
    rw [<- HK.out,hstep,h1]
   have TK:Hid (∀ W,Below w.heap.size w W->qt < W.heap.size/\W.cell? ⟨qt,j * 7+1,none⟩=some (.int .i64 (d.1.2.1:Int))):=fun W hW=>by
    obtain⟨q',c',e',hq',hc'⟩:=(HT.out.kept hW).tok hd
    injection e' with e1
    cases e1
    exact⟨hq',hc' 1 _ rfl⟩
   clear hc hd hm hstep
   obtain⟨KK,hKK⟩:∃ K:Int,(d.1.1.kind:Int)=K:=⟨_,rfl⟩
   rw [hKK] at k0
   by_cases hk3:d.1.1.kind=3
   ·have a3:(KK==3)=true:=by rw [<- hKK,hk3];rfl
    by_cases hg:s.g=30
    ·have i30:(30:Int)<=(s.g:Int):=by omega
     have RES:=aC (ERR.out 42 d.1.2.1 wr.drew (by unfold glk;rw [if_pos hk3,if_pos hg]) HB.out.drew)
     clear hk3 hg hKK
     go_wp2
     go_region
     go_wp2
     exact RES.out
    ·have i30:¬ (30:Int)<=(s.g:Int):=by omega
     have hw:IntKind.wrap .i64 ((s.g:Int)+1)=(s.g:Int)+1:=wrap_small _ (by omega) (by omega)
     have NX:=aC (NXT.out _ (by unfold glk;rw [if_pos hk3,if_neg hg]))
     have hg2:s.g < 30:=by omega
     have B5:Hid (Below wr.heap.size wr (wr.alloc (.cells #[.int .i64 ((s.g:Int)+1)] 3))):=bz9
     have N5:=aC (aG wr (.cells #[.int .i64 ((s.g:Int)+1)] 3))
     have H5:=aC (HG.out.kept B5.out)
     have S5:=aC (Nat.le_trans HB.out.size B5.out.size)
     clear hk3 hg hKK
     go_upto_region 14 with first
      |(at_builtin;refine wpList_append_own_at _ rfl _ _ 80 rfl w.heap.size 3 t0 (.int .i64 0) 1 8 rA hi hz0 hz1 hz2 rfl (by decide) (.slice qo s.o.length co) s.o.length (o1 s.o) rfl H5.out.oo ⟨wr.heap.size,0,none⟩ 1 1 [.int .i64 ((s.g:Int)+1)] rfl rfl (fun j u hj=>by(match j,hj with | 0,hj=>(simp at hj;subst hj;exact aB N5.out (i:=0) rfl))) (fun u hu=>by simp at hu;subst hu;rfl) (by unfold maxLen;omega) (by omega) S5.out ?_;intro v0 w6 hownQ hgrow _ hblk;obtain⟨q6,c6,rfl⟩:=aL hownQ;have O6:=aC hownQ;have G6:=aC hgrow;have V6:=aC hblk;have W6:Hid (Below w.heap.size w w6):=gW (aE HB.out B5.out lz9) lz9 H5.out.oo hgrow;clear hownQ hgrow hblk)
     clear k0 k1 k3 hq
     obtain⟨hq,k1⟩:=TK.out w6 W6.out
     have B7:Hid (Below w6.heap.size w6 (w6.alloc (.cells #[.int .i64 (d.1.2.1:Int)] 3))):=bz9
     have N7:=aC (aG w6 (.cells #[.int .i64 (d.1.2.1:Int)] 3))
     have OA7:Hid ((w6.alloc (.cells #[.int .i64 (d.1.2.1:Int)] 3)).ownsRow w.heap.size 3 1 (.slice qa s.o.length ca) s.o.length (o2 s.o)):=aQ (aQ H5.out.oa (Fr.grown (Fr.refl (fun k=>(Value.slice qo s.o.length co).ownBlock=some k) _) G6.out (fun k hk=>hk)) (fun k hk e=>HG.out.ne k e hk)) (Fr.of_below (S:=fun _=>False) B7.out) (fun _ _ z=>z)
     have S7:=aC (Nat.le_trans W6.out.size B7.out.size)
     go_wp2_with first
      |(at_builtin;refine wpList_append_own_at _ rfl _ _ 80 rfl w.heap.size 3 t0 (.int .i64 0) 1 8 rA hi hz0 hz1 hz2 rfl (by decide) (.slice qa s.o.length ca) s.o.length (o2 s.o) rfl OA7.out ⟨w6.heap.size,0,none⟩ 1 1 [.int .i64 (d.1.2.1:Int)] rfl rfl (fun j u hj=>by(match j,hj with | 0,hj=>(simp at hj;subst hj;exact aB N7.out (i:=0) rfl))) (fun u hu=>by simp at hu;subst hu;rfl) (by unfold maxLen;omega) (by omega) S7.out ?_;intro v0 w8 hownQ hgrow _ hblk;obtain⟨q8,c8,rfl⟩:=aL hownQ;have P8:=aC (HG.out.push B5.out O6.out G6.out V6.out B7.out hownQ hgrow hblk hg2);have W8:Hid (Below w.heap.size w w8):=gW (aE W6.out B7.out lz9) lz9 OA7.out hgrow;clear hownQ hgrow hblk)
     go_roundw
     case rel=>exact⟨j+1,_,by omega,by go_num,by go_num,P8.out,NX.out,W8.out⟩
     case measure=>simp only [intOf];omega
   ·have a3:(KK==3)=false:=by rw [beq_eq_false_iff_ne];omega
    by_cases hk4:d.1.1.kind=4
    ·have a4:(KK==4)=true:=by rw [<- hKK,hk4];rfl
     cases hl:s.o.getLast? with
     | none=>
      have ho:=List.getLast?_eq_none_iff.1 hl
      have l0:((s.o.length:Int)==0)=true:=by rw [ho];rfl
      have l1:(s.o.length:Int)=0:=by rw [ho];rfl
      have RES:=aC (ERR.out 40 d.1.2.1 wr.drew (by unfold glk;rw [if_neg hk3,if_pos hk4,hl]) HB.out.drew)
      clear hk3 hk4 hKK hl ho
      go_wp2
      go_region
      go_wp2
      exact RES.out
     | some x=>
      have hne:s.o≠[]:=fun e=>by rw [e] at hl;cases hl
      have NX:=aC (NXT.out ⟨s.g,s.o.dropLast,x.1 :: s.e⟩ (by unfold glk;rw [if_neg hk3,if_pos hk4];simp only [hl]))
      rw [List.getLast?_eq_some_getLast hne] at hl
      have hso:s.o=s.o.dropLast ++ [x]:=by cases hl;exact(List.dropLast_concat_getLast hne).symm
      generalize s.o.dropLast=o at *
      have hsl:s.o.length=o.length+1:=by rw [hso];simp
      have hx:=HG.out.ho x (by rw [hso];simp)
      obtain⟨go,co',e1⟩:=aI HG.out.oo (by omega)
      obtain⟨ga,ca',e2⟩:=aI HG.out.oa (by omega)
      injection e1 with e11 _ e12
      injection e2 with e21 _ e22
      subst e11 e12 e21 e22
      have cx:wr.cell? ⟨go,o.length,none⟩=some (.int .i64 (x.1:Int)):=bC HG.out.oo (by rw [hso];simp [o1])
      have lgo:=(aH HG.out.oo (g:=go) rfl).2.1
      have lb:=aA HG.out.ab.1.choose_spec
      have fb:=fun z=>aP HG.out.ab.1.choose_spec z
      have ce:=HG.out.ab.2 x.1 (by omega)
      have hco:o.length+1<=co:=by
       rcases HG.out.oo.2 with⟨e,-⟩ | ⟨g',cap,cur,e,-,-,h3,-⟩
       ·cases e
       ·injection e with _ _ e3;omega
      have hca:o.length+1<=ca:=by
       rcases HG.out.oa.2 with⟨e,-⟩ | ⟨g',cap,cur,e,-,-,h3,-⟩
       ·cases e
       ·injection e with _ _ e3;omega
      have l0:((s.o.length:Int)==0)=false:=by rw [beq_eq_false_iff_ne];omega
      have l1:¬ (s.o.length:Int)=0:=by omega
      have hw:IntKind.wrap .i64 ((s.o.length:Int) - 1)=(o.length:Int):=by rw [wrap_small _ (by omega) (by omega)];omega
      have hw2:IntKind.wrap .i64 (o.length:Int)=(o.length:Int):=wrap_small _ (by omega) (by omega)
      have j1:(0:Int)<=(o.length:Int):=by omega
      have j2:(o.length:Int) < (s.o.length:Int):=by omega
      have j3:(o.length:Int)<=(co:Int):=by omega
      have j4:(o.length:Int)<=(ca:Int):=by omega
      have j5:(x.1:Int) < 31:=by omega
      have P8:=aC (HG.out.pop hso)
      have B8:Hid (Below w.heap.size w (wr.setCell ⟨w.heap.size,x.1,none⟩ (.bool true))):=bM HB.out ((Fr.refl (At w.heap.size) wr).setCell (p:=⟨w.heap.size,x.1,none⟩) rfl _) lz9 (fun k e=>by have:k=w.heap.size:=e;omega)
      clear hk3 hk4 hKK hl hne hso hsl
      go_wp2
      go_roundw
      case rel=>exact⟨j+1,⟨s.g,o,x.1 :: s.e⟩,by omega,by go_num,rfl,P8.out,NX.out,B8.out⟩
      case measure=>simp only [intOf];omega
    ·have a4:(KK==4)=false:=by rw [beq_eq_false_iff_ne];omega
     by_cases hk6:d.1.1.kind=6
     ·have a6:(KK==6)=true:=by rw [<- hKK,hk6];rfl
      have hn9:=hokd.2.2.1
      have lb:=aA HG.out.ab.1.choose_spec
      have ce:=HG.out.ab.2 d.1.1.n (by omega)
      have j5:(d.1.1.n:Int) < 31:=by omega
      by_cases hm:d.1.1.n∈s.e
      ·rw [decide_eq_true hm] at ce
       have NX:=aC (NXT.out s (by unfold glk;rw [if_neg hk3,if_neg hk4,if_pos hk6,if_pos hm]))
       clear hk3 hk4 hk6 hKK hm
       go_wp2
       go_roundw
       case rel=>exact⟨j+1,s,by omega,by go_num,rfl,HG.out,NX.out,HB.out⟩
       case measure=>simp only [intOf];omega
      ·rw [decide_eq_false hm] at ce
       have RES:=aC (ERR.out 41 d.1.2.1 wr.drew (by unfold glk;rw [if_neg hk3,if_neg hk4,if_pos hk6,if_neg hm]) HB.out.drew)
       clear hk3 hk4 hk6 hKK hm
       go_wp2
       go_region
       go_wp2
       exact RES.out
     ·have a6:(KK==6)=false:=by rw [beq_eq_false_iff_ne];omega
      have NX:=aC (NXT.out s (by unfold glk;rw [if_neg hk3,if_neg hk4,if_neg hk6]))
      clear hk3 hk4 hk6 hKK
      go_wp2
      go_roundw
      case rel=>exact⟨j+1,s,by omega,by go_num,rfl,HG.out,NX.out,HB.out⟩
      case measure=>simp only [intOf];omega
  ·have i0:¬ (j:Int) < (D.length:Int):=by omega
   have hk:=HK.out
   rw [List.drop_of_length_le (by simp;omega),gck] at hk
   cases ho:s.o with
   | nil=>
    have l0:¬ (0:Int) < (s.o.length:Int):=by rw [ho];simp
    have RES:Hid (X (.returned (.tuple #[.int .i64 0,.int .i64 0])) wr):=by
     show X (.returned (.tuple #[.int .i64 0,.int .i64 0])) wr
     rw [<- HX.out]
     have:dC (D.map Prod.fst)=none:=by unfold dC;rw [<- hk];simp only [ho]
     rw [this]
     exact⟨rfl,HB.out⟩
    clear hk ho
    go_wp2
    exact RES.out
   | cons x r=>
    obtain⟨ga,ca',e⟩:=aI HG.out.oa (by rw [ho];simp)
    injection e with e1 _ e3
    subst e1 e3
    have cx:wr.cell? ⟨ga,0,none⟩=some (.int .i64 (x.2:Int)):=bC HG.out.oa (by rw [ho];rfl)
    have lga:=(aH HG.out.oa (g:=ga) rfl).2.1
    have l0:(0:Int) < (s.o.length:Int):=by rw [ho];simp
    have RES:Hid (X (.returned (.tuple #[.int .i64 39,.int .i64 (x.2:Int)])) wr.drew):=by
     show X (.returned (.tuple #[.int .i64 39,.int .i64 (x.2:Int)])) wr.drew
     rw [<- HX.out]
     have:dC (D.map Prod.fst)=some (39,x.2):=by unfold dC;rw [<- hk];simp only [ho]
     rw [this]
     exact⟨rfl,HB.out.drew⟩
    clear hk ho
    go_wp2
    go_region
    go_wp2
    exact RES.out
end Go.Proofs.YtpfdapnfkghgkaaGreatDoor
