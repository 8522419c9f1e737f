/-
  Parts of the proof.
-/
import Derived.Test.YticfnglebbakkaaGreatDoorPrintsProofB16
import Derived.Test.YticfnglebbakkaaGreatDoorPrintsProofB17
import Derived.Test.YticfnglebbakkaaGreatDoorPrintsProofB12
import Derived.Test.YticfnglebbakkaaGreatDoorPrintsProofB14
import Derived.Test.YticfnglebbakkaaGreatDoorPrintsProofB0
import Derived.Test.YticfnglebbakkaaGreatDoorPrintsProofB10
import Derived.Test.YticfnglebbakkaaGreatDoorPrintsProofB9
import Derived.Test.YticfnglebbakkaaGreatDoorPrintsProofB1
import Derived.Recover
set_option maxRecDepth 100000
set_option maxHeartbeats 8000000
namespace Go.Proofs.YticfnglebbakkaaGreatDoor
open Go Go.RowKit
theorem yN{c:Int}(h:aN true c):isC c=true:=by
 simp [aN,top] at h
 simp [isC]
 omega
theorem xO{c:Int}(w:World)(hc:isC c=true):Calls Tryz.prog 99 #[.int .i64 c] w fun e w'=>e=.returned (.string (txt (Lib.encodeRune c)))/\Below w.heap.size w w':=by
 have H1:=aB (uB c w)
 rw [hc] at H1
 have H2:=aB (lP c w hc)
 clear hc
 go_enter Tryz.func99,Tryz.ntmps99
 go_wp2_with first
  |(go_at_call 140;refine(H1.out).mono ?_;rintro e w2 ⟨rfl,rfl⟩)
  |(go_at_call 141;refine(H2.out).mono ?_;rintro e w3 ⟨rfl,h3⟩;have B3:=aB h3;clear h3)
 go_ret
 exact⟨rfl,B3.out⟩
theorem rP{c:Int}(m:Bool)(w:World)(hc:aN m c):Calls Tryz.prog 50 #[.int .i64 c,.bool m] w fun e w'=>e=.returned (.string (txt (eU m c)))/\Below w.heap.size w w':=by
 cases m with
 | true=>
  have H1:=aB (xO w (yN hc))
  clear hc
  go_enter Tryz.func50,Tryz.ntmps50
  go_wp2_with (go_at_call 99;refine(H1.out).mono ?_;rintro e w3 ⟨rfl,h3⟩;have B3:=aB h3;clear h3)
  go_ret
  exact⟨rfl,B3.out⟩
 | false=>
  have hr:0<=c/\c<=255:=by simpa [aN,top] using hc
  have hcv:=gJ w [c] (by simp;omega)
  have w1:IntKind.wrap .u8 c=c:=by rw [IntKind.wrap_u8];omega
  simp only [List.map_cons,List.map_nil,List.length_cons,List.length_nil] at hcv
  clear hc
  go_enter Tryz.func50,Tryz.ntmps50
  go_wp2
  go_ret
  exact⟨rfl,(Below.refl _ w).alloc lz9 _⟩
theorem eF(m:Bool):eU m 91=[91]/\eU m 46=[46]/\eU m 93=[93]/\eU m 45=[45]/\eU m 94=[94]/\eU m 92=[92]:=by cases m <;> decide +kernel
theorem rI(m:Bool)(c:Int):(eU m c).length<=4:=by
 have:=gI m [c]
 simpa [aY] using this
theorem uQ{c:Int}(m:Bool)(w:World)(hc:aN m c):Calls Tryz.prog 98 #[.int .i64 c,.bool m] w fun e w'=>e=.returned (.string (txt (aY m (cU c))))/\Below w.heap.size w w':=by
 have H1:=aB (rP m w hc)
 have hl:=rI m c
 obtain⟨u1,u2,u3,u4,u5,u6⟩:=eF m
 have EO:Hid (spE c=false->aY m (cU c)=eU m c):=fun h=>by simp [cU,h,aY]
 have ES:Hid (spE c=true->aY m (cU c)=[91,46] ++ eU m c ++ [46,93]):=fun h=>by simp [cU,h,aY,u1,u2,u3]
 clear u1 u2 u3 u4 u5 u6 hc
 by_cases hs:spE c=true
 ·have E:=aB (ES.out hs)
  have hd:c=93\/c=91\/c=45\/c=94:=by simp [spE] at hs;omega
  clear hs EO ES
  generalize hD:eU m c=D at H1 hl E
  clear hD
  have hz:=aD D
  have hz1:(txt D).size<=4:=by omega
  have A1:(⟨#[91,46]⟩:ByteArray) ++ txt D=txt ([91,46] ++ D):=aI [91,46] D
  have A2:txt ([91,46] ++ D) ++ (⟨#[46,93]⟩:ByteArray)=txt ([91,46] ++ D ++ [46,93]):=aI _ [46,93]
  have hz2:(txt ([91,46] ++ D)).size<=6:=by rw [aD];simp;omega
  generalize [91,46] ++ D ++ [46,93]=D2 at A2 E
  generalize [91,46] ++ D=D1 at A1 A2 hz2
  rcases hd with rfl | rfl | rfl | rfl
  all_goals
   go_enter Tryz.func98,Tryz.ntmps98
   go_wp2_with (go_at_call 50;refine(H1.out).mono ?_;rintro e w3 ⟨rfl,h3⟩;have B3:=aB h3;clear h3)
   all_goals first |(exfalso;rename_i hh;simp only [aD] at hh;omega) | skip
   go_ret
   exact⟨by rw [E.out];rfl,B3.out⟩
 ·have hs':spE c=false:=by simpa using hs
  have E:=aB (EO.out hs')
  have q1:(c==93)=false:=by simp [spE] at hs';simp;omega
  have q2:(c==91)=false:=by simp [spE] at hs';simp;omega
  have q3:(c==45)=false:=by simp [spE] at hs';simp;omega
  have q4:(c==94)=false:=by simp [spE] at hs';simp;omega
  clear hs hs' EO ES
  go_enter Tryz.func98,Tryz.ntmps98
  go_wp2_with (go_at_call 50;refine(H1.out).mono ?_;rintro e w3 ⟨rfl,h3⟩;have B3:=aB h3;clear h3)
  go_ret
  exact⟨by rw [E.out];rfl,B3.out⟩
theorem mB{w:World}{v:Value}{L:List (Int × Int)}(m:Bool)(h:ArgR w v L)(hl:L.length<=600000)(hc:∀ r∈L,aN m r.1/\aN m r.2) :
  Calls Tryz.prog 49 #[v,.bool m] w fun e w'=>e=.returned (.string (txt (aY m (cF L))))/\Below w.heap.size w w':=by
 obtain⟨q,cap,rfl,hlen,-,hcells⟩:=h.slice
 have HC:Hid (∀ (i:Nat) (r:Int × Int),L[i]?=some r->∃ g off,q=some ⟨g,off,none⟩/\g < w.heap.size/\w.cell? ⟨g,off+2 * i,none⟩=some (.int .i64 r.1)/\w.cell? ⟨g,off+2 * i+1,none⟩=some (.int .i64 r.2)):=hcells
 have HF:=aB hc
 clear h hcells hc hlen
 go_enter Tryz.func49,Tryz.ntmps49
 go_wp2
 go_loopw [5,6] (fun s i wr=>∃ k:Nat,k<=L.length/\i=.int .i64 (k:Int)/\s=.string (txt (aY m (cF (L.take k))))/\Below w.heap.size w wr) (fun _ i _=>L.length - (intOf i).toNat)
 case atStart=>exact⟨0,Nat.zero_le _,rfl,rfl,Below.refl _ _⟩
 case round=>
  obtain⟨k,hk,rfl,rfl,hB⟩:=hrel
  have B:=aB hB
  have hsz:=hB.size
  clear hB
  obtain⟨A,hA⟩:∃ A,aY m (cF (L.take k))=A:=⟨_,rfl⟩
  have HA:=aB hA
  have hAl:A.length<=26400000:=by
   rw [<- hA]
   have h1:=gI m (cF (L.take k))
   have h2:=jJ (L.take k)
   have:(L.take k).length<=L.length:=by simp;omega
   omega
  rw [hA]
  clear hA
  by_cases hlt:k < L.length
  ·obtain⟨r,hr⟩:∃ r,L[k]?=some r:=⟨_,List.getElem?_eq_getElem hlt⟩
   obtain⟨g,off,rfl,hg,x1,x2⟩:=HC.out k r hr
   have d1:=(B.out.cell (p:=⟨g,off+2 * k,none⟩) hg).trans x1
   have d2:=(B.out.cell (p:=⟨g,off+2 * k+1,none⟩) hg).trans x2
   rw [Nat.mul_comm] at d1 d2
   have hgr:g < wr.heap.size:=Nat.lt_of_lt_of_le hg hsz
   have NX:Hid (aY m (cF (L.take (k+1)))=A ++ aY m (eN r)):=by
    show aY m (cF (L.take (k+1)))=A ++ aY m (eN r)
    obtain⟨hk',rfl⟩:=List.getElem?_eq_some_iff.1 hr
    rw [bL L k hk',nZ,fB,HA.out]
   obtain⟨f0,f1⟩:=HF.out r (List.mem_of_getElem? hr)
   have i0:(0:Int)<=(k:Int):=by omega
   have i1:(k:Int) < (L.length:Int):=by omega
   have hwr:IntKind.wrap .i64 ((k:Int)+1)=(k:Int)+1:=wrap_small _ (by omega) (by omega)
   clear x1 x2 hr
   obtain⟨lo,hi'⟩:=r
   dsimp only at d1 d2 f0 f1
   have E1:=aB (uQ m wr f0)
   have E2:=aB (fun W=>uQ m W f1)
   have l1:(aY m (cU lo)).length<=20:=by have:=gI m (cU lo);have:=gH lo;omega
   have l2:(aY m (cU hi')).length<=20:=by have:=gI m (cU hi');have:=gH hi';omega
   clear f0 f1
   by_cases hgt:lo < hi'
   ·have E:Hid (aY m (eN (lo,hi'))=aY m (cU lo) ++ [45] ++ aY m (cU hi')):=by
     show aY m (eN (lo,hi'))=_
     unfold eN
     rw [if_pos hgt,fB,hZ,(eF m).2.2.2.1]
     simp
    generalize aY m (cU lo)=X at E1 l1 E
    generalize aY m (cU hi')=Y at E2 l2 E
    have z1:(txt A).size<=26400000:=by rw [aD];exact hAl
    have z2:(txt X).size<=20:=by rw [aD];exact l1
    have z3:(txt Y).size<=20:=by rw [aD];exact l2
    have z4:(txt (A ++ X)).size<=26400020:=by rw [aD];simp;omega
    have z5:(txt (A ++ X ++ [45])).size<=26400021:=by rw [aD];simp;omega
    have A1:txt A ++ txt X=txt (A ++ X):=aI _ _
    have A2:txt (A ++ X) ++ (⟨#[45]⟩:ByteArray)=txt (A ++ X ++ [45]):=aI _ [45]
    have A3:txt (A ++ X ++ [45]) ++ txt Y=txt (A ++ X ++ [45] ++ Y):=aI _ _
    have E3:Hid (A ++ (X ++ [45] ++ Y)=A ++ X ++ [45] ++ Y):=by show A ++ (X ++ [45] ++ Y)=_;simp
    generalize A ++ X ++ [45] ++ Y=P3 at A3 E3
    generalize A ++ X ++ [45]=P2 at A2 A3 z5
    generalize A ++ X=P1 at A1 A2 z4
    go_upto_region 6 with (go_at_call 98;refine(E1.out).mono ?_;rintro e w5 ⟨rfl,h5⟩;have B5:=aB (aG B.out h5 lz9);have e1:=(h5.cell (p:=⟨g,off+k * 2,none⟩) hgr).trans d1;have e2:=(h5.cell (p:=⟨g,off+k * 2+1,none⟩) hgr).trans d2;have hgr5:g < w5.heap.size:=Nat.lt_of_lt_of_le hgr h5.size;clear h5)
    all_goals first |(exfalso;rename_i hh;simp only [aD] at hh;omega) | skip
    clear d1 d2
    go_region_with fail
    all_goals go_wp2_with (go_at_call 98;refine(E2.out _).mono ?_;rintro e w6 ⟨rfl,h6⟩;have B6:=aB (aG B5.out.drew h6 lz9);clear h6)
    all_goals first |(exfalso;rename_i hh;simp only [aD] at hh;omega) | skip
    all_goals (
     go_roundw
     case rel=>exact⟨k+1,by omega,by go_num,by rw [NX.out,E.out,E3.out],B6.out⟩
     case measure=>simp [intOf];omega)
   ·have E:Hid (aY m (eN (lo,hi'))=aY m (cU lo)):=by
     show aY m (eN (lo,hi'))=_
     unfold eN
     rw [if_neg hgt,List.append_nil]
    generalize aY m (cU lo)=X at E1 l1 E
    have z1:(txt A).size<=26400000:=by rw [aD];exact hAl
    have z2:(txt X).size<=20:=by rw [aD];exact l1
    have A1:txt A ++ txt X=txt (A ++ X):=aI _ _
    go_upto_region 6 with (go_at_call 98;refine(E1.out).mono ?_;rintro e w5 ⟨rfl,h5⟩;have B5:=aB (aG B.out h5 lz9);have e1:=(h5.cell (p:=⟨g,off+k * 2,none⟩) hgr).trans d1;have e2:=(h5.cell (p:=⟨g,off+k * 2+1,none⟩) hgr).trans d2;have hgr5:g < w5.heap.size:=Nat.lt_of_lt_of_le hgr h5.size;clear h5)
    all_goals first |(exfalso;rename_i hh;simp only [aD] at hh;omega) | skip
    clear d1 d2
    go_region_with fail
    all_goals go_wp2
    all_goals (
     go_roundw
     case rel=>exact⟨k+1,by omega,by go_num,by rw [NX.out,E.out],B5.out.drew⟩
     case measure=>simp [intOf];omega)
  ·obtain rfl:k=L.length:=by omega
   rw [List.take_length] at HA
   go_wp2
   go_ret
   exact⟨by rw [HA.out];rfl,B.out⟩
section
attribute [local go_sem] bC
theorem tN(m:Bool):bT m=cM m:=by cases m <;> rfl
theorem aD3(m:Bool):∀ r∈cM m,aN m r.1/\aN m r.2:=by cases m <;> simp [cM,aN,top]
theorem rA{m:Bool}{L:List (Int × Int)}(hS:IsC L (fun x=>In L x/\aN m x)):∀ r∈L,aN m r.1/\aN m r.2:=fun r hr=>by
 have h1:=iL (f:=false) ⟨hS,fun q=>by cases q⟩ r hr
 exact⟨h1.1,h1.2.1⟩
structure CM(w:World)(m:Md)(v:Value)(L:List (Int × Int))(W:World):Prop where
 md:W.heap[w.heap.size]?=some (.cells #[.bool m.c,.bool m.f] 27 (0,0))
 bel:Below w.heap.size w W
 arg:ArgR W v L
theorem CM.kept{w:World}{m:Md}{v:Value}{L:List (Int × Int)}{W W':World}(h:CM w m v L W)(hb:Below W.heap.size W W'):CM w m v L W':=⟨(hb.block _ (aC h.md)).trans h.md,aG h.bel hb lz9,h.arg.kept hb⟩
theorem CM.new{w:World}(m:Md){v:Value}{L:List (Int × Int)}(h:ArgR w v L):CM w m v L (w.alloc (.cells #[.bool m.c,.bool m.f] 27)):=
 have B:Below w.heap.size w (w.alloc (.cells #[.bool m.c,.bool m.f] 27)):=bz9
 ⟨aF w _,B,h.kept B⟩
theorem oB{w:World}{v:Value}{L:List (Int × Int)}(m:Md)(h:ArgR w v L)(hF:Fit L)(hl:L.length<=1048580)(hS:IsC L (fun x=>In L x/\aN m.c x)) :
  Calls Tryz.prog 21 #[v,.agg #[.bool m.c,.bool m.f]] w fun e w'=>e=.returned (.tuple #[.string (txt (dA m.c L)),.int .i64 0])/\Below w.heap.size w w':=by
 have hlen:L.length<=600000:=fX hS
 have L1:=aB (CM.new m h)
 have RT:=aB (qI (m:=m.c) L1.out.arg hF hl)
 have HS:=aB hS
 have AL:=aB (fun W=>xN m.c W)
 have RA:=aB (fun (W:World) (u:Value) (hu:ArgR W u (cM m.c))=>mB m.c hu (by cases m.c <;> simp [cM]) (aD3 m.c))
 have RL:=aB (fun (W:World) (hW:CM w m v L W)=>mB m.c hW.arg hlen (rA hS))
 have HE:=aB (rA hS)
 obtain⟨o,ho⟩:∃ o,dA m.c L=o:=⟨_,rfl⟩
 have hol:o.length<=28000000:=by rw [<- ho];exact gM hS
 rw [ho]
 unfold dA dQ at ho
 obtain⟨q,cap,rfl,hlm,-,hcells⟩:=h.slice
 have CL:=aB hcells
 clear h hF hl hS hcells
 go_enter Tryz.func21,Tryz.ntmps21
 go_upto_region 1 with fail
 generalize (w.alloc (.cells #[.bool m.c,.bool m.f] 27))=w1 at L1 RT ⊢
 have a0:=aA L1.out.md (i:=0) rfl
 have a1:=aA L1.out.md (i:=1) rfl
 go_upto_region 2 with (go_at_call 47;refine(RT.out).mono ?_;rintro e w2 ⟨b,rfl,h1,h2⟩;have L2:=aB (L1.out.kept h2);have hb:b=true:=h1.2 HS.out;subst hb;clear h1 h2)
 clear a0 a1 L1 RT
 have a0:=aA L2.out.md (i:=0) rfl
 go_upto_region 5 with (go_at_call 48;refine(AL.out w2).mono ?_;rintro e w3 ⟨va,rfl,h1,h2⟩;rw [tN] at h1;have L3:=aB (L2.out.kept h2);have V3:=aB h1;clear h1 h2)
 clear a0
 have KA:=aB (lR L3.out.arg V3.out.arg)
 obtain⟨bq,hbq⟩:∃ b,decide (L=cM m.c)=b:=⟨_,rfl⟩
 rw [hbq] at KA
 obtain⟨qa,ca,rfl⟩:=aL V3.out
 go_upto_region 6 with (go_at_call 22;refine(KA.out).mono ?_;rintro e w4 ⟨rfl,h2⟩;have L4:=aB (L3.out.kept h2);have V4:=aB (V3.out.arg.kept h2);clear h2)
 have a0:=aA L4.out.md (i:=0) rfl
 clear KA
 by_cases h0:L=[]
 ·subst h0
  rw [if_pos rfl,fB,fB] at ho
  have RA2:=aB (RA.out _ _ V4.out)
  have E:=aB ho
  have e1:aY m.c [91,94]=[91,94]:=by simp [aY,(eF m.c).1,(eF m.c).2.2.2.2.1]
  have e2:aY m.c [93]=[93]:=by simp [aY,(eF m.c).2.2.1]
  rw [e1,e2] at E
  clear ho e1 e2 RA
  have hD:(aY m.c (cF (cM m.c))).length<=28000000:=by rw [<- E.out] at hol;simp at hol;omega
  generalize aY m.c (cF (cM m.c))=D at RA2 E hD
  have z1:(txt D).size<=28000000:=by rw [aD];exact hD
  have A1:(⟨#[91,94]⟩:ByteArray) ++ txt D=txt ([91,94] ++ D):=aI [91,94] D
  have A2:txt ([91,94] ++ D) ++ (⟨#[93]⟩:ByteArray)=txt ([91,94] ++ D ++ [93]):=aI _ [93]
  have z2:(txt ([91,94] ++ D)).size<=28000002:=by rw [aD];simp;omega
  rw [E.out] at A2
  generalize [91,94] ++ D=D1 at A1 A2 z2
  go_wp2_with (go_at_call 49;refine(RA2.out).mono ?_;rintro e w5 ⟨rfl,h2⟩;have L5:=aB (L4.out.kept h2);clear h2)
  all_goals first |(exfalso;rename_i hh;simp only [aD] at hh;omega) | skip
  go_ret2
  exact⟨rfl,L5.out.bel⟩
 ·rw [if_neg h0] at ho
  have hpos:0 < L.length:=List.length_pos_iff.2 h0
  have q0:((L.length:Int)==0)=false:=by simp;omega
  by_cases hA:L=cM m.c
  ·rw [if_pos hA] at ho
   rw [decide_eq_true hA] at hbq
   subst hbq
   have e1:aY m.c [46]=[46]:=by simp [aY,(eF m.c).2.1]
   rw [e1] at ho
   subst ho
   clear hA h0 e1
   go_wp2
   go_ret2
   exact⟨rfl,L4.out.bel⟩
  ·rw [if_neg hA] at ho
   rw [decide_eq_false hA] at hbq
   subst hbq
   obtain⟨r,hr⟩:∃ r,L[0]?=some r:=⟨_,List.getElem?_eq_getElem hpos⟩
   obtain⟨g,off,rfl,hg,x1,x2⟩:=CL.out 0 r hr
   have hd:L.headD (0,0)=r:=by
    cases L with
    | nil=>cases hr
    | cons y l=>simp at hr;simpa using hr
   rw [hd] at ho
   have d1:=(L4.out.bel.cell (p:=⟨g,off+2 * 0,none⟩) hg).trans x1
   have d2:=(L4.out.bel.cell (p:=⟨g,off+2 * 0+1,none⟩) hg).trans x2
   have hg4:g < w4.heap.size:=Nat.lt_of_lt_of_le hg L4.out.bel.size
   have HR:=aB (HE.out r (List.mem_of_getElem? hr))
   obtain⟨lo,hi'⟩:=r
   simp only [Nat.mul_zero,Nat.add_zero] at d1 d2
   dsimp only at ho HR
   clear x1 x2 hr hd h0 CL
   by_cases h1:L.length=1/\lo=hi'
   ·rw [if_pos h1] at ho
    obtain⟨hl1,rfl⟩:=h1
    have q1:decide ((1:Int) < (L.length:Int))=false:=decide_eq_false (by omega)
    have q2:(lo != lo)=false:=by simp
    have i0:(0:Int) < (L.length:Int):=by omega
    have CH:=aB (fun W=>rP m.c W HR.out.1)
    have hD:(eU m.c lo).length<=4:=rI m.c lo
    have E:=aB ho
    clear ho RA RL AL
    go_upto_region 10 with fail
    refine wx9 ?_
    repeat (go_big_quiet_step (first | exact rfl))
    refine wpQuiet_nil ?_
    intro w5 hw
    have k1:=((aM hw).cell (p:=⟨g,off,none⟩) hg4).trans d1
    have hg5:g < w5.heap.size:=Nat.lt_of_lt_of_le hg4 (aM hw).size
    have L5:=aB (L4.out.kept (aM hw))
    clear hw d1 d2 a0 q1 q2
    have a0:=aA L5.out.md (i:=0) rfl
    by_cases hs:spA lo=true
    ·have E2:Hid ([92] ++ eU m.c lo=o):=by
      show [92] ++ eU m.c lo=o
      rw [<- E.out]
      simp [dB,hs,aY,(eF m.c).2.2.2.2.2]
     have hd:lo=46\/lo=91\/lo=42\/lo=94\/lo=36\/lo=92:=by simp [spA] at hs;omega
     clear hs E
     generalize hD0:eU m.c lo=D at CH hD E2
     clear hD0
     have z1:(txt D).size<=4:=by rw [aD];exact hD
     have A1:(⟨#[92]⟩:ByteArray) ++ txt D=txt ([92] ++ D):=aI [92] D
     rw [E2.out] at A1
     rcases hd with rfl | rfl | rfl | rfl | rfl | rfl
     all_goals
      go_wp2_with (go_at_call 50;refine(CH.out _).mono ?_;rintro e w6 ⟨rfl,h6⟩;have L6:=aB (L5.out.kept h6);clear h6)
      all_goals first |(exfalso;rename_i hh;simp only [aD] at hh;omega) | skip
      go_ret2
      exact⟨rfl,L6.out.bel⟩
    ·have hs':spA lo=false:=by simpa using hs
     have E2:Hid (eU m.c lo=o):=by
      show eU m.c lo=o
      rw [<- E.out]
      simp [dB,hs',aY]
     have p1:(lo==46)=false:=by simp [spA] at hs';simp;omega
     have p2:(lo==91)=false:=by simp [spA] at hs';simp;omega
     have p3:(lo==42)=false:=by simp [spA] at hs';simp;omega
     have p4:(lo==94)=false:=by simp [spA] at hs';simp;omega
     have p5:(lo==36)=false:=by simp [spA] at hs';simp;omega
     have p6:(lo==92)=false:=by simp [spA] at hs';simp;omega
     clear hs hs' E
     go_wp2_with (go_at_call 50;refine(CH.out _).mono ?_;rintro e w6 ⟨rfl,h6⟩;have L6:=aB (L5.out.kept h6);clear h6)
     go_ret2
     exact⟨by rw [<- E2.out];rfl,L6.out.bel⟩
   ·rw [if_neg h1,fB,fB] at ho
    have e1:aY m.c [91]=[91]:=by simp [aY,(eF m.c).1]
    have e2:aY m.c [93]=[93]:=by simp [aY,(eF m.c).2.2.1]
    rw [e1,e2] at ho
    have E:=aB ho
    clear ho e1 e2 RA AL
    have hD:(aY m.c (cF L)).length<=28000000:=by rw [<- E.out] at hol;simp at hol;omega
    generalize aY m.c (cF L)=D at RL E hD
    have z1:(txt D).size<=28000000:=by rw [aD];exact hD
    have A1:(⟨#[91]⟩:ByteArray) ++ txt D=txt ([91] ++ D):=aI [91] D
    have A2:txt ([91] ++ D) ++ (⟨#[93]⟩:ByteArray)=txt ([91] ++ D ++ [93]):=aI _ [93]
    have z2:(txt ([91] ++ D)).size<=28000001:=by rw [aD];simp;omega
    rw [E.out] at A2
    generalize [91] ++ D=D1 at A1 A2 z2
    have i0:(0:Int) < (L.length:Int):=by omega
    by_cases h2:1 < L.length
    ·have q1:decide ((1:Int) < (L.length:Int))=true:=decide_eq_true (by omega)
     go_upto_region 10 with fail
     refine wx9 ?_
     repeat (go_big_quiet_step (first | exact rfl))
     refine wpQuiet_nil ?_
     intro w5 hw
     have L5:=aB (L4.out.kept (aM hw))
     clear hw d1 d2 a0 q1
     have a0:=aA L5.out.md (i:=0) rfl
     go_wp2_with (go_at_call 49;refine(RL.out _ L5.out).mono ?_;rintro e w6 ⟨rfl,h6⟩;have L6:=aB (L5.out.kept h6);clear h6)
     all_goals first |(exfalso;rename_i hh;simp only [aD] at hh;omega) | skip
     go_ret2
     exact⟨rfl,L6.out.bel⟩
    ·have q1:decide ((1:Int) < (L.length:Int))=false:=decide_eq_false (by omega)
     have q2:(lo != hi')=true:=by simp;exact fun e=>h1 ⟨by omega,e⟩
     go_upto_region 10 with fail
     refine wx9 ?_
     repeat (go_big_quiet_step (first | exact rfl))
     refine wpQuiet_nil ?_
     intro w5 hw
     have L5:=aB (L4.out.kept (aM hw))
     clear hw d1 d2 a0 q1
     have a0:=aA L5.out.md (i:=0) rfl
     go_wp2_with (go_at_call 49;refine(RL.out _ L5.out).mono ?_;rintro e w6 ⟨rfl,h6⟩;have L6:=aB (L5.out.kept h6);clear h6)
     all_goals first |(exfalso;rename_i hh;simp only [aD] at hh;omega) | skip
     go_ret2
     exact⟨rfl,L6.out.bel⟩
end
theorem zU{w:World}(hG:Glb w){a b:Int}(hb:dL a b=true):Calls Tryz.prog 55 #[.int .i64 a,.int .i64 b] w fun e w'=>e=.returned (.string (txt (cD a b)))/\Below w.heap.size w w':=by
 have hbd:0<=a/\a<=255/\(b=-1\/(a<=b/\b<=255)):=by
  simp only [dL,Bool.and_eq_true,Bool.or_eq_true,decide_eq_true_eq,beq_iff_eq] at hb
  omega
 clear hb
 by_cases c1:a=0/\b=-1
 ·obtain⟨rfl,rfl⟩:=c1
  go_enter Tryz.func55,Tryz.ntmps55
  go_wp2
  go_ret
  exact⟨rfl,Below.refl _ _⟩
 by_cases c2:a=1/\b=-1
 ·obtain⟨rfl,rfl⟩:=c2
  go_enter Tryz.func55,Tryz.ntmps55
  go_wp2
  go_ret
  exact⟨rfl,Below.refl _ _⟩
 by_cases c3:a=0/\b=1
 ·obtain⟨rfl,rfl⟩:=c3
  go_enter Tryz.func55,Tryz.ntmps55
  go_wp2
  go_ret
  exact⟨rfl,Below.refl _ _⟩
 have E:Hid (cD a b=[92,123] ++ bB a.toNat ++ (if b=a then [] else if b=-1 then [44] else 44 :: bB b.toNat) ++ [92,125]):=by
  show cD a b=_
  unfold cD
  rw [if_neg c1,if_neg c2,if_neg c3]
 have HA:=aB (fun W (hW:Below w.heap.size w W)=>iU (hG.kept hW).2.2 (n:=a) hbd.1 hbd.2.1)
 have l3:=cW hbd.1 hbd.2.1
 obtain⟨D,hD⟩:∃ D,bB a.toNat=D:=⟨_,rfl⟩
 rw [hD] at HA E l3
 clear hD
 have hB:Hid (∀ W,Below w.heap.size w W->b≠-1->Calls Tryz.prog 54 #[.int .i64 b] W fun e w'=>e=.returned (.string (txt (bB b.toNat)))/\Below W.heap.size W w'):=fun W hW q=>iU (hG.kept hW).2.2 (n:=b) (by omega) (by omega)
 have l4:b≠-1->(bB b.toNat).length<=3:=fun q=>cW (by omega) (by omega)
 obtain⟨D2,hD2⟩:∃ D,bB b.toNat=D:=⟨_,rfl⟩
 rw [hD2] at hB E l4
 clear hD2 hG
 have hz:=aD D
 have hz2:=aD D2
 have A1:=aI
 have t44:(⟨#[44]⟩:ByteArray)=txt [44]:=rfl
 have t1:(⟨#[92,123]⟩:ByteArray)=txt [92,123]:=rfl
 have t2:(⟨#[92,125]⟩:ByteArray)=txt [92,125]:=rfl
 obtain⟨x0,e0⟩:∃ x,(a==0)=x:=⟨_,rfl⟩
 obtain⟨x1,e1⟩:∃ x,(a==1)=x:=⟨_,rfl⟩
 obtain⟨y0,e2⟩:∃ x,(b==-1)=x:=⟨_,rfl⟩
 obtain⟨y1,e3⟩:∃ x,(b==1)=x:=⟨_,rfl⟩
 obtain⟨z,e4⟩:∃ x,(b==a)=x:=⟨_,rfl⟩
 have F:Hid (cD a b=[92,123] ++ D ++ (if z then [] else if y0 then [44] else 44 :: D2) ++ [92,125]):=by
  show cD a b=_
  rw [E.out,<- e4,<- e2]
  simp only [beq_iff_eq]
 have K:Hid ((x0 && y0)=false/\(x1 && y0)=false/\(x0 && y1)=false/\(x0 && x1)=false/\(y0 && y1)=false/\(y0 && z)=false/\(y0=false->b≠-1)):=by
  refine aB ?_
  rw [<- e0,<- e1,<- e2,<- e3,<- e4]
  simp only [Bool.and_eq_false_iff,beq_eq_false_iff_ne]
  omega
 have K1:=K.out
 clear E c1 c2 c3 hbd
 cases x0 <;> cases x1 <;> cases y0 <;> cases y1 <;> cases z <;> simp at K1
 all_goals
  have NB:=aB (K.out.2.2.2.2.2.2)
  have l5:D2.length<=3\/true=true:=.inr rfl
  first |(have l6:=l4 (NB.out (by trivial));clear l5) | skip
  clear K K1 A1
  go_enter Tryz.func55,Tryz.ntmps55
  go_wp2_with first
   |(go_at_call 54;(with_reducible refine(HA.out _ (Below.refl _ _)).mono ?_);rintro e w2 ⟨rfl,h2⟩;have B2:=aB h2;clear h2)
   |(go_at_call 54;refine(hB.out _ B2.out (NB.out (by trivial))).mono ?_;rintro e w3 ⟨rfl,h3⟩;have B3:=aB (aG B2.out h3 lz9);clear h3)
  all_goals first |(exfalso;rename_i hh;simp only [aD,List.length_cons,List.length_nil] at hh;omega) | skip
  go_ret
  refine⟨?_,?_⟩
  ·rw [F.out]
   simp only [aI]
   simp
  ·first | exact B3.out | exact B2.out
section
open Go
mutual
def prE(c:Bool):Er->List UInt8
 | .mk k n mn mx rs ks=>if k=2 then dA c rs else if k=3 then [94] else if k=4 then [36] else if k=5 then bY c [] ks else if k=6 then bY c [92,124] ks
  else if k=7 then [92,40] ++ bY c [] ks ++ [92,41] else if k=8 then 92 :: bB n.toNat else if k=9 then bY c [] ks ++ cD mn mx else []
def bY(c:Bool)(sep:List UInt8):List Er->List UInt8
 | []=>[]
 | x :: l=>prE c x ++ fT c sep l
def fT(c:Bool)(sep:List UInt8):List Er->List UInt8
 | []=>[]
 | x :: l=>sep ++ prE c x ++ fT c sep l
end
end
def WR(l x l':List UInt8):Prop:=l'=l ++ x\/(2000 < l'.length/\2000 < (l ++ x).length/\l'.length<=(l ++ x).length)
theorem WR.refl(l x:List UInt8):WR l x (l ++ x):=.inl rfl
theorem WR.len{l x l':List UInt8}(h:WR l x l'):l'.length<=l.length+x.length:=by
 rcases h with rfl | ⟨_,_,h⟩
 ·simp
 ·simpa using h
theorem WR.trans{l x y l' l'':List UInt8}(h:WR l x l')(k:WR l' y l''):WR l (x ++ y) l'':=by
 unfold WR at *
 rw [<- List.append_assoc]
 simp only [List.length_append] at *
 rcases h with rfl | ⟨h1,h2,h3⟩
 ·simpa using k
 ·right
  rcases k with rfl | ⟨k1,k2,k3⟩
  ·simp only [List.length_append];omega
  ·omega
theorem WR.long{l:List UInt8}(h:2000 < l.length)(x:List UInt8):WR l x l:=.inr ⟨h,by simp;omega,by simp⟩
theorem WR.none(l:List UInt8):WR l [] l:=.inl (by simp)
abbrev aG1(c f:Bool):List Value:=[.bool c,.bool f]
abbrev PR(base:Nat)(w:World)(b:Nat)(c f:Bool)(l:List UInt8):Prop:=BL 56 base w b (aG1 c f) l
abbrev PrPost(base:Nat)(w:World)(b:Nat)(c f:Bool)(l:List UInt8)(w':World):Prop:=kF 56 base w b (aG1 c f) l w'
theorem PR.cells{base:Nat}{w:World}{b:Nat}{c f:Bool}{l:List UInt8}(h:PR base w b c f l):w.cell? ⟨b,0,none⟩=some (.bool c)/\w.cell? ⟨b,1,none⟩=some (.bool f)/\b < w.heap.size/\base<=b:=by
 obtain⟨p,v,h1,-,-,-,h5⟩:=h
 exact⟨aA h1 (i:=0) rfl,aA h1 (i:=1) rfl,aC h1,h5⟩
theorem BL.kept{T:TypeId}{base:Nat}{w w':World}{b:Nat}{pre:List Value}{l:List UInt8}(h:BL T base w b pre l)(hb:Below w.heap.size w w'):BL T base w' b pre l:=by
 obtain⟨p,v,h1,h2,h3,h4,h5⟩:=h
 exact⟨p,v,(hb.block b (aC h1)).trans h1,h2,aO h3 (S:=fun _=>False) ⟨hb.os,hb.tape,hb.output,hb.size,fun i hi _=>hb.block i hi⟩ (fun _ _ q=>q),h4,h5⟩
theorem oF{b:Nat}{w w':World}(h:Below w.heap.size w w'):Oth b w w':=fun k _ hk _ _=>(h.block k (aC hk)).trans hk
theorem PrPost.trans{base:Nat}{a w w':World}{b:Nat}{T:TypeId}{pre:List Value}{l l':List UInt8}(h:kF T base a b pre l w)(k:kF T base w b pre l' w'):kF T base a b pre l' w':=⟨k.1,h.2.1.trans k.2.1,h.2.2.trans k.2.2⟩
theorem PrPost.then{base:Nat}{a w w':World}{b:Nat}{T:TypeId}{pre:List Value}{l:List UInt8}(h:kF T base a b pre l w)(k:Below w.heap.size w w')(hb:base<=a.heap.size):kF T base a b pre l w':=⟨h.1.kept k,aG h.2.1 k hb,h.2.2.trans (oF k)⟩
theorem PrPost.start{base:Nat}{w w':World}{b:Nat}{T:TypeId}{pre:List Value}{l:List UInt8}(h:BL T base w b pre l)(k:Below w.heap.size w w')(hb:base<=w.heap.size):kF T base w b pre l w':=⟨h.kept k,k.mono hb,oF k⟩
theorem eS{base:Nat}{w:World}{b:Nat}{c f:Bool}{l:List UInt8}(h:PR base w b c f l)(s:List UInt8)(hl:l.length+s.length<=140737488355328)(hb:base<=w.heap.size) :
  Calls Tryz.prog 51 #[.pointer (some ⟨b,0,none⟩),.string (txt s)] w fun e w'=>e=.returned (.tuple #[])/\PrPost base w b c f (l ++ s) w':=by
 have HW:=aB (eT bt2 h s hl hb)
 clear h hl hb
 go_enter Tryz.func51,Tryz.ntmps51
 go_wp2_with (go_at_call 36;refine(HW.out).mono ?_;rintro e w2 ⟨rfl,h2⟩;have B2:=aB h2;clear h2)
 go_end0
 exact⟨rfl,B2.out⟩
theorem qX{base:Nat}{w:World}{b:Nat}{c f:Bool}{l:List UInt8}(h:PR base w b c f l) :
  Calls Tryz.prog 24 #[.pointer (some ⟨b,0,none⟩)] w fun e w'=>e=.returned (.bool (decide (2000 < l.length)))/\w'=w:=by
 have HW:=aB (aD0 h)
 clear h
 obtain⟨n,hn⟩:∃ n,l.length=n:=⟨_,rfl⟩
 rw [hn] at HW ⊢
 clear hn
 by_cases q:2000 < n
 ·have q2:(2000:Int) < (n:Int):=by omega
  rw [decide_eq_true q]
  go_enter Tryz.func24,Tryz.ntmps24
  go_wp2_with (go_at_call 56;refine(HW.out).mono ?_;rintro e w2 ⟨rfl,h2⟩;subst w2)
  go_ret
  exact⟨rfl,rfl⟩
 ·have q2:¬ (2000:Int) < (n:Int):=by omega
  rw [decide_eq_false q]
  go_enter Tryz.func24,Tryz.ntmps24
  go_wp2_with (go_at_call 56;refine(HW.out).mono ?_;rintro e w2 ⟨rfl,h2⟩;subst w2)
  go_ret
  refine⟨?_,rfl⟩
  show Ending.returned (Value.bool (decide ((2000:Int) < (n:Int))))=_
  rw [decide_eq_false (by omega)]
structure Okn(c f:Bool)(F:Fl):Prop where
 set:F.k=2->kN c f F.rs
 back:F.k=8->0<=F.n/\F.n<=9
 rep:F.k=9->dL F.mn F.mx=true
 grp:F.k=7->0<=F.n/\F.n<=30
def Okt(c f:Bool)(t:Tr):Prop:=bU (fun u=>Okn c f u.f) t
def WrP(c f:Bool)(t:Tr):Prop:=∀ (W0 w:World) (b:Nat) (l:List UInt8),TB W0 t->Okt c f t->Below W0.heap.size W0 w->Glb W0->PR W0.heap.size w b c f l->l.length+(prE c (er t)).length<=140737488355328 ->
 Calls Tryz.prog 23 #[.pointer (some ⟨b,0,none⟩),.agg #[.int .i64 t.f.k,.int .i64 t.f.n,.int .i64 t.f.mn,.int .i64 t.f.mx,.slice t.f.rq t.f.rs.length t.f.rc,.slice t.f.kq t.f.kl t.f.kc]] w fun e w'=>e=.returned (.tuple #[])/\∃ l',WR l (prE c (er t)) l'/\PrPost W0.heap.size w b c f l' w'
theorem qN(c:Bool)(sep:List UInt8)(L M:List Er):fT c sep (L ++ M)=fT c sep L ++ fT c sep M:=by
 induction L with
 | nil=>rw [List.nil_append];simp [fT]
 | cons y L ih=>rw [List.cons_append,fT,fT,ih];simp
theorem xT(c:Bool)(sep:List UInt8)(x:Er):fT c sep [x]=sep ++ prE c x:=by rw [fT];simp [fT]
theorem oE(c:Bool)(sep:List UInt8)(L:List Er)(x:Er):bY c sep (L ++ [x])=bY c sep L ++ ((if L=[] then [] else sep) ++ prE c x):=by
 cases L with
 | nil=>rw [List.nil_append,bY];simp [bY,fT]
 | cons y L=>rw [List.cons_append,bY,bY,qN,xT];simp
theorem mF(c:Bool)(sep:List UInt8)(A B:List Er):(bY c sep A).length<=(bY c sep (A ++ B)).length:=by
 cases A with
 | nil=>rw [bY];exact Nat.zero_le _
 | cons y L=>rw [List.cons_append,bY,bY,qN];simp only [List.length_append];omega
theorem pW{c f:Bool}{t:Tr}(hrec:∀ u∈t.ks,WrP c f u){W0 w:World}{b:Nat}{l:List UInt8}(sep:List UInt8)(hT:TB W0 t)(hO:Okt c f t)(hb:Below W0.heap.size W0 w)(hG:Glb W0)(h:PR W0.heap.size w b c f l)(hl:l.length+(bY c sep (t.ks.map er)).length<=140737488355328) :
  Calls Tryz.prog 53 #[.pointer (some ⟨b,0,none⟩),.agg #[.int .i64 t.f.k,.int .i64 t.f.n,.int .i64 t.f.mn,.int .i64 t.f.mx,.slice t.f.rq t.f.rs.length t.f.rc,.slice t.f.kq t.f.kl t.f.kc],.string (txt sep)] w fun e w'=>e=.returned (.tuple #[])/\∃ l',WR l (bY c sep (t.ks.map er)) l'/\PrPost W0.heap.size w b c f l' w':=by
 have HR:=aB hrec
 have HT:=aB hT
 have HO:=aB hO
 have HG:=aB hG
 have H:=aB h
 have B0:=aB hb
 have hs0:=hb.size
 have HL:=aB hl
 have kl:=hT.node.kl
 obtain⟨q,cap,e1,hm1,hcp1,hx1⟩:=hT.node.k.slice
 injection e1 with e11 e12 e13
 have H1:=aB hx1
 have HB:=aB h.cells.2.2
 have hm:t.ks.length<=9223372036854775807:=hm1
 rw [e11,kl]
 clear hrec hT hO hG h hx1 e11 e12 e13 hb hl kl
 go_enter Tryz.func53,Tryz.ntmps53
 go_wp2
 go_loopw [11] (fun i wr=>∃ (k:Nat) (l':List UInt8),k<=t.ks.length/\i=.int .i64 (k:Int)/\WR l (bY c sep ((t.ks.take k).map er)) l'/\PrPost W0.heap.size w b c f l' wr) (fun i _=>t.ks.length - (intOf i).toNat)
 case atStart=>exact⟨0,l,Nat.zero_le _,rfl,by rw [List.take_zero,List.map_nil,bY];exact WR.none l,PrPost.start H.out (bz9) hs0⟩
 case round=>
  obtain⟨k,l',hk,rfl,hW,hP⟩:=hrel
  have W1:=aB hW
  have P1:=aB hP
  clear hW hP
  have hsw:=Nat.le_trans hs0 P1.out.2.1.size
  by_cases hlt:k < t.ks.length
  ·obtain⟨u,hu⟩:∃ u,t.ks[k]?=some u:=⟨_,List.getElem?_eq_getElem hlt⟩
   have inu:u∈t.ks:=List.mem_of_getElem? hu
   obtain⟨g,o,rfl,hg,six⟩:=H1.out k u hu
   have BW:Hid (Below W0.heap.size W0 wr):=B0.out.trans P1.out.2.1
   obtain⟨c0,c1,c2,c3,c4,c5⟩:=six.ck (CK.of_below BW.out) hg
   have hgr:g < wr.heap.size:=Nat.lt_of_lt_of_le hg BW.out.size
   have i0:(0:Int)<=(k:Int):=by omega
   have i1:(k:Int) < (t.ks.length:Int):=by omega
   have hwr:IntKind.wrap .i64 ((k:Int)+1)=(k:Int)+1:=wrap_small _ (by omega) (by omega)
   have NX:Hid (bY c sep ((t.ks.take (k+1)).map er)=bY c sep ((t.ks.take k).map er) ++ ((if k=0 then [] else sep) ++ prE c (er u))):=by
    refine aB ?_
    rw [List.take_add_one,hu,List.map_append]
    show bY c sep ((t.ks.take k).map er ++ [er u])=_
    rw [oE]
    congr 2
    have:((t.ks.take k).map er=[]) ↔ k=0:=by
     rw [List.map_eq_nil_iff,List.take_eq_nil_iff]
     constructor
     ·rintro (q | q)
      ·exact q
      ·rw [q] at hlt;simp at hlt
     ·exact fun q=>.inl q
    simp only [this]
   have LN:Hid (l'.length+(if k=0 then [] else sep).length+(prE c (er u)).length<=140737488355328):=by
    refine aB ?_
    have h1:=W1.out.len
    have h2:=mF c sep ((t.ks.take (k+1)).map er) ((t.ks.drop (k+1)).map er)
    rw [<- List.map_append,List.take_append_drop] at h2
    rw [NX.out] at h2
    simp only [List.length_append] at h2
    have:=HL.out
    omega
   have BX:Hid (BoxN (wr.alloc (.cells #[.int .i64 u.f.k,.int .i64 u.f.n,.int .i64 u.f.mn,.int .i64 u.f.mx,.slice u.f.rq u.f.rs.length u.f.rc,.slice u.f.kq u.f.kl u.f.kc] 25)) wr.heap.size u.f):=aF wr _
   have PX:Hid (PrPost W0.heap.size w b c f l' (wr.alloc (.cells #[.int .i64 u.f.k,.int .i64 u.f.n,.int .i64 u.f.mn,.int .i64 u.f.mx,.slice u.f.rq u.f.rs.length u.f.rc,.slice u.f.kq u.f.kl u.f.kc] 25))):=PrPost.then P1.out (bz9) hs0
   obtain⟨n0,n1,n2,n3,n4,n5⟩:=BX.out.six
   simp only [Nat.zero_add] at n1 n2 n3 n4 n5
   have hsx:W0.heap.size<=(wr.alloc (.cells #[.int .i64 u.f.k,.int .i64 u.f.n,.int .i64 u.f.mn,.int .i64 u.f.mx,.slice u.f.rq u.f.rs.length u.f.rc,.slice u.f.kq u.f.kl u.f.kc] 25)).heap.size:=by simp;omega
   have nb:wr.heap.size≠b:=by
    have:=(PR.cells P1.out.1).2.2.1
    omega
   have RC:=aB (fun (W:World) (m:List UInt8) (hp:PrPost W0.heap.size w b c f m W) (hm:m.length+(prE c (er u)).length<=140737488355328)=>HR.out u inu W0 W b m (HT.out.kid inu) (cT HO.out inu) (B0.out.trans hp.2.1) HG.out hp.1 hm)
   clear six hu
   by_cases hk0:k=0
   ·subst hk0
    simp only [Nat.zero_mul,Nat.add_zero] at c0 c1 c2 c3 c4 c5
    have RC1:=aB (RC.out _ l' PX.out (by have:=LN.out;simp at this;omega))
    go_wp2_with (go_at_call 23;refine(RC1.out).mono ?_;rintro e w5 ⟨rfl,l5,h51,h52⟩;have R5:Hid (WR l (bY c sep ((t.ks.take (0+1)).map er)) l5):=aB (by rw [NX.out];exact W1.out.trans (by simpa using h51));have P5:Hid (PrPost W0.heap.size w b c f l5 w5):=PrPost.trans PX.out h52;clear h51 h52)
    go_roundw
    case rel=>exact⟨0+1,l5,by omega,by go_num,R5.out,P5.out⟩
    case measure=>simp [intOf];omega
   ·have i2:(0:Int) < (k:Int):=by omega
    have AD:=aB (eS PX.out.1 sep (by have:=LN.out;rw [if_neg hk0] at this;omega) hsx)
    go_wp2_with first
     |(go_at_call 51;refine(AD.out).mono ?_;rintro e w4 ⟨rfl,h4⟩;have P4:Hid (PrPost W0.heap.size w b c f (l' ++ sep) w4):=PrPost.trans PX.out h4;have X4:Hid (BoxN w4 wr.heap.size u.f):=h4.2.2 _ _ BX.out (by simp;exact nb) (fun cs fz e=>by cases e);obtain⟨m0,m1,m2,m3,m4,m5⟩:=X4.out.six;simp only [Nat.zero_add] at m1 m2 m3 m4 m5;have RC1:=aB (RC.out _ (l' ++ sep) P4.out (by have:=LN.out;rw [if_neg hk0] at this;rw [List.length_append];omega));clear h4)
     |(go_at_call 23;refine(RC1.out).mono ?_;rintro e w5 ⟨rfl,l5,h51,h52⟩;have R5:Hid (WR l (bY c sep ((t.ks.take (k+1)).map er)) l5):=aB (by rw [NX.out,if_neg hk0];exact W1.out.trans ((WR.refl l' sep).trans h51));have P5:Hid (PrPost W0.heap.size w b c f l5 w5):=PrPost.trans P4.out h52;clear h51 h52)
    go_roundw
    case rel=>exact⟨k+1,l5,by omega,by go_num,R5.out,P5.out⟩
    case measure=>simp [intOf];omega
  ·obtain rfl:k=t.ks.length:=by omega
   have i1:¬ (t.ks.length:Int) < (t.ks.length:Int):=by omega
   go_wp2
   go_end0
   refine⟨rfl,l',?_,P1.out⟩
   have:=W1.out
   rw [List.take_length] at this
   exact this
theorem pD(c:Bool)(t:Tr):prE c (er t)=if t.f.k=2 then dA c t.f.rs else if t.f.k=3 then [94] else if t.f.k=4 then [36] else if t.f.k=5 then bY c [] (t.ks.map er) else if t.f.k=6 then bY c [92,124] (t.ks.map er)
  else if t.f.k=7 then [92,40] ++ bY c [] (t.ks.map er) ++ [92,41] else if t.f.k=8 then 92 :: bB t.f.n.toNat else if t.f.k=9 then bY c [] (t.ks.map er) ++ cD t.f.mn t.f.mx else []:=by
 rw [iI,prE]
theorem zT(c f:Bool)(t:Tr):WrP c f t:=by
 refine Tr.ind (P:=WrP c f) (fun t ih=>?_) t
 intro W0 w b l hT hO hb hG h hl
 have HR:=aB ih
 have HT:=aB hT
 have HO:=aB hO
 have HN:=aB (((aX t).1 hO).1)
 have HG:=aB hG
 have H:=aB h
 have B0:=aB hb
 have hs0:=hb.size
 have HL:=aB hl
 have LG:=aB (qX (BL.kept h ((Below.refl _ _).alloc lz9 (.cells #[.int .i64 t.f.k,.int .i64 t.f.n,.int .i64 t.f.mn,.int .i64 t.f.mx,.slice t.f.rq t.f.rs.length t.f.rc,.slice t.f.kq t.f.kl t.f.kc] 25))))
 have BX:Hid (BoxN (w.alloc (.cells #[.int .i64 t.f.k,.int .i64 t.f.n,.int .i64 t.f.mn,.int .i64 t.f.mx,.slice t.f.rq t.f.rs.length t.f.rc,.slice t.f.kq t.f.kl t.f.kc] 25)) w.heap.size t.f):=aF w _
 have PX:Hid (PrPost W0.heap.size w b c f l (w.alloc (.cells #[.int .i64 t.f.k,.int .i64 t.f.n,.int .i64 t.f.mn,.int .i64 t.f.mx,.slice t.f.rq t.f.rs.length t.f.rc,.slice t.f.kq t.f.kl t.f.kc] 25))):=PrPost.start h (bz9) hs0
 obtain⟨n0,n1,n2,n3,n4,n5⟩:=BX.out.six
 simp only [Nat.zero_add] at n1 n2 n3 n4 n5
 have nb:w.heap.size≠b:=by have:=(PR.cells h).2.2.1;omega
 have hsx:W0.heap.size<=(w.alloc (.cells #[.int .i64 t.f.k,.int .i64 t.f.n,.int .i64 t.f.mn,.int .i64 t.f.mx,.slice t.f.rq t.f.rs.length t.f.rc,.slice t.f.kq t.f.kl t.f.kc] 25)).heap.size:=by simp;omega
 have BWX:Hid (Below W0.heap.size W0 (w.alloc (.cells #[.int .i64 t.f.k,.int .i64 t.f.n,.int .i64 t.f.mn,.int .i64 t.f.mx,.slice t.f.rq t.f.rs.length t.f.rc,.slice t.f.kq t.f.kl t.f.kc] 25))):=hb.trans ((Below.refl _ _).alloc hs0 _)
 have KD:=aB (fun (W:World) (m sep:List UInt8) (hp:PrPost W0.heap.size w b c f m W) (hm:m.length+(bY c sep (t.ks.map er)).length<=140737488355328)=>pW ih sep hT hO (hb.trans hp.2.1) hG hp.1 hm)
 have PE:=aB (pD c t)
 have bxk:=aB (fun (W:World) (m:List UInt8) (hp:PrPost W0.heap.size (w.alloc (.cells #[.int .i64 t.f.k,.int .i64 t.f.n,.int .i64 t.f.mn,.int .i64 t.f.mx,.slice t.f.rq t.f.rs.length t.f.rc,.slice t.f.kq t.f.kl t.f.kc] 25)) b c f m W)=>(show BoxN W w.heap.size t.f from hp.2.2 _ _ BX.out (by simp;exact nb) (fun cs fz e=>by cases e)))
 clear ih hT hO hG h hb hl
 go_enter Tryz.func23,Tryz.ntmps23
 go_upto_region 1 with fail
 generalize (w.alloc (.cells #[.int .i64 t.f.k,.int .i64 t.f.n,.int .i64 t.f.mn,.int .i64 t.f.mx,.slice t.f.rq t.f.rs.length t.f.rc,.slice t.f.kq t.f.kl t.f.kc] 25))=w1 at LG BX PX n0 n1 n2 n3 n4 n5 hsx BWX bxk ⊢
 by_cases hlong:2000 < l.length
 ·have dl:decide (2000 < l.length)=true:=decide_eq_true hlong
  rw [dl] at LG
  have HLG:=aB hlong
  clear dl hlong
  go_wp2_with (go_at_call 24;refine(LG.out).mono ?_;rintro e w2 ⟨rfl,h2⟩;subst w2)
  refine bodyPost_ret (results_none rfl _ _ _) rfl ?_
  exact⟨rfl,l,WR.long HLG.out _,PX.out⟩
 have dl:decide (2000 < l.length)=false:=decide_eq_false hlong
 rw [dl] at LG
 clear dl hlong
 have D2:=PE.out
 by_cases k2:t.f.k=2
 ·rw [if_pos k2] at D2
  have E:=aB D2
  have SR:=aB ((HN.out.set k2).1)
  have NR:=aB ((HT.out.kept BWX.out).node.r)
  have LN:Hid (l.length+(dA c t.f.rs).length<=140737488355328):=aB (by have:=HL.out;rw [D2] at this;exact this)
  obtain⟨e0,e1,lb,-⟩:=PR.cells PX.out.1
  have lw:=aC BX.out
  clear D2
  have PD:Hid (PrPost W0.heap.size w b c f l w1.drew):=PrPost.then PX.out (Below.drew (Below.refl _ _)) hs0
  have ST:=aB (tZ t.f c f (NR.out.kept (Below.drew (Below.refl _ _))) SR.out)
  rw [k2] at ST
  go_upto_region 4 with (go_at_call 24;refine(LG.out).mono ?_;rintro e w2 ⟨rfl,h2⟩;subst w2)
  go_region_with first
   |(go_at_call 52;refine(ST.out).mono ?_;rintro e w3 ⟨rfl,h3⟩;have P3:=aB (PrPost.then PD.out h3 hs0);clear h3)
   |(go_at_call 51;refine(eS P3.out.1 (dA c t.f.rs) LN.out (Nat.le_trans hs0 P3.out.2.1.size)).mono ?_;rintro e w4 ⟨rfl,h4⟩;have P4:=aB (PrPost.trans P3.out h4);clear h4)
  all_goals go_wp2
  all_goals go_end0
  all_goals exact⟨rfl,_,by rw [E.out];exact WR.refl l _,P4.out⟩
 rw [if_neg k2] at D2
 by_cases k3:t.f.k=3
 ·rw [if_pos k3] at D2
  have E:=aB D2
  have LN:=HL.out
  rw [D2] at LN
  have AD:=aB (eS PX.out.1 [94] (by simpa using LN) hsx)
  go_wp2_with first
   |(go_at_call 24;refine(LG.out).mono ?_;rintro e w2 ⟨rfl,h2⟩;subst w2)
   |(go_at_call 51;refine(AD.out).mono ?_;rintro e w3 ⟨rfl,h3⟩;have P3:=aB (PrPost.trans PX.out h3);clear h3)
  go_end0
  exact⟨rfl,_,by rw [E.out];exact WR.refl l [94],P3.out⟩
 rw [if_neg k3] at D2
 by_cases k4:t.f.k=4
 ·rw [if_pos k4] at D2
  have E:=aB D2
  have LN:=HL.out
  rw [D2] at LN
  have AD:=aB (eS PX.out.1 [36] (by simpa using LN) hsx)
  go_wp2_with first
   |(go_at_call 24;refine(LG.out).mono ?_;rintro e w2 ⟨rfl,h2⟩;subst w2)
   |(go_at_call 51;refine(AD.out).mono ?_;rintro e w3 ⟨rfl,h3⟩;have P3:=aB (PrPost.trans PX.out h3);clear h3)
  go_end0
  exact⟨rfl,_,by rw [E.out];exact WR.refl l [36],P3.out⟩
 rw [if_neg k4] at D2
 by_cases k5:t.f.k=5
 ·rw [if_pos k5] at D2
  have E:=aB D2
  have LN:=HL.out
  rw [D2] at LN
  have AD:=aB (KD.out _ l [] PX.out LN)
  rw [k5] at AD
  go_wp2_with first
   |(go_at_call 24;refine(LG.out).mono ?_;rintro e w2 ⟨rfl,h2⟩;subst w2)
   |(go_at_call 53;refine(AD.out).mono ?_;rintro e w3 ⟨rfl,l3,h31,h32⟩;have R3:=aB h31;have P3:=aB (PrPost.trans PX.out h32);clear h31 h32)
  go_end0
  exact⟨rfl,l3,by rw [E.out];exact R3.out,P3.out⟩
 rw [if_neg k5] at D2
 by_cases k6:t.f.k=6
 ·rw [if_pos k6] at D2
  have E:=aB D2
  have LN:=HL.out
  rw [D2] at LN
  have AD:=aB (KD.out _ l [92,124] PX.out LN)
  rw [k6] at AD
  go_wp2_with first
   |(go_at_call 24;refine(LG.out).mono ?_;rintro e w2 ⟨rfl,h2⟩;subst w2)
   |(go_at_call 53;refine(AD.out).mono ?_;rintro e w3 ⟨rfl,l3,h31,h32⟩;have R3:=aB h31;have P3:=aB (PrPost.trans PX.out h32);clear h31 h32)
  go_end0
  exact⟨rfl,l3,by rw [E.out];exact R3.out,P3.out⟩
 rw [if_neg k6] at D2
 by_cases k7:t.f.k=7
 ·rw [if_pos k7] at D2
  have E:=aB D2
  have LN:=HL.out
  rw [D2] at LN
  simp only [List.length_append,List.length_cons,List.length_nil] at LN
  rw [k7] at KD
  have AD:=aB (eS PX.out.1 [92,40] (by simp;omega) hsx)
  go_wp2_with first
   |(go_at_call 24;refine(LG.out).mono ?_;rintro e w2 ⟨rfl,h2⟩;subst w2)
   |(go_at_call 51;refine(eS P4.out.1 [92,41] (by have:=R4.out.len;simp only [List.length_append,List.length_cons,List.length_nil] at this ⊢;omega) (Nat.le_trans hs0 P4.out.2.1.size)).mono ?_;rintro e w5 ⟨rfl,h5⟩;have P5:=aB (PrPost.trans P4.out h5);clear h5)
   |(go_at_call 53;refine(KD.out _ (l ++ [92,40]) [] P3.out (by simp only [List.length_append,List.length_cons,List.length_nil];omega)).mono ?_;rintro e w4 ⟨rfl,l4,h41,h42⟩;have R4:=aB h41;have P4:=aB (PrPost.trans P3.out h42);clear h41 h42)
   |(go_at_call 51;refine(AD.out).mono ?_;rintro e w3 ⟨rfl,h3⟩;have P3:=aB (PrPost.trans PX.out h3);have X3:=aB (bxk.out _ _ h3);obtain⟨m0,m1,m2,m3,m4,m5⟩:=X3.out.six;simp only [Nat.zero_add] at m1 m2 m3 m4 m5;clear h3)
  go_end0
  exact⟨rfl,_,by rw [E.out,List.append_assoc];exact(WR.refl l [92,40]).trans (R4.out.trans (WR.refl l4 [92,41])),P5.out⟩
 rw [if_neg k7] at D2
 by_cases k8:t.f.k=8
 ·rw [if_pos k8] at D2
  have E:=aB D2
  have LN:=HL.out
  rw [D2] at LN
  have hn:=HN.out.back k8
  have IT:=aB (iU (HG.out.kept BWX.out).2.2 (n:=t.f.n) hn.1 (by omega))
  have A1:(⟨#[92]⟩:ByteArray) ++ txt (bB t.f.n.toNat)=txt (92 :: bB t.f.n.toNat):=aI [92] _
  have l9:=cW hn.1 (show t.f.n<=255 by omega)
  have hz:=aD (bB t.f.n.toNat)
  have hz1:(txt (bB t.f.n.toNat)).size<=3:=by omega
  have LN2:=aB LN
  have NS:=aB l9
  clear D2 LN l9 hz hn
  generalize bB t.f.n.toNat=dg at IT A1 hz1 E LN2 NS
  go_wp2_with first
   |(go_at_call 24;refine(LG.out).mono ?_;rintro e w2 ⟨rfl,h2⟩;subst w2)
   |(go_at_call 51;refine(eS P3.out.1 (92 :: dg) LN2.out (Nat.le_trans hs0 P3.out.2.1.size)).mono ?_;rintro e w4 ⟨rfl,h4⟩;have P4:=aB (PrPost.trans P3.out h4);clear h4)
   |(go_at_call 54;refine(IT.out).mono ?_;rintro e w3 ⟨rfl,h3⟩;have P3:=aB (PrPost.then PX.out h3 hs0);clear h3)
  all_goals first |(exfalso;rename_i hh;simp only [aD] at hh;have:=NS.out;omega) | skip
  go_end0
  exact⟨rfl,_,by rw [E.out];exact WR.refl l (92 :: dg),P4.out⟩
 rw [if_neg k8] at D2
 by_cases k9:t.f.k=9
 ·rw [if_pos k9] at D2
  have E:=aB D2
  have LN:=HL.out
  rw [D2] at LN
  simp only [List.length_append] at LN
  have AD:=aB (KD.out _ l [] PX.out (by omega))
  rw [k9] at AD
  have TB:=aB (HN.out.rep k9)
  go_wp2_with first
   |(go_at_call 24;refine(LG.out).mono ?_;rintro e w2 ⟨rfl,h2⟩;subst w2)
   |(go_at_call 51;refine(eS P4.out.1 (cD t.f.mn t.f.mx) (by have:=R3.out.len;omega) (Nat.le_trans hs0 P4.out.2.1.size)).mono ?_;rintro e w5 ⟨rfl,h5⟩;have P5:=aB (PrPost.trans P4.out h5);clear h5)
   |(go_at_call 55;refine(zU (HG.out.kept (B0.out.trans P3.out.2.1)) TB.out).mono ?_;rintro e w4 ⟨rfl,h4⟩;have P4:=aB (PrPost.then P3.out h4 hs0);clear h4)
   |(go_at_call 53;refine(AD.out).mono ?_;rintro e w3 ⟨rfl,l3,h31,h32⟩;have R3:=aB h31;have P3:=aB (PrPost.trans PX.out h32);have X3:=aB (bxk.out _ _ h32);obtain⟨m0,m1,m2,m3,m4,m5⟩:=X3.out.six;simp only [Nat.zero_add] at m1 m2 m3 m4 m5;clear h31 h32)
  go_end0
  exact⟨rfl,_,by rw [E.out];exact R3.out.trans (WR.refl l3 _),P5.out⟩
 rw [if_neg k9] at D2
 have E:=aB D2
 have q2:(t.f.k==2)=false:=by rw [beq_eq_false_iff_ne];exact k2
 have q3:(t.f.k==3)=false:=by rw [beq_eq_false_iff_ne];exact k3
 have q4:(t.f.k==4)=false:=by rw [beq_eq_false_iff_ne];exact k4
 have q5:(t.f.k==5)=false:=by rw [beq_eq_false_iff_ne];exact k5
 have q6:(t.f.k==6)=false:=by rw [beq_eq_false_iff_ne];exact k6
 have q7:(t.f.k==7)=false:=by rw [beq_eq_false_iff_ne];exact k7
 have q8:(t.f.k==8)=false:=by rw [beq_eq_false_iff_ne];exact k8
 have q9:(t.f.k==9)=false:=by rw [beq_eq_false_iff_ne];exact k9
 clear k2 k3 k4 k5 k6 k7 k8 k9 D2
 go_wp2_with (go_at_call 24;refine(LG.out).mono ?_;rintro e w2 ⟨rfl,h2⟩;subst w2)
 go_end0
 exact⟨rfl,l,by rw [E.out];exact WR.none l,PX.out⟩
theorem rF{P:Tr->Prop}(t:Tr):∀ p,(∀ z∈pp p t,P z.2)->bU P t:=by
 refine Tr.ind (P:=fun t=>∀ p,(∀ z∈pp p t,P z.2)->bU P t) (fun t ih p h=>?_) t
 refine(aX t).2 ⟨h (p,t) (by rw [bQ];exact List.mem_cons_self ..),(bD _).2 fun u hu=>?_⟩
 obtain⟨i,hi,e⟩:=List.getElem_of_mem hu
 obtain⟨a,b,hab⟩:=vO (par:=t) (p:=p) (show t.ks[i]?=some u by rw [List.getElem?_eq_getElem hi,e])
 refine ih u hu ((t,i) :: p) fun z hz=>h z ?_
 rw [bQ,hab]
 simp [hz]
theorem tD{c f:Bool}{t:Tr}(h:aS c f 0 0 (pp [] t)=0):Okt c f t:=by
 refine rF t [] fun z hz=>?_
 obtain⟨pre,post,e⟩:=List.append_of_mem hz
 have hk:=eH _ 0 0 h pre z post e
 unfold bI at hk
 split at hk
 ·cases hk
 split at hk
 ·cases hk
 split at hk
 ·cases hk
 rename_i h1
 split at hk
 ·cases hk
 rename_i h2
 have h1':=(Classical.not_not.1 h1).2.1
 unfold aP at h1'
 refine⟨fun q=>?_,fun q=>?_,fun q=>?_,fun q=>?_⟩
 ·rw [if_pos q] at h1';exact h1'.1
 ·rw [if_neg (by omega),if_neg (by omega),if_pos q] at h1';omega
 ·rw [if_neg (by omega),if_neg (by omega),if_neg (by omega),if_pos q] at h1';exact h1'.1
 ·rw [if_neg (by omega),if_pos q] at h1'
  have:¬ 30 < z.2.f.n:=fun x=>h2 ⟨q,x⟩
  have:=h1'.1
  omega
theorem lT{a b:Int}(h:dL a b=true):(cD a b).length<=11:=by
 have hbd:0<=a/\a<=255/\(b=-1\/(a<=b/\b<=255)):=by
  simp only [dL,Bool.and_eq_true,Bool.or_eq_true,decide_eq_true_eq,beq_iff_eq] at h
  omega
 have h1:=cW hbd.1 hbd.2.1
 unfold cD
 split
 ·simp
 split
 ·simp
 split
 ·simp
 split
 ·simp;omega
 split
 ·simp;omega
 ·have h2:=cW (n:=b) (by omega) (by omega)
  simp;omega
theorem uE(c f:Bool)(t:Tr):Okt c f t->(prE c (er t)).length+20<=28000100 * t.sz:=by
 refine Tr.ind (P:=fun t=>Okt c f t->(prE c (er t)).length+20<=28000100 * t.sz) (fun t ih h=>?_) t
 have hn:=((aX t).1 h).1
 have hs:∀ (sep:List UInt8),sep.length<=2->(bY c sep (t.ks.map er)).length<=28000100 * szs t.ks:=by
  intro sep hsep
  have key:∀ (ks:List Tr),(∀ u∈ks,u∈t.ks)->(fT c sep (ks.map er)).length<=28000100 * szs ks:=by
   intro ks
   induction ks with
   | nil=>intro _;simp [fT,szs]
   | cons u ks ih2=>
    intro hm
    have h1:=ih u (hm u (List.mem_cons_self ..)) (cT h (hm u (List.mem_cons_self ..)))
    have h2:=ih2 (fun v hv=>hm v (List.mem_cons_of_mem _ hv))
    rw [List.map_cons,fT,fW,List.length_append,List.length_append]
    omega
  have:(bY c sep (t.ks.map er)).length<=(fT c sep (t.ks.map er)).length:=by
   cases t.ks with
   | nil=>simp [bY]
   | cons u ks=>rw [List.map_cons,bY,fT];simp only [List.length_append];omega
  exact Nat.le_trans this (key t.ks fun _ q=>q)
 have e0:=hs [] (by simp)
 have e1:=hs [92,124] (by simp)
 rw [pD,lE]
 split
 ·rename_i q
  have:=gM (hn.set q).1
  omega
 split
 ·simp;omega
 split
 ·simp;omega
 split
 ·omega
 split
 ·omega
 split
 ·simp only [List.length_append,List.length_cons,List.length_nil];omega
 split
 ·rename_i q
  have:=hn.back q
  have:=cW (n:=t.f.n) this.1 (by omega)
  rw [List.length_cons];omega
 split
 ·rename_i q
  have:=lT (hn.rep q)
  rw [List.length_append];omega
 ·simp;omega
noncomputable def dZ (c f:Bool) (t:Tr):List UInt8 × Int:=
 if aS c f 0 0 (pp [] t)≠0 then ([],aS c f 0 0 (pp [] t)) else if 2000 < (prE c (er t)).length then ([],30) else (prE c (er t),0)
theorem mE{c f:Bool}{t:Tr}(h:aS c f 0 0 (pp [] t)=0):(prE c (er t)).length<=60000000000:=by
 have h1:=uE c f t (tD h)
 have h2:t.sz<=2000:=by rw [<- dM t []];exact gU h
 have:28000100 * t.sz<=28000100 * 2000:=Nat.mul_le_mul_left _ h2
 omega
theorem oD{w:World}{t:Tr}(c f:Bool)(hT:TB w t)(hG:Glb w) :
  Calls Tryz.prog 10 #[.agg #[.int .i64 t.f.k,.int .i64 t.f.n,.int .i64 t.f.mn,.int .i64 t.f.mx,.slice t.f.rq t.f.rs.length t.f.rc,.slice t.f.kq t.f.kl t.f.kc],.agg #[.bool c,.bool f]] w fun e w'=>e=.returned (.tuple #[.string (txt (dZ c f t).1),.int .i64 (dZ c f t).2])/\Below w.heap.size w w':=by
 have HT:=aB hT
 have HG:=aB hG
 have B1:Hid (Below w.heap.size w ((w.alloc (.cells #[.int .i64 t.f.k,.int .i64 t.f.n,.int .i64 t.f.mn,.int .i64 t.f.mx,.slice t.f.rq t.f.rs.length t.f.rc,.slice t.f.kq t.f.kl t.f.kc] 25)).alloc (.cells #[.bool c,.bool f] 27))):=(bz9).alloc (by simp) _
 have X1:Hid (BoxN ((w.alloc (.cells #[.int .i64 t.f.k,.int .i64 t.f.n,.int .i64 t.f.mn,.int .i64 t.f.mx,.slice t.f.rq t.f.rs.length t.f.rc,.slice t.f.kq t.f.kl t.f.kc] 25)).alloc (.cells #[.bool c,.bool f] 27)) w.heap.size t.f):=(Below.heap_alloc _ _ _ (by simp)).trans (aF w _)
 have X2:Hid (((w.alloc (.cells #[.int .i64 t.f.k,.int .i64 t.f.n,.int .i64 t.f.mn,.int .i64 t.f.mx,.slice t.f.rq t.f.rs.length t.f.rc,.slice t.f.kq t.f.kl t.f.kc] 25)).alloc (.cells #[.bool c,.bool f] 27)).heap[w.heap.size+1]?=some (.cells #[.bool c,.bool f] 27 (0,0))):=aB (by have:=aF (w.alloc (.cells #[.int .i64 t.f.k,.int .i64 t.f.n,.int .i64 t.f.mn,.int .i64 t.f.mx,.slice t.f.rq t.f.rs.length t.f.rc,.slice t.f.kq t.f.kl t.f.kc] 25)) (.cells #[.bool c,.bool f] 27);simpa using this)
 obtain⟨out,ho⟩:∃ o,dZ c f t=o:=⟨_,rfl⟩
 have HO:=aB ho
 rw [ho]
 clear hT hG ho
 go_enter Tryz.func10,Tryz.ntmps10
 go_upto_region 1 with fail
 generalize ((w.alloc (.cells #[.int .i64 t.f.k,.int .i64 t.f.n,.int .i64 t.f.mn,.int .i64 t.f.mx,.slice t.f.rq t.f.rs.length t.f.rc,.slice t.f.kq t.f.kl t.f.kc] 25)).alloc (.cells #[.bool c,.bool f] 27))=w1 at B1 X1 X2 ⊢
 obtain⟨n0,n1,n2,n3,n4,n5⟩:=X1.out.six
 simp only [Nat.zero_add] at n1 n2 n3 n4 n5
 have a0:=aA X2.out (i:=0) rfl
 have a1:=aA X2.out (i:=1) rfl
 have RT:=aB (qL c f (HT.out.kept B1.out))
 obtain⟨r,hr⟩:∃ r,aS c f 0 0 (pp [] t)=r:=⟨_,rfl⟩
 have HR:=aB hr
 rw [hr] at RT
 clear hr
 by_cases hr0:r=0
 ·subst hr0
  have OK:=aB (tD HR.out)
  have RM:=aB (mE HR.out)
  go_upto_region 4 with (go_at_call 11;refine(RT.out).mono ?_;rintro e w2 ⟨rfl,h2⟩;have B2:=aB (aG B1.out h2 lz9);have Y1:Hid (BoxN w2 w.heap.size t.f):=(h2.block _ (aC X1.out)).trans X1.out;have Y2:Hid (w2.heap[w.heap.size+1]?=some (.cells #[.bool c,.bool f] 27 (0,0))):=(h2.block _ (aC X2.out)).trans X2.out;clear h2)
  obtain⟨m0,m1,m2,m3,m4,m5⟩:=Y1.out.six
  simp only [Nat.zero_add] at m1 m2 m3 m4 m5
  have b0:=aA Y2.out (i:=0) rfl
  have b1:=aA Y2.out (i:=1) rfl
  have PRN:Hid (PR w2.heap.size (w2.alloc (.cells #[.bool c,.bool f,.pointer none,.slice none 0 0] 56)) w2.heap.size c f []):=⟨.pointer none,.slice none 0 0,aF w2 _,.inl rfl,⟨rfl,.inl ⟨rfl,rfl⟩⟩,fun _=>rfl,Nat.le_refl _⟩
  go_upto_region 5 with fail
  have Z1:Hid (BoxN (w2.alloc (.cells #[.bool c,.bool f,.pointer none,.slice none 0 0] 56)) w.heap.size t.f):=(Below.heap_alloc _ _ _ (aC Y1.out)).trans Y1.out
  have B3:Hid (Below w2.heap.size w2 (w2.alloc (.cells #[.bool c,.bool f,.pointer none,.slice none 0 0] 56))):=bz9
  have WT:=aB (zT c f t w2 _ w2.heap.size [] (HT.out.kept B2.out) OK.out B3.out (HG.out.kept B2.out) PRN.out (by have:=RM.out;simp;omega))
  obtain⟨z0,z1,z2,z3,z4,z5⟩:=Z1.out.six
  simp only [Nat.zero_add] at z1 z2 z3 z4 z5
  generalize (w2.alloc (.cells #[.bool c,.bool f,.pointer none,.slice none 0 0] 56))=w3 at PRN Z1 B3 WT z0 z1 z2 z3 z4 z5 ⊢
  go_upto_region 6 with (go_at_call 23;refine(WT.out).mono ?_;rintro e w4 ⟨rfl,l4,h41,h42⟩;have R4:=aB h41;have P4:=aB h42;have B4:=aB (aG B2.out (B3.out.trans h42.2.1) lz9);clear h41 h42)
  have LG:=aB (qX P4.out.1)
  have SG:=aB (qB P4.out.1)
  by_cases hlong:2000 < l4.length
  ·rw [decide_eq_true hlong] at LG
   have E:Hid (out=([],30)):=by
    refine aB ?_
    rw [<- HO.out]
    unfold dZ
    rw [if_neg (by rw [HR.out];simp),if_pos]
    rcases R4.out with q | ⟨_,q,_⟩
    ·rw [q] at hlong;simpa using hlong
    ·simpa using q
   clear hlong
   go_wp2_with (go_at_call 24;refine(LG.out).mono ?_;rintro e w5 ⟨rfl,h5⟩;subst w5)
   go_ret2
   refine⟨?_,B4.out⟩
   rw [E.out]
   rfl
  ·rw [decide_eq_false hlong] at LG
   have E:Hid (out=(l4,0)):=by
    refine aB ?_
    rw [<- HO.out]
    unfold dZ
    have q:l4=prE c (er t):=by
     rcases R4.out with q | ⟨q,_,_⟩
     ·simpa using q
     ·exact absurd q hlong
    rw [if_neg (by rw [HR.out];simp),if_neg (by rw [<- q];exact hlong),q]
   clear hlong
   go_wp2_with first
    |(go_at_call 24;refine(LG.out).mono ?_;rintro e w5 ⟨rfl,h5⟩;subst w5)
    |(go_at_call 25;refine(SG.out).mono ?_;rintro e w6 ⟨rfl,h6,-⟩;have B6:=aB (aG B2.out (B3.out.trans (P4.out.2.1.trans h6)) lz9);clear h6)
   go_ret2
   refine⟨?_,B6.out⟩
   rw [E.out]
   rfl
 ·have E:Hid (out=([],r)):=by
   refine aB ?_
   rw [<- HO.out]
   unfold dZ
   rw [HR.out,if_pos hr0]
  have q0:(r != 0)=true:=by simpa using hr0
  have q1:(r==0)=false:=by simpa using hr0
  clear hr0
  go_wp2_with (go_at_call 11;refine(RT.out).mono ?_;rintro e w2 ⟨rfl,h2⟩;have B2:=aB (aG B1.out h2 lz9);clear h2)
  go_ret2
  refine⟨?_,B2.out⟩
  rw [E.out]
  rfl
structure Okd(c f:Bool)(t:Tr):Prop where
 k:1<=t.f.k/\t.f.k<=9
 ok:Okn c f t.f
 leaf:t.f.k=1\/t.f.k=2\/t.f.k=3\/t.f.k=4\/t.f.k=8->t.ks=[]
 few:t.f.rs.length<=1048576
def Oke(c f:Bool)(t:Tr):Prop:=bU (Okd c f) t
theorem Oke.okt{c f:Bool}{t:Tr}(h:Oke c f t):Okt c f t:=eZ (fun _ q=>q.ok) t h
theorem Oke.node{c f:Bool}{t:Tr}(h:Oke c f t):Okd c f t:=((aX t).1 h).1
def sP(k:Int):List UInt8:=if k=6 then [92,124] else []
theorem wU{c f:Bool}{t:Tr}(h:Oke c f t)(hs:t.sz<=2000):(bY c (sP t.f.k) (t.ks.map er)).length<=56000200000:=by
 have h1:=uE c f t h.okt
 have h2:28000100 * t.sz<=28000100 * 2000:=Nat.mul_le_mul_left _ hs
 rw [pD] at h1
 obtain⟨hk,-,hl,-⟩:=h.node
 by_cases q:t.ks=[]
 ·rw [q,List.map_nil,bY];simp
 have hk':t.f.k=5\/t.f.k=6\/t.f.k=7\/t.f.k=9:=Classical.byContradiction fun z=>q (hl (by omega))
 rcases hk' with e | e | e | e <;> simp [e,sP] at h1 ⊢ <;> omega
structure TX(w:World)(t:Tr)(m:Md)(W:World):Prop where
 nd:BoxN W w.heap.size t.f
 md:W.heap[w.heap.size+1]?=some (.cells #[.bool m.c,.bool m.f] 27 (0,0))
 bel:Below w.heap.size w W
 ta:TB W t
theorem TX.kept{w:World}{t:Tr}{m:Md}{W W':World}(h:TX w t m W)(hb:Below W.heap.size W W'):TX w t m W':=
 ⟨(hb.block _ (aC h.nd)).trans h.nd,(hb.block _ (aC h.md)).trans h.md,aG h.bel hb lz9,h.ta.kept hb⟩
theorem TX.drew{w:World}{t:Tr}{m:Md}{W:World}(h:TX w t m W):TX w t m W.drew:=h.kept (Below.refl _ _).drew
theorem TX.new{w:World}{t:Tr}(m:Md)(h:TB w t):TX w t m ((w.alloc (.cells #[.int .i64 t.f.k,.int .i64 t.f.n,.int .i64 t.f.mn,.int .i64 t.f.mx,.slice t.f.rq t.f.rs.length t.f.rc,.slice t.f.kq t.f.kl t.f.kc] 25)).alloc (.cells #[.bool m.c,.bool m.f] 27)):=
 have B:Below w.heap.size w ((w.alloc (.cells #[.int .i64 t.f.k,.int .i64 t.f.n,.int .i64 t.f.mn,.int .i64 t.f.mx,.slice t.f.rq t.f.rs.length t.f.rc,.slice t.f.kq t.f.kl t.f.kc] 25)).alloc (.cells #[.bool m.c,.bool m.f] 27)):=(bz9).alloc (by simp) _
 ⟨(Below.heap_alloc _ _ _ (by simp)).trans (aF w _),by have:=aF (w.alloc (.cells #[.int .i64 t.f.k,.int .i64 t.f.n,.int .i64 t.f.mn,.int .i64 t.f.mx,.slice t.f.rq t.f.rs.length t.f.rc,.slice t.f.kq t.f.kl t.f.kc] 25)) (.cells #[.bool m.c,.bool m.f] 27);rwa [World.size_alloc] at this,B,h.kept B⟩
abbrev uV(m:Md)(t:Tr):Prop:=∀ w:World,TB w t->Calls Tryz.prog 45 #[.agg #[.int .i64 t.f.k,.int .i64 t.f.n,.int .i64 t.f.mn,.int .i64 t.f.mx,.slice t.f.rq t.f.rs.length t.f.rc,.slice t.f.kq t.f.kl t.f.kc],.agg #[.bool m.c,.bool m.f]] w fun e w'=>e=.returned (.string (txt (prE m.c (er t))))/\Below w.heap.size w w'
theorem uY{m:Md}{t:Tr}(hO:Oke m.c m.f t)(hs:t.sz<=2000)(hrec:∀ u∈t.ks,uV m u):uV m t:=by
 intro w hT
 obtain⟨O,hO9⟩:∃ O,prE m.c (er t)=O:=⟨_,rfl⟩
 have HO9:=aB hO9
 rw [hO9]
 clear hO9
 have HR:=aB hrec
 have L1:=aB (TX.new m hT)
 have hlen:=wU hO hs
 have HN:=aB hO.node
 obtain⟨sep,hsep⟩:∃ s,sP t.f.k=s:=⟨_,rfl⟩
 rw [hsep] at hlen
 have HL:=aB hlen
 have EO:Hid (O=if t.f.k=2 then dA m.c t.f.rs else if t.f.k=3 then [94] else if t.f.k=4 then [36] else if t.f.k=7 then [92,40] ++ bY m.c sep (t.ks.map er) ++ [92,41] else if t.f.k=8 then [92] ++ bB t.f.n.toNat else if t.f.k=9 then bY m.c sep (t.ks.map er) ++ cD t.f.mn t.f.mx else bY m.c sep (t.ks.map er)):=by
  refine aB ?_
  rw [<- HO9.out,pD,<- hsep]
  have hk:=HN.out.k
  have h9:t.f.k=1\/t.f.k=2\/t.f.k=3\/t.f.k=4\/t.f.k=5\/t.f.k=6\/t.f.k=7\/t.f.k=8\/t.f.k=9:=by omega
  rcases h9 with e | e | e | e | e | e | e | e | e <;> simp [e,sP]
  rw [HN.out.leaf (.inl e),List.map_nil,bY]
 have KL:=aB hT.node.kl
 have hksz:t.ks.length<=2000:=by have h1:=uK t.ks;rw [lE] at hs;omega
 clear hrec hO hs hT hlen
 go_enter Tryz.func45,Tryz.ntmps45
 go_upto_region 1 with fail
 generalize ((w.alloc (.cells #[.int .i64 t.f.k,.int .i64 t.f.n,.int .i64 t.f.mn,.int .i64 t.f.mx,.slice t.f.rq t.f.rs.length t.f.rc,.slice t.f.kq t.f.kl t.f.kc] 25)).alloc (.cells #[.bool m.c,.bool m.f] 27))=w1 at L1 ⊢
 go_wp2
 go_loopw [5,6] (fun s i wr=>∃ k:Nat,k<=t.ks.length/\i=.int .i64 (k:Int)/\s=.string (txt (bY m.c sep ((t.ks.take k).map er)))/\TX w t m wr) (fun _ i _=>t.ks.length - (intOf i).toNat)
 case atStart=>exact⟨0,Nat.zero_le _,rfl,by rw [List.take_zero,List.map_nil,bY];rfl,L1.out⟩
 case round=>
  obtain⟨k,hk,rfl,rfl,hB⟩:=hrel
  have K:=aB hB
  clear hB
  obtain⟨n0,n1,n2,n3,n4,n5⟩:=K.out.nd.six
  simp only [Nat.zero_add] at n1 n2 n3 n4 n5
  have a0:=aA K.out.md (i:=0) rfl
  have a1:=aA K.out.md (i:=1) rfl
  have l1:=aC K.out.nd
  have l2:=aC K.out.md
  obtain⟨A,hA⟩:∃ A,bY m.c sep ((t.ks.take k).map er)=A:=⟨_,rfl⟩
  have HA:=aB hA
  have hpre:=mF m.c sep ((t.ks.take k).map er) ((t.ks.drop k).map er)
  rw [<- List.map_append,List.take_append_drop,hA] at hpre
  have hAl:A.length<=56000200000:=Nat.le_trans hpre HL.out
  rw [hA]
  clear hA hpre
  by_cases hlt:k < t.ks.length
  ·obtain⟨u,hu⟩:∃ u,t.ks[k]?=some u:=⟨_,List.getElem?_eq_getElem hlt⟩
   have inu:u∈t.ks:=List.mem_of_getElem? hu
   obtain⟨q,cap,e1,hm1,hcp1,hx1⟩:=K.out.ta.node.k.slice
   injection e1 with e11 e12 e13
   obtain⟨g,o,eq,hg,six⟩:=hx1 k u hu
   rw [e11,KL.out,eq] at n5
   obtain⟨c0,c1,c2,c3,c4,c5⟩:=six
   have i0:(0:Int)<=(k:Int):=by omega
   have i1:(k:Int) < (t.ks.length:Int):=by omega
   have hwr:IntKind.wrap .i64 ((k:Int)+1)=(k:Int)+1:=wrap_small _ (by omega) (by omega)
   have NX:Hid (bY m.c sep ((t.ks.take (k+1)).map er)=A ++ ((if k=0 then [] else sep) ++ prE m.c (er u))):=by
    refine aB ?_
    rw [List.take_add_one,hu,List.map_append]
    show bY m.c sep ((t.ks.take k).map er ++ [er u])=_
    rw [oE,HA.out]
    congr 2
    have:((t.ks.take k).map er=[]) ↔ k=0:=by
     rw [List.map_eq_nil_iff,List.take_eq_nil_iff]
     constructor
     ·rintro (q | q)
      ·exact q
      ·rw [q] at hlt;simp at hlt
     ·exact fun q=>.inl q
    simp only [this]
   have LN:A.length+((if k=0 then [] else sep).length+(prE m.c (er u)).length)<=56000200000:=by
    have h2:=mF m.c sep ((t.ks.take (k+1)).map er) ((t.ks.drop (k+1)).map er)
    rw [<- List.map_append,List.take_append_drop,NX.out] at h2
    simp only [List.length_append] at h2
    have:=HL.out
    omega
   have RC:=aB (HR.out u inu _ (K.out.drew.ta.kid inu))
   have TU:=aB (K.out.ta.kid inu)
   clear hu e11 e12 e13 eq hx1 hm1 hcp1 HA
   generalize prE m.c (er u)=D at RC NX LN
   have z1:(txt A).size<=56000200000:=by rw [aD];exact hAl
   have z2:(txt D).size<=56000200000:=by rw [aD];omega
   by_cases hp:k=0\/t.f.k≠6
   ·have NY:Hid (bY m.c sep ((t.ks.take (k+1)).map er)=A ++ D):=by
     refine aB ?_
     rw [NX.out]
     rcases hp with e | e
     ·rw [if_pos e];rfl
     ·rw [<- hsep,sP,if_neg e];split <;> rfl
    clear NX
    have NX:=NY
    have A1:txt A ++ txt D=txt (A ++ D):=aI _ _
    generalize A ++ D=P at A1 NX
    by_cases e0:k=0
    ·subst e0
     simp only [Nat.zero_mul,Nat.add_zero] at c0 c1 c2 c3 c4 c5
     go_upto_region 7 with fail
     go_region_with (go_at_call 45;refine(RC.out).mono ?_;rintro e w6 ⟨rfl,h6⟩;have K6:=aB (K.out.drew.kept h6);clear h6)
     all_goals first |(exfalso;rename_i hh;simp only [aD] at hh;omega) | skip
     all_goals go_wp2
     all_goals first |(exfalso;rename_i hh;simp only [aD] at hh;omega) | skip
     all_goals (
      go_roundw
      case rel=>exact⟨0+1,by omega,by go_num,by rw [NX.out],K6.out⟩
      case measure=>simp [intOf];omega)
    ·have g0:decide ((0:Int) < (k:Int))=true:=decide_eq_true (by omega)
     have q6:(t.f.k==6)=false:=by simpa using hp.resolve_left e0
     go_upto_region 7 with fail
     go_region_with (go_at_call 45;refine(RC.out).mono ?_;rintro e w6 ⟨rfl,h6⟩;have K6:=aB (K.out.drew.kept h6);clear h6)
     all_goals first |(exfalso;rename_i hh;simp only [aD] at hh;omega) | skip
     all_goals go_wp2
     all_goals first |(exfalso;rename_i hh;simp only [aD] at hh;omega) | skip
     all_goals (
      go_roundw
      case rel=>exact⟨k+1,by omega,by go_num,by rw [NX.out],K6.out⟩
      case measure=>simp [intOf];omega)
   ·have h6:¬ k=0/\t.f.k=6:=by omega
    have NY:Hid (bY m.c sep ((t.ks.take (k+1)).map er)=A ++ [92,124] ++ D):=by
     refine aB ?_
     rw [NX.out,if_neg h6.1,<- hsep,sP,if_pos h6.2]
     simp
    have l9:A.length+2+D.length<=56000200000:=by rw [if_neg h6.1,<- hsep,sP,if_pos h6.2] at LN;simp at LN;omega
    clear NX
    have NX:=NY
    have A1:txt A ++ (⟨#[92,124]⟩:ByteArray)=txt (A ++ [92,124]):=aI _ [92,124]
    have A2:txt (A ++ [92,124]) ++ txt D=txt (A ++ [92,124] ++ D):=aI _ _
    have z3:(txt (A ++ [92,124])).size<=56000200002:=by rw [aD];simp;omega
    generalize A ++ [92,124] ++ D=P at A2 NX
    generalize A ++ [92,124]=P1 at A1 A2 z3
    have g0:decide ((0:Int) < (k:Int))=true:=decide_eq_true (by omega)
    have q6:(t.f.k==6)=true:=by simpa using h6.2
    have e0:¬ k=0:=h6.1
    clear h6 hp
    go_upto_region 7 with fail
    all_goals first |(exfalso;rename_i hh;simp only [aD] at hh;omega) | skip
    go_region_with (go_at_call 45;refine(RC.out).mono ?_;rintro e w6 ⟨rfl,h6⟩;have K6:=aB (K.out.drew.kept h6);clear h6)
    all_goals first |(exfalso;rename_i hh;simp only [aD] at hh;omega) | skip
    all_goals go_wp2
    all_goals first |(exfalso;rename_i hh;simp only [aD] at hh;omega) | skip
    all_goals (
     go_roundw
     case rel=>exact⟨k+1,by omega,by go_num,by rw [NX.out],K6.out⟩
     case measure=>simp [intOf];omega)
  ·obtain rfl:k=t.ks.length:=by omega
   rw [List.take_length] at HA
   rw [HA.out] at EO
   rw [KL.out] at n5
   have hk9:t.f.k=1\/t.f.k=2\/t.f.k=3\/t.f.k=4\/t.f.k=5\/t.f.k=6\/t.f.k=7\/t.f.k=8\/t.f.k=9:=by have:=HN.out.k;omega
   have z1:(txt A).size<=56000200000:=by rw [aD];exact hAl
   have CS:Hid (t.f.k=2->Calls Tryz.prog 21 #[.slice t.f.rq t.f.rs.length t.f.rc,.agg #[.bool m.c,.bool m.f]] wr fun e w'=>e=.returned (.tuple #[.string (txt (dA m.c t.f.rs)),.int .i64 0])/\Below wr.heap.size wr w'):=fun e=>oB m K.out.ta.node.r K.out.ta.node.fit (by have:=HN.out.few;omega) (HN.out.ok.set e).1
   have BK:Hid (t.f.k=8->Calls Tryz.prog 94 #[.int .i64 t.f.n] wr (fun e w'=>e=.returned (.string (txt (bB t.f.n.toNat)))/\Below wr.heap.size wr w')/\(bB t.f.n.toNat).length<=3):=fun e=>by
    have h1:=HN.out.ok.back e
    exact⟨cY h1.1 (by omega) wr,cW h1.1 (by omega)⟩
   have RP:Hid (t.f.k=9->Calls Tryz.prog 95 #[.int .i64 t.f.mn,.int .i64 t.f.mx] wr (fun e w'=>e=.returned (.string (txt (cD t.f.mn t.f.mx)))/\Below wr.heap.size wr w')/\(cD t.f.mn t.f.mx).length<=20):=fun e=>⟨vT (HN.out.ok.rep e) wr,Nat.le_trans (lT (HN.out.ok.rep e)) (by decide)⟩
   clear HR HL HA HN L1
   rcases hk9 with e | e | e | e | e | e | e | e | e
   ·rw [e] at EO n0
    have E:Hid (O=A):=EO.out
    clear EO CS BK RP e
    go_wp2
    go_ret
    exact⟨by rw [E.out];rfl,K.out.bel⟩
   ·have C2:=aB (CS.out e)
    rw [e] at EO n0
    have E:Hid (O=dA m.c t.f.rs):=EO.out
    clear EO CS BK RP e
    go_wp2_with (go_at_call 21;refine(C2.out).mono ?_;rintro e w6 ⟨rfl,h6⟩;have K6:=aB (K.out.kept h6);clear h6)
    go_ret
    exact⟨by rw [E.out];rfl,K6.out.bel⟩
   ·rw [e] at EO n0
    have E:Hid (O=[94]):=EO.out
    clear EO CS BK RP e
    go_wp2
    go_ret
    exact⟨by rw [E.out];rfl,K.out.bel⟩
   ·rw [e] at EO n0
    have E:Hid (O=[36]):=EO.out
    clear EO CS BK RP e
    go_wp2
    go_ret
    exact⟨by rw [E.out];rfl,K.out.bel⟩
   ·rw [e] at EO n0
    have E:Hid (O=A):=EO.out
    clear EO CS BK RP e
    go_wp2
    go_ret
    exact⟨by rw [E.out];rfl,K.out.bel⟩
   ·rw [e] at EO n0
    have E:Hid (O=A):=EO.out
    clear EO CS BK RP e
    go_wp2
    go_ret
    exact⟨by rw [E.out];rfl,K.out.bel⟩
   ·rw [e] at EO n0
    have E:Hid (O=[92,40] ++ A ++ [92,41]):=EO.out
    clear EO CS BK RP e
    have A1:(⟨#[92,40]⟩:ByteArray) ++ txt A=txt ([92,40] ++ A):=aI [92,40] A
    have A2:txt ([92,40] ++ A) ++ (⟨#[92,41]⟩:ByteArray)=txt ([92,40] ++ A ++ [92,41]):=aI _ [92,41]
    have z2:(txt ([92,40] ++ A)).size<=56000200002:=by rw [aD];simp;omega
    rw [<- E.out] at A2
    generalize [92,40] ++ A=D1 at A1 A2 z2
    go_wp2
    all_goals first |(exfalso;rename_i hh;simp only [aD] at hh;omega) | skip
    go_ret
    exact⟨rfl,K.out.bel⟩
   ·obtain⟨b1,b2⟩:=BK.out e
    have C2:=aB b1
    rw [e] at EO n0
    have E:Hid (O=[92] ++ bB t.f.n.toNat):=EO.out
    clear EO CS BK RP e b1
    generalize bB t.f.n.toNat=D at C2 b2 E
    have z2:(txt D).size<=3:=by rw [aD];exact b2
    have A1:(⟨#[92]⟩:ByteArray) ++ txt D=txt ([92] ++ D):=aI [92] D
    rw [<- E.out] at A1
    go_wp2_with (go_at_call 94;refine(C2.out).mono ?_;rintro e w6 ⟨rfl,h6⟩;have K6:=aB (K.out.kept h6);clear h6)
    all_goals first |(exfalso;rename_i hh;simp only [aD] at hh;omega) | skip
    go_ret
    exact⟨rfl,K6.out.bel⟩
   ·obtain⟨b1,b2⟩:=RP.out e
    have C2:=aB b1
    rw [e] at EO n0
    have E:Hid (O=A ++ cD t.f.mn t.f.mx):=EO.out
    clear EO CS BK RP e b1
    generalize cD t.f.mn t.f.mx=D at C2 b2 E
    have z2:(txt D).size<=20:=by rw [aD];exact b2
    have A1:txt A ++ txt D=txt (A ++ D):=aI _ _
    rw [<- E.out] at A1
    go_wp2_with (go_at_call 95;refine(C2.out).mono ?_;rintro e w6 ⟨rfl,h6⟩;have K6:=aB (K.out.kept h6);clear h6)
    all_goals first |(exfalso;rename_i hh;simp only [aD] at hh;omega) | skip
    go_ret
    exact⟨rfl,K6.out.bel⟩
theorem wV{m:Md}(t:Tr):Oke m.c m.f t->t.sz<=2000->uV m t:=by
 refine Tr.ind (P:=fun t=>Oke m.c m.f t->t.sz<=2000->uV m t) (fun t ih hO hs=>?_) t
 exact uY hO hs fun u hu=>ih u hu (cT hO hu) (by have:=dX hu;omega)
section
attribute [local go_sem] bC
theorem kJ(s:ByteArray):(dT s).length<=4 * s.size:=by
 have key:∀ (f p:Nat),p<=s.size->(dU s (dF s f p)).length<=4 * (s.size - p):=by
  intro f
  induction f with
  | zero=>intro p _;simp [dF,dU]
  | succ f ih=>
   intro p hp
   by_cases h:p < s.size
   ·rw [iK s f p h]
    have h1:=oX s p
    have h2:=(pZ s p h).2
    have h3:=ih (p+wd s p) h2
    have e:dU s ((p,ch s p) :: dF s f (p+wd s p))=shU s p ++ dU s (dF s f (p+wd s p)):=by simp [dU]
    rw [e,List.length_append]
    omega
   ·rw [kG s _ p h];simp [dU]
 have:=key s.size 0 (Nat.zero_le _)
 unfold dT us
 omega
def eO(c:Bool)(k n mn mx:Int)(rs:List (Int × Int)):List UInt8:=
 if k=2 then [115,101,116,32] ++ dT (txt (dA c rs)) else if k=3 then [98,101,103,105,110] else if k=4 then [101,110,100] else if k=5 then [99,97,116] else if k=6 then [97,108,116]
 else if k=7 then [103,114,111,117,112,32] ++ bB n.toNat else if k=8 then [98,97,99,107,32] ++ bB n.toNat
 else if k=9 then [114,101,112,32] ++ bB mn.toNat ++ [32] ++ (if mx=-1 then [45] else bB mx.toNat) else [101,109,112,116,121]
theorem rM{w:World}(F:Fl)(c f:Bool)(h:ArgR w (.slice F.rq F.rs.length F.rc) F.rs)(hN:Okn c f F)(hG:Glb w) :
  Calls Tryz.prog 38 #[.agg #[.int .i64 F.k,.int .i64 F.n,.int .i64 F.mn,.int .i64 F.mx,.slice F.rq F.rs.length F.rc,.slice F.kq F.kl F.kc],.agg #[.bool c,.bool f]] w fun e w'=>e=.returned (.string (txt (eO c F.k F.n F.mn F.mx F.rs)))/\Below w.heap.size w w':=by
 have HA:=aB h
 have HN:=aB hN
 have HG:=aB hG
 have B1:Hid (Below w.heap.size w ((w.alloc (.cells #[.int .i64 F.k,.int .i64 F.n,.int .i64 F.mn,.int .i64 F.mx,.slice F.rq F.rs.length F.rc,.slice F.kq F.kl F.kc] 25)).alloc (.cells #[.bool c,.bool f] 27))):=(bz9).alloc (by simp) _
 have X1:Hid (BoxN ((w.alloc (.cells #[.int .i64 F.k,.int .i64 F.n,.int .i64 F.mn,.int .i64 F.mx,.slice F.rq F.rs.length F.rc,.slice F.kq F.kl F.kc] 25)).alloc (.cells #[.bool c,.bool f] 27)) w.heap.size F):=(Below.heap_alloc _ _ _ (by simp)).trans (aF w _)
 have X2:Hid (((w.alloc (.cells #[.int .i64 F.k,.int .i64 F.n,.int .i64 F.mn,.int .i64 F.mx,.slice F.rq F.rs.length F.rc,.slice F.kq F.kl F.kc] 25)).alloc (.cells #[.bool c,.bool f] 27)).heap[w.heap.size+1]?=some (.cells #[.bool c,.bool f] 27 (0,0))):=aB (by have:=aF (w.alloc (.cells #[.int .i64 F.k,.int .i64 F.n,.int .i64 F.mn,.int .i64 F.mx,.slice F.rq F.rs.length F.rc,.slice F.kq F.kl F.kc] 25)) (.cells #[.bool c,.bool f] 27);simpa using this)
 obtain⟨out,ho⟩:∃ o,eO c F.k F.n F.mn F.mx F.rs=o:=⟨_,rfl⟩
 rw [ho]
 unfold eO at ho
 clear h hN hG
 go_enter Tryz.func38,Tryz.ntmps38
 go_upto_region 1 with fail
 generalize ((w.alloc (.cells #[.int .i64 F.k,.int .i64 F.n,.int .i64 F.mn,.int .i64 F.mx,.slice F.rq F.rs.length F.rc,.slice F.kq F.kl F.kc] 25)).alloc (.cells #[.bool c,.bool f] 27))=w1 at B1 X1 X2 ⊢
 obtain⟨n0,n1,n2,n3,n4,n5⟩:=X1.out.six
 simp only [Nat.zero_add] at n1 n2 n3 n4 n5
 have a0:=aA X2.out (i:=0) rfl
 have a1:=aA X2.out (i:=1) rfl
 have l1:=aC X1.out
 by_cases k2:F.k=2
 ·rw [if_pos k2] at ho
  have S:=(HN.out.set k2).1
  have ST:=aB (tZ F c f (HA.out.kept B1.out) S)
  rw [k2] at ST
  have L1:=gM S
  have L2:=kJ (txt (dA c F.rs))
  rw [aD] at L2
  have L3:(dT (txt (dA c F.rs))).length<=112000000:=by omega
  have SH:=aB (fun (W:World) (hW:Below w.heap.size w W)=>zY (txt (dA c F.rs)) W (HG.out.kept hW).1 (by rw [aD];omega))
  have E:=aB ho
  clear ho L1 L2 S
  generalize dT (txt (dA c F.rs))=D at SH L3 E
  have hz:=aD D
  have hz1:(txt D).size<=112000000:=by omega
  have A1:(⟨#[115,101,116,32]⟩:ByteArray) ++ txt D=txt ([115,101,116,32] ++ D):=aI [115,101,116,32] D
  go_wp2_with first
   |(go_at_call 52;refine(ST.out).mono ?_;rintro e w2 ⟨rfl,h2⟩;have B2:=aB (aG B1.out h2 lz9);clear h2)
   |(go_at_call 85;refine(SH.out _ B2.out).mono ?_;rintro e w3 ⟨rfl,h3⟩;have B3:=aB (aG B2.out h3 lz9);clear h3)
  all_goals first |(exfalso;rename_i hh;simp only [aD] at hh;omega) | skip
  go_ret
  exact⟨by rw [<- E.out];rfl,B3.out⟩
 rw [if_neg k2] at ho
 by_cases k3:F.k=3
 ·rw [if_pos k3] at ho
  subst ho
  go_wp2
  go_ret
  exact⟨rfl,B1.out⟩
 rw [if_neg k3] at ho
 by_cases k4:F.k=4
 ·rw [if_pos k4] at ho
  subst ho
  go_wp2
  go_ret
  exact⟨rfl,B1.out⟩
 rw [if_neg k4] at ho
 by_cases k5:F.k=5
 ·rw [if_pos k5] at ho
  subst ho
  go_wp2
  go_ret
  exact⟨rfl,B1.out⟩
 rw [if_neg k5] at ho
 by_cases k6:F.k=6
 ·rw [if_pos k6] at ho
  subst ho
  go_wp2
  go_ret
  exact⟨rfl,B1.out⟩
 rw [if_neg k6] at ho
 by_cases k7:F.k=7
 ·rw [if_pos k7] at ho
  have hn:=HN.out.grp k7
  have IT:=aB (iU (HG.out.kept B1.out).2.2 (n:=F.n) hn.1 (by omega))
  have L3:=cW hn.1 (show F.n<=255 by omega)
  have E:=aB ho
  clear ho hn
  generalize bB F.n.toNat=D at IT L3 E
  have hz:=aD D
  have hz1:(txt D).size<=3:=by omega
  have A1:(⟨#[103,114,111,117,112,32]⟩:ByteArray) ++ txt D=txt ([103,114,111,117,112,32] ++ D):=aI _ D
  go_wp2_with (go_at_call 54;refine(IT.out).mono ?_;rintro e w2 ⟨rfl,h2⟩;have B2:=aB (aG B1.out h2 lz9);clear h2)
  all_goals first |(exfalso;rename_i hh;simp only [aD] at hh;omega) | skip
  go_ret
  exact⟨by rw [<- E.out];rfl,B2.out⟩
 rw [if_neg k7] at ho
 by_cases k8:F.k=8
 ·rw [if_pos k8] at ho
  have hn:=HN.out.back k8
  have IT:=aB (iU (HG.out.kept B1.out).2.2 (n:=F.n) hn.1 (by omega))
  have L3:=cW hn.1 (show F.n<=255 by omega)
  have E:=aB ho
  clear ho hn
  generalize bB F.n.toNat=D at IT L3 E
  have hz:=aD D
  have hz1:(txt D).size<=3:=by omega
  have A1:(⟨#[98,97,99,107,32]⟩:ByteArray) ++ txt D=txt ([98,97,99,107,32] ++ D):=aI _ D
  go_wp2_with (go_at_call 54;refine(IT.out).mono ?_;rintro e w2 ⟨rfl,h2⟩;have B2:=aB (aG B1.out h2 lz9);clear h2)
  all_goals first |(exfalso;rename_i hh;simp only [aD] at hh;omega) | skip
  go_ret
  exact⟨by rw [<- E.out];rfl,B2.out⟩
 rw [if_neg k8] at ho
 by_cases k9:F.k=9
 ·rw [if_pos k9] at ho
  have hb:=HN.out.rep k9
  have hbd:0<=F.mn/\F.mn<=255/\(F.mx=-1\/(0<=F.mx/\F.mx<=255)):=by
   simp only [dL,Bool.and_eq_true,Bool.or_eq_true,decide_eq_true_eq,beq_iff_eq] at hb
   omega
  have L3:=cW hbd.1 hbd.2.1
  have L4:(if F.mx=-1 then [45] else bB F.mx.toNat:List UInt8).length<=3:=by
   split
   ·simp
   ·exact cW (by omega) (by omega)
  have Q1:Hid (∀ z:Ext w1,Calls Tryz.prog 54 #[.int .i64 F.mn] z.val fun e w''=>e=.returned (.string (txt (bB F.mn.toNat)))/\∃ y:Ext w1,w''=y.val):=fun z=>cJ (iU (HG.out.kept (aG B1.out (gZ z) lz9)).2.2 hbd.1 hbd.2.1)
  have Q2:Hid (∀ z:Ext w1,Calls Tryz.prog 86 #[.int .i64 F.mx] z.val fun e w''=>e=.returned (.string (txt (if F.mx=-1 then [45] else bB F.mx.toNat)))/\∃ y:Ext w1,w''=y.val):=fun z=>cJ (aE9 (HG.out.kept (aG B1.out (gZ z) lz9)).2.2 hbd.2.2)
  have E:=aB ho
  clear ho hb hbd
  generalize bB F.mn.toNat=D at Q1 L3 E
  generalize (if F.mx=-1 then [45] else bB F.mx.toNat:List UInt8)=D2 at Q2 L4 E
  have z1:(txt D).size<=3:=by rw [aD];exact L3
  have z2:(txt D2).size<=3:=by rw [aD];exact L4
  have z3:(txt ([114,101,112,32] ++ D)).size<=7:=by rw [aD];simp;omega
  have z4:(txt ([114,101,112,32] ++ D ++ [32])).size<=8:=by rw [aD];simp;omega
  have A1:(⟨#[114,101,112,32]⟩:ByteArray) ++ txt D=txt ([114,101,112,32] ++ D):=aI _ D
  have A2:txt ([114,101,112,32] ++ D) ++ (⟨#[32]⟩:ByteArray)=txt ([114,101,112,32] ++ D ++ [32]):=aI _ [32]
  have A3:txt ([114,101,112,32] ++ D ++ [32]) ++ txt D2=txt ([114,101,112,32] ++ D ++ [32] ++ D2):=aI _ D2
  generalize ([114,101,112,32] ++ D:List UInt8)=T1 at z3 z4 A1 A2 A3 E
  generalize T1 ++ [32]=T2 at z4 A2 A3 E
  generalize T2 ++ D2=T3 at A3 E
  generalize txt D=d1 at *
  generalize txt D2=d2 at *
  generalize txt T1=t1 at *
  generalize txt T2=t2 at *
  have f1:¬ 9223372036854775807 < (⟨#[114,101,112,32]⟩:ByteArray).size+d1.size:=by show ¬ 9223372036854775807 < 4+d1.size;omega
  have f1b:¬ 9223372036854775807 < 4+d1.size:=by omega
  have f2:¬ 9223372036854775807 < t1.size+(⟨#[32]⟩:ByteArray).size:=by show ¬ 9223372036854775807 < t1.size+1;omega
  have f2b:¬ 9223372036854775807 < t1.size+1:=by omega
  have f3:¬ 9223372036854775807 < t2.size+d2.size:=by omega
  clear z1 z2 z3 z4 L3 L4
  go_upto_region 17 with fail
  refine wx9 ?_
  repeat (go_big_quiet_step (first | exact rfl |(go_at_call 54;with_reducible exact Q1.out _) |(go_at_call 86;with_reducible exact Q2.out _)))
  refine wpQuiet_nil ?_
  intro w5 hw5
  have B5:=aB (aG B1.out (aM hw5) lz9)
  clear hw5
  go_wp2
  go_ret
  exact⟨by rw [<- E.out];rfl,B5.out⟩
 rw [if_neg k9] at ho
 subst ho
 have q2:(F.k==2)=false:=by rw [beq_eq_false_iff_ne];exact k2
 have q3:(F.k==3)=false:=by rw [beq_eq_false_iff_ne];exact k3
 have q4:(F.k==4)=false:=by rw [beq_eq_false_iff_ne];exact k4
 have q5:(F.k==5)=false:=by rw [beq_eq_false_iff_ne];exact k5
 have q6:(F.k==6)=false:=by rw [beq_eq_false_iff_ne];exact k6
 have q7:(F.k==7)=false:=by rw [beq_eq_false_iff_ne];exact k7
 have q8:(F.k==8)=false:=by rw [beq_eq_false_iff_ne];exact k8
 have q9:(F.k==9)=false:=by rw [beq_eq_false_iff_ne];exact k9
 clear k2 k3 k4 k5 k6 k7 k8 k9
 go_wp2
 go_ret
 exact⟨rfl,B1.out⟩
end
end Go.Proofs.YticfnglebbakkaaGreatDoor
