/-
  Parts of the proof.
-/
import Derived.Test.YticfnglebbakkaaGreatDoorApartProofB16
import Derived.Test.YticfnglebbakkaaGreatDoorApartProofB0
import Derived.Test.YticfnglebbakkaaGreatDoorApartProofB9
import Derived.Test.YticfnglebbakkaaGreatDoorApartProofB12
set_option maxRecDepth 100000
set_option maxHeartbeats 8000000
namespace Go.Proofs.YticfnglebbakkaaGreatDoor
open Go Go.RowKit
section
attribute [local go_sem] bD
theorem jR(w:World)(l:List Int)(hl:l.length<=1000):RO w.heap.size (w.alloc (.cells (rns l).toArray 21)) (.slice (some ⟨w.heap.size,0,none⟩) l.length l.length) l:=
 ⟨by rw [nX];omega,.inr ⟨w.heap.size,_,_,rfl,Nat.le_refl _,aE w _,Nat.le_refl _,by unfold maxLen;omega,by simp [nX],by simp [rns,List.take_of_length_le]⟩⟩
theorem aC6(x:Int)(w:World):Calls Tryz.prog 91 #[.int .i32 x] w fun e w'=>∃ v,e=.returned v/\RO w.heap.size w' v (cF x)/\Below w.heap.size w w':=by
 cases hs:spA x with
 | true=>
  have E:Hid (cF x=[92,x]):=by show cF x=_;unfold cF;rw [hs];rfl
  have hx:x=46\/x=91\/x=42\/x=94\/x=36\/x=92:=by simp only [spA,Bool.or_eq_true,beq_iff_eq] at hs;omega
  clear hs
  rcases hx with rfl | rfl | rfl | rfl | rfl | rfl
  all_goals
   go_enter Tryz.func91,Tryz.ntmps91
   go_wp2
   go_ret
   exact⟨_,rfl,by rw [E.out];exact jR w [92,_] (by simp),bz9⟩
 | false=>
  have E:Hid (cF x=[x]):=by show cF x=_;unfold cF;rw [hs];rfl
  simp only [spA,Bool.or_eq_false_iff] at hs
  obtain⟨⟨⟨⟨⟨h1,h2⟩,h3⟩,h4⟩,h5⟩,h6⟩:=hs
  go_enter Tryz.func91,Tryz.ntmps91
  go_wp2
  go_ret
  exact⟨_,rfl,by rw [E.out];exact jR w [x] (by simp),bz9⟩
theorem iR{w:World}(c:Bool):Calls Tryz.prog 88 #[.slice none 0 0,.bool c] w fun e w'=>∃ v,e=.returned v/\RR w.heap.size w' v (cG c)/\Below w.heap.size w w':=by
 refine(aJ2 (w:=w) (L:=[]) (m:=c) (.inl ⟨none,0,rfl,rfl,fun _=>rfl⟩) (fun r hr=>by cases hr) (by simp)).mono ?_
 rintro e w' ⟨v,C,rfl,h1,h2,h3,h4⟩
 have:C=cG c:=h2.one (kA c) (fun x=>⟨fun q=>q.1,fun q=>⟨q,dG x⟩⟩)
 subst this
 exact⟨v,rfl,h1,h4⟩
theorem uB(c:Bool):(cG c).length<=2/\cG c≠[]:=by cases c <;> simp [cG]
theorem kX{c:Bool}{r:Int × Int}(h:fD c r):0<=r.1/\r.1<=1114111/\0<=r.2/\r.2<=1114111:=by
 obtain⟨⟨a,b,-⟩,⟨d,e,-⟩,-⟩:=h
 unfold top at b e
 cases c <;> simp only [if_true,Bool.false_eq_true,if_false] at b e <;> omega
theorem nK{w:World}{v:Value}{L:List (Int × Int)}(c f:Bool)(h:ArgR w v L)(hS:IsC L (fun x=>In L x/\aJ c x)) :
  Calls Tryz.prog 42 #[v,.agg #[.bool c,.bool f]] w fun e w'=>∃ v',e=.returned v'/\RO w.heap.size w' v' (cU c L)/\Below w.heap.size w w':=by
 have hlen:L.length<=600000:=iO hS
 have hbd:∀ r∈L,0<=r.1/\r.1<=1114111/\0<=r.2/\r.2<=1114111:=fun r hr=>kX (eD (f:=false) ⟨hS,fun q=>by cases q⟩ r hr)
 have HS:Hid (IsC L (fun x=>In L x/\aJ c x)):=hS
 have HBD:Hid (∀ r∈L,0<=r.1/\r.1<=1114111/\0<=r.2/\r.2<=1114111):=hbd
 have HA:Hid (ArgR w v L):=h
 have hal:=uB c
 obtain⟨q,cap,rfl,-,-,hcells⟩:=h.slice
 have HC:Hid (∀ (i:Nat) (r:Int × Int),L[i]?=some r->∃ g off,q=some ⟨g,off,none⟩/\g < w.heap.size/\w.cell? ⟨g,off+2 * i,none⟩=some (.int .i64 r.1)/\w.cell? ⟨g,off+2 * i+1,none⟩=some (.int .i64 r.2)):=hcells
 have FitL:Hid (Fit L):=hS.fit
 clear h hS hbd hcells
 by_cases c1:L=[]
 ·subst c1
  have E:Hid (cU c []=[91,94] ++ cI (cG c) ++ [93]):=by show cU c []=_;unfold cU;rw [if_pos rfl]
  go_enter Tryz.func42,Tryz.ntmps42
  go_wp2_with first
   |(go_at_call 88;(with_reducible refine(iR c).mono ?_);rintro e w2 ⟨va,rfl,h21,h22⟩;have A2:Hid (ArgR w2 va (cG c)):=h21.arg;have B2:Hid (Below w.heap.size w w2):=aF (bz9) h22 lz9;clear h21 h22)
   |(go_at_call 89;refine(fN (W0:=w2) (L:=cG c) (a:=[91,94]) A2.out (bz9) (jR w2 [91,94] (by simp)) (by omega) (by simp) (fun r hr=>kX (jZ c r hr))).mono ?_;rintro e w3 ⟨v3,rfl,h31,h32⟩;have O3:Hid (RO w.heap.size w3 v3 ([91,94] ++ cI (cG c) ++ [93])):=bH h31 B2.out.size;have B3:Hid (Below w.heap.size w w3):=aF B2.out h32 lz9;clear h31 h32)
  go_ret
  exact⟨_,rfl,by rw [E.out];exact O3.out,B3.out⟩
 have hpos:0 < L.length:=List.length_pos_iff.2 c1
 have n0:((L.length:Int)==0)=false:=by rw [beq_eq_false_iff_ne];omega
 have z0:(L.length==0)=false:=by rw [beq_eq_false_iff_ne];omega
 by_cases c2:L=cG c
 ·have E:Hid (cU c L=[46]):=by show cU c L=_;unfold cU;rw [if_neg c1,if_pos c2]
  have HQ:Hid (∀ x,In L x ↔ In (cG c) x):=by show ∀ x,In L x ↔ In (cG c) x;rw [c2];exact fun _=>Iff.rfl
  clear c2 c1
  go_enter Tryz.func42,Tryz.ntmps42
  go_wp2_with first
   |(go_at_call 88;(with_reducible refine(iR c).mono ?_);rintro e w2 ⟨va,rfl,h21,h22⟩;have A2:Hid (ArgR w2 va (cG c)):=h21.arg;have B2:Hid (Below w.heap.size w w2):=aF (bz9) h22 lz9;clear h21 h22)
   |(go_at_call 90;refine(uH (HA.out.kept B2.out) A2.out FitL.out (kA c).fit (by omega) (by omega) HQ.out).mono ?_;rintro e w3 ⟨rfl,h3⟩;have B3:Hid (Below w.heap.size w w3):=aF B2.out h3 lz9;clear h3)
  go_ret
  exact⟨_,rfl,by rw [E.out];exact bH (jR w3 [46] (by simp)) B3.out.size,B3.out.alloc B3.out.size _⟩
 have HQ:Hid (¬ ∀ x,In L x ↔ In (cG c) x):=fun q=>c2 (iJ _ _ HS.out.cls (kA c).cls q)
 by_cases c3:L.length=1/\(L.headD (0,0)).1=(L.headD (0,0)).2
 ·have E:Hid (cU c L=cF (L.headD (0,0)).1):=by show cU c L=_;unfold cU;rw [if_neg c1,if_neg c2,if_pos c3]
  obtain⟨⟨x,y⟩,rfl⟩:∃ r,L=[r]:=by
   match L,c3.1 with
   | [r],_=>exact⟨r,rfl⟩
  obtain rfl:x=y:=c3.2
  obtain⟨g,off,rfl,hg,d1,d2⟩:=HC.out 0 (x,x) rfl
  obtain⟨b0,b1,-⟩:=HBD.out (x,x) (by simp)
  have hw32:=rD b0 b1
  simp only [Nat.mul_zero,Nat.add_zero] at d1 d2
  clear c1 c2 c3 HC b0 b1
  go_enter Tryz.func42,Tryz.ntmps42
  go_upto_region 6 with first
   |(go_at_call 88;(with_reducible refine(iR c).mono ?_);rintro e w2 ⟨va,rfl,h21,h22⟩;have A2:Hid (ArgR w2 va (cG c)):=h21.arg;have B2:Hid (Below w.heap.size w w2):=aF (bz9) h22 lz9;clear h21 h22)
   |(go_at_call 90;refine(hZ (HA.out.kept B2.out) A2.out FitL.out (kA c).fit (by omega) (by omega) HQ.out).mono ?_;rintro e w3 ⟨rfl,h3⟩;have B3:Hid (Below w.heap.size w w3):=aF B2.out h3 lz9;clear h3)
  have k1:=(B3.out.cell (p:=⟨g,off,none⟩) hg).trans d1
  have k2:=(B3.out.cell (p:=⟨g,off+1,none⟩) hg).trans d2
  have hg3:g < w3.heap.size:=Nat.lt_of_lt_of_le hg B3.out.size
  refine wx9 ?_
  repeat (go_big_quiet_step (first | exact rfl))
  refine wpQuiet_nil ?_
  intro w4 hw
  have k3:=((aW hw).cell (p:=⟨g,off,none⟩) hg3).trans k1
  have hg4:g < w4.heap.size:=Nat.lt_of_lt_of_le hg3 (aW hw).size
  have B4:Hid (Below w.heap.size w w4):=aF B3.out (aW hw) lz9
  clear hw k1 k2 d1 d2
  go_wp2_with (go_at_call 91;(with_reducible refine(aC6 _ _).mono ?_);rintro e w5 ⟨v5,rfl,h51,h52⟩;have O5:Hid (RO w.heap.size w5 v5 (cF x)):=bH h51 B4.out.size;have B5:Hid (Below w.heap.size w w5):=aF B4.out h52 lz9;clear h51 h52)
  go_ret
  exact⟨_,rfl,by rw [E.out];exact O5.out,B5.out⟩
 ·have E:Hid (cU c L=[91] ++ cI L ++ [93]):=by show cU c L=_;unfold cU;rw [if_neg c1,if_neg c2,if_neg c3]
  by_cases c4:L.length=1
  ·obtain⟨⟨x,y⟩,rfl⟩:∃ r,L=[r]:=by
    match L,c4 with
    | [r],_=>exact⟨r,rfl⟩
   have hxy:(x==y)=false:=by rw [beq_eq_false_iff_ne];exact fun e=>c3 ⟨rfl,e⟩
   obtain⟨g,off,rfl,hg,d1,d2⟩:=HC.out 0 (x,y) rfl
   simp only [Nat.mul_zero,Nat.add_zero] at d1 d2
   clear c1 c2 c3 c4 HC
   go_enter Tryz.func42,Tryz.ntmps42
   go_upto_region 6 with first
    |(go_at_call 88;(with_reducible refine(iR c).mono ?_);rintro e w2 ⟨va,rfl,h21,h22⟩;have A2:Hid (ArgR w2 va (cG c)):=h21.arg;have B2:Hid (Below w.heap.size w w2):=aF (bz9) h22 lz9;clear h21 h22)
    |(go_at_call 90;refine(hZ (HA.out.kept B2.out) A2.out FitL.out (kA c).fit (by omega) (by omega) HQ.out).mono ?_;rintro e w3 ⟨rfl,h3⟩;have B3:Hid (Below w.heap.size w w3):=aF B2.out h3 lz9;clear h3)
   have k1:=(B3.out.cell (p:=⟨g,off,none⟩) hg).trans d1
   have k2:=(B3.out.cell (p:=⟨g,off+1,none⟩) hg).trans d2
   have hg3:g < w3.heap.size:=Nat.lt_of_lt_of_le hg B3.out.size
   refine wx9 ?_
   repeat (go_big_quiet_step (first | exact rfl))
   refine wpQuiet_nil ?_
   intro w4 hw
   have B4:Hid (Below w.heap.size w w4):=aF B3.out (aW hw) lz9
   clear hw k1 k2 d1 d2
   go_wp2_with (go_at_call 89;refine(fN (W0:=w4) (L:=[(x,y)]) (a:=[91]) (HA.out.kept B4.out) (bz9) (jR w4 [91] (by simp)) hlen (by simp) HBD.out).mono ?_;rintro e w5 ⟨v5,rfl,h51,h52⟩;have O5:Hid (RO w.heap.size w5 v5 ([91] ++ cI [(x,y)] ++ [93])):=bH h51 B4.out.size;have B5:Hid (Below w.heap.size w w5):=aF B4.out h52 lz9;clear h51 h52)
   go_ret
   exact⟨_,rfl,by rw [E.out];exact O5.out,B5.out⟩
  ·have n1:((L.length:Int)==1)=false:=by rw [beq_eq_false_iff_ne];omega
   have z1:(L.length==1)=false:=by rw [beq_eq_false_iff_ne];omega
   clear c1 c2 c3 c4 HC
   go_enter Tryz.func42,Tryz.ntmps42
   go_upto_region 6 with first
    |(go_at_call 88;(with_reducible refine(iR c).mono ?_);rintro e w2 ⟨va,rfl,h21,h22⟩;have A2:Hid (ArgR w2 va (cG c)):=h21.arg;have B2:Hid (Below w.heap.size w w2):=aF (bz9) h22 lz9;clear h21 h22)
    |(go_at_call 90;refine(hZ (HA.out.kept B2.out) A2.out FitL.out (kA c).fit (by omega) (by omega) HQ.out).mono ?_;rintro e w3 ⟨rfl,h3⟩;have B3:Hid (Below w.heap.size w w3):=aF B2.out h3 lz9;clear h3)
   refine wx9 ?_
   repeat (go_big_quiet_step (first | exact rfl))
   refine wpQuiet_nil ?_
   intro w4 hw
   have B4:Hid (Below w.heap.size w w4):=aF B3.out (aW hw) lz9
   clear hw
   go_wp2_with (go_at_call 89;refine(fN (W0:=w4) (L:=L) (a:=[91]) (HA.out.kept B4.out) (bz9) (jR w4 [91] (by simp)) hlen (by simp) HBD.out).mono ?_;rintro e w5 ⟨v5,rfl,h51,h52⟩;have O5:Hid (RO w.heap.size w5 v5 ([91] ++ cI L ++ [93])):=bH h51 B4.out.size;have B5:Hid (Below w.heap.size w w5):=aF B4.out h52 lz9;clear h51 h52)
   go_ret
   exact⟨_,rfl,by rw [E.out];exact O5.out,B5.out⟩
theorem iK{c:Bool}{L:List (Int × Int)}(hS:IsC L (fun x=>In L x/\aJ c x)):(∀ x∈cU c L,aJ c x)/\(cU c L).length<=7000000:=by
 have hlen:L.length<=600000:=iO hS
 have low:∀ x:Int,0<=x->x < 128->aJ c x:=fun x h0 h1=>by unfold aJ top;cases c <;> simp <;> omega
 have hr:=eD (f:=false) ⟨hS,fun q=>by cases q⟩
 have he:∀ y,aJ c y->∀ x∈bK y,aJ c x:=by
  intro y hy x hx
  unfold bK at hx
  split at hx
  ·simp only [List.mem_cons,List.not_mem_nil,or_false] at hx
   rcases hx with rfl | rfl | rfl | rfl | rfl
   ·exact low _ (by decide) (by decide)
   ·exact low _ (by decide) (by decide)
   ·exact hy
   ·exact low _ (by decide) (by decide)
   ·exact low _ (by decide) (by decide)
  ·rw [List.mem_singleton] at hx;subst hx;exact hy
 have ho:∀ r,fD c r->∀ x∈fY r,aJ c x:=by
  intro r h x hx
  unfold fY at hx
  rcases List.mem_append.1 hx with q | q
  ·exact he _ h.1 x q
  ·split at q
   ·rcases List.mem_cons.1 q with rfl | q
    ·exact low _ (by decide) (by decide)
    ·exact he _ h.2.1 x q
   ·cases q
 have hR:∀ (l:List (Int × Int)),(∀ r∈l,fD c r)->∀ x∈cI l,aJ c x:=by
  intro l
  induction l with
  | nil=>intro _ x hx;rw [cI] at hx;cases hx
  | cons r l ih=>
   intro h x hx
   rw [cI] at hx
   rcases List.mem_append.1 hx with q | q
   ·exact ho r (h r (List.mem_cons_self ..)) x q
   ·exact ih (fun y hy=>h y (List.mem_cons_of_mem _ hy)) x q
 have ha:=uB c
 have la:=kY (cG c)
 have ll:=kY L
 unfold cU
 split
 ·refine⟨fun x hx=>?_,by simp;omega⟩
  simp only [List.append_assoc,List.mem_append,List.mem_cons,List.not_mem_nil,or_false] at hx
  rcases hx with (rfl | rfl) | q | rfl
  ·exact low _ (by decide) (by decide)
  ·exact low _ (by decide) (by decide)
  ·exact hR _ (jZ c) x q
  ·exact low _ (by decide) (by decide)
 split
 ·refine⟨fun x hx=>?_,by simp⟩
  rw [List.mem_singleton] at hx;subst hx
  exact low _ (by decide) (by decide)
 split
 ·rename_i h1 h2 h3
  obtain⟨r,rfl⟩:∃ r,L=[r]:=by
   match L,h3.1 with
   | [r],_=>exact⟨r,rfl⟩
  have hc:=(hr r (by simp)).1
  show (∀ x∈cF r.1,aJ c x)/\(cF r.1).length<=7000000
  unfold cF
  split
  ·refine⟨fun x hx=>?_,by simp⟩
   simp only [List.mem_cons,List.not_mem_nil,or_false] at hx
   rcases hx with rfl | rfl
   ·exact low _ (by decide) (by decide)
   ·exact hc
  ·refine⟨fun x hx=>?_,by simp⟩
   rw [List.mem_singleton] at hx;subst hx
   exact hc
 ·refine⟨fun x hx=>?_,by simp;omega⟩
  simp only [List.append_assoc,List.mem_append,List.mem_cons,List.not_mem_nil,or_false] at hx
  rcases hx with rfl | q | rfl
  ·exact low _ (by decide) (by decide)
  ·exact hR _ hr x q
  ·exact low _ (by decide) (by decide)
theorem lQ{c:Bool}{L:List (Int × Int)}(hS:IsC L (fun x=>In L x/\aJ c x)):(bF c L).length<=28000000:=by
 have:=xY c (cU c L)
 have:=(iK hS).2
 unfold bF
 omega
theorem sK{w:World}{v:Value}{L:List (Int × Int)}(c f:Bool)(h:ArgR w v L)(hF:Fit L)(hl:L.length+3<=8796093022208)(hS:¬ IsC L (fun x=>In L x/\aJ c x)) :
  Calls Tryz.prog 15 #[v,.agg #[.bool c,.bool f]] w fun e w'=>e=.returned (.tuple #[.string (txt []),.int .i64 50])/\Below w.heap.size w w':=by
 have HA:Hid (ArgR w v L/\Fit L):=⟨h,hF⟩
 have HS:Hid (¬ IsC L (fun x=>In L x/\aJ c x)):=hS
 clear h hF hS
 go_enter Tryz.func15,Tryz.ntmps15
 go_wp2_with (go_at_call 40;refine(kN (m:=c) (HA.out.1.kept (bz9)) HA.out.2 hl).mono ?_;rintro e w2 ⟨b,rfl,h21,h22⟩;obtain rfl:b=false:=(by cases b with | false=>rfl | true=>exact absurd (h21.1 rfl) HS.out);have B2:Hid (Below w.heap.size w w2):=aF (bz9) h22 lz9;clear h21 h22)
 go_ret2
 exact⟨rfl,B2.out⟩
theorem nJ{w:World}{v:Value}{L:List (Int × Int)}(c f:Bool)(h:ArgR w v L)(hS:IsC L (fun x=>In L x/\aJ c x)) :
  Calls Tryz.prog 15 #[v,.agg #[.bool c,.bool f]] w fun e w'=>e=.returned (.tuple #[.string (txt (bF c L)),.int .i64 0])/\Below w.heap.size w w':=by
 have HA:Hid (ArgR w v L):=h
 have HS:Hid (IsC L (fun x=>In L x/\aJ c x)):=hS
 have hlen:L.length<=600000:=iO hS
 have HR:Hid ((∀ x∈cU c L,aJ c x)/\(cU c L).length<=7000000):=iK hS
 have E:Hid (aR c (cU c L)=bF c L):=rfl
 obtain⟨qv,cv,rfl,-⟩:=h.slice
 clear h hS
 go_enter Tryz.func15,Tryz.ntmps15
 go_upto_region 3 with (go_at_call 40;refine(kN (m:=c) (HA.out.kept (bz9)) HS.out.fit (by omega)).mono ?_;rintro e w2 ⟨b,rfl,h21,h22⟩;obtain rfl:b=true:=h21.2 HS.out;have B2:Hid (Below w.heap.size w w2):=aF (bz9) h22 lz9;have X2:Hid (w2.heap[w.heap.size]?=some (.cells #[.bool c,.bool f] 27 (0,0))):=(h22.block _ (by simp)).trans (aE w _);clear h21 h22)
 have a0:=aC X2.out (i:=0) rfl
 have a1:=aC X2.out (i:=1) rfl
 have hl2:=aA X2.out
 go_region_with first
  |(go_at_call 42;refine(nK c f (HA.out.kept (B2.out.drew)) HS.out).mono ?_;rintro e w3 ⟨v3,rfl,h31,h32⟩;have O3:Hid (RO w2.heap.size w3 v3 (cU c L)):=h31;have B3:Hid (Below w.heap.size w w3):=aF B2.out.drew h32 lz9;have X3:Hid (w3.heap[w.heap.size]?=some (.cells #[.bool c,.bool f] 27 (0,0))):=(h32.block _ hl2).trans X2.out;have a30:=aC X3.out (i:=0) rfl;have a31:=aC X3.out (i:=1) rfl;obtain⟨q3,k3,rfl⟩:=aI h31;clear h31 h32)
  |(go_at_call 41;refine(mK c f O3.out HR.out.1 (Nat.le_trans HR.out.2 (by decide))).mono ?_;rintro e w4 ⟨rfl,h4⟩;have B4:Hid (Below w.heap.size w w4):=aF B3.out h4 lz9;clear h4)
 all_goals go_wp2
 all_goals (go_ret2;exact⟨rfl,B4.out⟩)
end
section
open Go
def cA(a b:Int):List UInt8:=
 if a=0/\b=-1 then [42] else if a=1/\b=-1 then [92,43] else if a=0/\b=1 then [92,63]
 else [92,123] ++ aN a.toNat ++ (if b=a then [] else if b=-1 then [44] else 44 :: aN b.toNat) ++ [92,125]
def sgB(c:Bool):Sgn->List UInt8
 | .lf k n rs=>if k=2 then bF c rs else if k=3 then [94] else if k=4 then [36] else 92 :: aN n.toNat
 | .op _=>[92,40]
 | .cl=>[92,41]
 | .al=>[92,124]
 | .rp a b=>cA a b
def prS(c:Bool)(L:List Sgn):List UInt8:=L.flatMap (sgB c)
theorem gA(c:Bool)(x:Sgn)(L:List Sgn):prS c (x :: L)=sgB c x ++ prS c L:=by simp [prS]
theorem gO(c:Bool)(a b:List Sgn):prS c (a ++ b)=prS c a ++ prS c b:=by simp [prS]
def kF:Sgn->Nat
 | .lf k _ _=>if k=2 then 1 else if k=3 then 7 else if k=4 then 8 else 6
 | .op _=>3
 | .cl=>4
 | .al=>5
 | .rp _ _=>2
def gD:Option Sgn->Nat
 | none=>0
 | some x=>kF x
theorem zY{s:ByteArray}{A R X:List UInt8}{a:Nat}{b:Int}(ha:a<=255)(hb:b=-1\/((a:Int)<=b/\b<=255))(hX:X=if b=a then [] else if b=-1 then [44] else 44 :: aN b.toNat)
  (h:s.data.toList=A ++ ([92,123] ++ aN a ++ X ++ [92,125] ++ R)):lH s A.length=.ok (gU a b,A.length+(2+(aN a).length+X.length+2)):=by
 have n1:kK (aN a)=a:=by rw [gB a a lz9];omega
 have p1:=pX a
 have h1:s.data.toList=(A ++ [92,123]) ++ (aN a ++ (X ++ 92 :: 125 :: R)):=by rw [h];simp
 have h2:s.data.toList=(A ++ [92,123] ++ aN a) ++ (X ++ 92 :: 125 :: R):=by rw [h];simp
 have h3:s.data.toList=(A ++ [92,123] ++ aN a ++ X) ++ (92 :: 125 :: R):=by rw [h];simp
 have l1:A.length+2=(A ++ [92,123]).length:=by simp
 have l2:A.length+2+(aN a).length=(A ++ [92,123] ++ aN a).length:=by simp;omega
 have l3:A.length+2+(aN a).length+X.length=(A ++ [92,123] ++ aN a ++ X).length:=by simp;omega
 have d1:jD s (A.length+2)=aN a:=by
  rw [l1,oN h1]
  have hd:=gC a a lz9
  have:∃ y r,X ++ 92 :: 125 :: R=y :: r/\dig y=false:=by
   rw [hX]
   split
   ·exact⟨92,_,rfl,by decide⟩
   ·split
    ·exact⟨44,_,rfl,by decide⟩
    ·exact⟨44,_,rfl,by decide⟩
  obtain⟨y,r,e,hy⟩:=this
  rw [e,eQ y hy _ _ hd]
 have e1:ivQ s A.length=A.length+2+(aN a).length:=by unfold ivQ;rw [d1]
 have c2:aX s (A.length+2+(aN a).length+X.length) [92,125]=true:=by rw [l3,aP h3];simp [List.isPrefixOf]
 have fin:∀ (hr:ivR s A.length=A.length+2+(aN a).length+X.length) (hv:ivB s A.length=b),lH s A.length=.ok (gU a b,A.length+(2+(aN a).length+X.length+2)):=fun hr hv=>by
  unfold lH
  rw [d1,hr,c2,n1,hv,if_neg (by rintro (q | q);omega;cases q),if_neg (by omega)]
  refine congrArg Except.ok (Prod.ext rfl ?_)
  simp only
  omega
 by_cases q1:b=a
 ·rw [if_pos q1] at hX
  subst hX
  have s44:aX s (ivQ s A.length) [44]=false:=by rw [e1,l2,aP h2];rfl
  refine fin ?_ ?_
  ·unfold ivR;rw [s44,e1];simp
  ·unfold ivB;rw [s44,d1,n1,q1];simp
 ·rw [if_neg q1] at hX
  by_cases q2:b=-1
  ·rw [if_pos q2] at hX
   subst hX
   have s44:aX s (ivQ s A.length) [44]=true:=by rw [e1,l2,aP h2];rfl
   have d2:jD s (ivQ s A.length+1)=[]:=by
    rw [e1,show A.length+2+(aN a).length+1=(A ++ [92,123] ++ aN a ++ [44]).length by simp;omega,oN h3]
    rfl
   refine fin ?_ ?_
   ·unfold ivR;rw [if_pos s44,d2,e1];rfl
   ·unfold ivB;rw [if_pos s44,d2,q2];rfl
  ·rw [if_neg q2] at hX
   subst hX
   have s44:aX s (ivQ s A.length) [44]=true:=by rw [e1,l2,aP h2];rfl
   have h4:s.data.toList=(A ++ [92,123] ++ aN a ++ [44]) ++ (aN b.toNat ++ 92 :: 125 :: R):=by rw [h];simp
   have d2:jD s (ivQ s A.length+1)=aN b.toNat:=by
    rw [e1,show A.length+2+(aN a).length+1=(A ++ [92,123] ++ aN a ++ [44]).length by simp;omega,oN h4]
    exact eQ 92 (by decide) _ _ (gC _ _ lz9)
   have n2:kK (aN b.toNat)=b.toNat:=by rw [gB _ _ lz9];omega
   have p2:=pX b.toNat
   refine fin ?_ ?_
   ·unfold ivR;rw [if_pos s44,d2,e1,List.length_cons];omega
   ·unfold ivB;rw [if_pos s44,d2,if_neg (by omega),n2];omega
theorem kS{m:Md}{s:ByteArray}{A R:List UInt8}{x:UInt8}(h:s.data.toList=A ++ (92 :: x :: R))(last:Nat):tok m s A.length last=esc m s A.length last/\¬ A.length+1=s.size/\bt s (A.length+1)=x.toNat:=by
 obtain⟨q1,q2⟩:=eJ.1 (show s.data.toList[A.length]?=some 92 by rw [h];simp)
 obtain⟨q3,q4⟩:=eJ.1 (show s.data.toList[A.length+1]?=some x by rw [h];simp)
 refine⟨?_,by omega,q4⟩
 unfold tok
 rw [if_pos (fW.2 ⟨q1,q2⟩)]
theorem vK{p:Option Sgn}{a b:Int}(h:okp p (.rp a b)):jJ (gD p)=false:=by
 rcases h with⟨k,n,rs,rfl,hk⟩ | rfl | ⟨a,b,rfl⟩
 ·rcases hk with rfl | rfl <;> rfl
 ·rfl
 ·rfl
theorem aE4{m:Md}{s:ByteArray}{A R:List UInt8}{a b:Int}(h:s.data.toList=A ++ (cA a b ++ R))(hb:eT a b=true){last:Nat}(hl:jJ last=false):tok m s A.length last=.ok (gU a b,A.length+(cA a b).length):=by
 have hbd:0<=a/\a<=255/\(b=-1\/(a<=b/\b<=255)):=by
  simp only [eT,Bool.and_eq_true,Bool.or_eq_true,decide_eq_true_eq,beq_iff_eq] at hb
  omega
 unfold cA at h ⊢
 split at h
 ·rename_i q
  rw [if_pos q]
  obtain⟨rfl,rfl⟩:=q
  have h':s.data.toList=A ++ (42 :: R):=h
  unfold tok
  rw [aP h',aP h',dA,dA,if_neg (by decide),hl]
  rfl
 ·rename_i n1
  rw [if_neg n1]
  split at h
  ·rename_i q
   rw [if_pos q]
   obtain⟨rfl,rfl⟩:=q
   obtain⟨e1,e2,e3⟩:=kS (m:=m) (x:=43) (R:=R) h last
   rw [e1]
   unfold esc
   rw [if_neg e2,e3,if_neg (by decide),if_neg (by decide),if_neg (by decide),if_neg (by decide),if_pos (by decide),hl]
   rfl
  ·rename_i n2
   rw [if_neg n2]
   split at h
   ·rename_i q
    rw [if_pos q]
    obtain⟨rfl,rfl⟩:=q
    obtain⟨e1,e2,e3⟩:=kS (m:=m) (x:=63) (R:=R) h last
    rw [e1]
    unfold esc
    rw [if_neg e2,e3,if_neg (by decide),if_neg (by decide),if_neg (by decide),if_neg (by decide),if_pos (by decide),hl]
    rfl
   ·rename_i n3
    rw [if_neg n3]
    generalize hX:(if b=a then [] else if b=-1 then [44] else 44 :: aN b.toNat:List UInt8)=X at h ⊢
    obtain⟨e1,e2,e3⟩:=kS (m:=m) (A:=A) (x:=123) (R:=aN a.toNat ++ X ++ [92,125] ++ R) (by rw [h];simp) last
    have ht:tok m s A.length last=lH s A.length:=by
     rw [e1]
     unfold esc
     rw [if_neg e2,e3,if_neg (by decide),if_neg (by decide),if_neg (by decide),if_neg (by decide),if_pos (by decide),hl]
     rfl
    have ea:((a.toNat:Nat):Int)=a:=by omega
    rw [ht,zY (R:=R) (a:=a.toNat) (b:=b) (X:=X) (by omega) (by omega) (by rw [ea];exact hX.symm) h,ea]
    simp only [List.length_append,List.length_cons,List.length_nil]
    try (refine congrArg Except.ok (Prod.ext rfl ?_);simp only;omega)
theorem aE3{m:Md}{s:ByteArray}{A R:List UInt8}{x:Sgn}{p:Option Sgn}(hx:fS m.c m.f x)(hk:okp p x)(h:s.data.toList=A ++ (sgB m.c x ++ R))(hp:p=none->A=[])
  (h4:∀ n rs,x=.lf 4 n rs->R=[]\/∃ t,R=92 :: 41 :: t\/R=92 :: 124 :: t):∃ t,tok m s A.length (gD p)=.ok (t,A.length+(sgB m.c x).length)/\t.kind=kF x/\∀ g,(∀ n,x=.op n->n=g+1)->sgT g t=x:=by
 have two:∀ (y:UInt8) (k:Nat),s.data.toList=A ++ (92 :: y :: R)->(y=40/\k=3)\/(y=41/\k=4)\/(y=124/\k=5)->tok m s A.length (gD p)=.ok (kT k,A.length+2):=fun y k h' hk=>by
  obtain⟨e1,e2,e3⟩:=kS (m:=m) h' (gD p)
  rw [e1]
  unfold esc
  rcases hk with⟨rfl,rfl⟩ | ⟨rfl,rfl⟩ | ⟨rfl,rfl⟩
  ·rw [if_neg e2,e3,if_pos (by decide)]
  ·rw [if_neg e2,e3,if_neg (by decide),if_pos (by decide)]
  ·rw [if_neg e2,e3,if_neg (by decide),if_neg (by decide),if_pos (by decide)]
 cases x with
 | op n=>
  refine⟨_,two 40 3 h (.inl ⟨rfl,rfl⟩),rfl,fun g hg=>?_⟩
  rw [hg n rfl];rfl
 | cl=>exact⟨_,two 41 4 h (.inr (.inl ⟨rfl,rfl⟩)),rfl,fun g hg=>rfl⟩
 | al=>exact⟨_,two 124 5 h (.inr (.inr ⟨rfl,rfl⟩)),rfl,fun g hg=>rfl⟩
 | rp a b=>exact⟨_,aE4 h hx (vK hk),rfl,fun g hg=>rfl⟩
 | lf k n rs=>
  obtain⟨k1,k2,k3⟩:=hk
  obtain⟨x1,x2,x3,x4⟩:=hx
  rcases k1 with rfl | rfl | rfl | rfl
  ·obtain⟨t,e1,e2,e3⟩:=kL (x1 rfl).1 h (gD p)
   refine⟨t,e1,e2,fun g _=>?_⟩
   unfold sgT
   rw [e2,e3,(x1 rfl).2]
   rfl
  ·have h':s.data.toList=A ++ (94 :: R):=h
   have hb:(A.length==0 || gD p==3 || gD p==5)=true:=by
    rcases k2 rfl with q | rfl | ⟨j,rfl⟩
    ·rw [hp q];rfl
    ·simp [gD,kF]
    ·simp [gD,kF]
   refine⟨kT 7,?_,rfl,fun g _=>?_⟩
   ·unfold tok
    rw [aP h',aP h',aP h',dA,dA,dA,if_neg (by decide),if_neg (by simp),hb]
    rfl
   ·rw [x2 (by decide),x4 (by decide)];rfl
  ·have h':s.data.toList=A ++ (36 :: R):=h
   have he:qK s A.length=true:=by
    have hz:=dX h'
    unfold qK
    have h2:s.data.toList=(A ++ [36]) ++ R:=by rw [h'];simp
    have l2:A.length+1=(A ++ [36]).length:=by simp
    rw [l2,aP h2,aP h2]
    rcases h4 n rs rfl with rfl | ⟨t,rfl | rfl⟩
    ·simp [hz]
    ·rw [gN];simp
    ·rw [gN,gN];simp
   refine⟨kT 8,?_,rfl,fun g _=>?_⟩
   ·unfold tok
    rw [aP h',aP h',aP h',aP h',dA,dA,dA,dA,if_neg (by decide),if_neg (by simp),if_neg (by simp),he]
    rfl
   ·rw [x2 (by decide),x4 (by decide)];rfl
  ·obtain⟨y1,y2⟩:=x3 rfl
   have en:aN n.toNat=[UInt8.ofNat (48+n.toNat)]:=cT (by omega)
   have e0:sgB m.c (.lf 8 n rs)=[92,UInt8.ofNat (48+n.toNat)]:=by
    show 92 :: aN n.toNat=_
    rw [en]
   have h':s.data.toList=A ++ (92 :: UInt8.ofNat (48+n.toNat) :: R):=by rw [h,e0];rfl
   obtain⟨e1,e2,e3⟩:=kS (m:=m) h' (gD p)
   have e4:bt s (A.length+1)=48+n.toNat:=by rw [e3,UInt8.toNat_ofNat'];omega
   refine⟨nL n.toNat,?_,rfl,fun g _=>?_⟩
   ·rw [e1]
    unfold esc
    rw [if_neg e2,e4,if_neg (by omega),if_neg (by omega),if_neg (by omega),if_pos (by omega),e0,show 48+n.toNat - 48=n.toNat by omega]
    rfl
   ·rw [x2 (by decide)]
    show Sgn.lf 8 ((n.toNat:Nat):Int) []=_
    rw [show ((n.toNat:Nat):Int)=n by omega]
theorem aF2{c f:Bool}{x:Sgn}(hx:fS c f x):0 < (sgB c x).length:=by
 cases x with
 | op n=>exact Nat.zero_lt_succ _
 | cl=>exact Nat.zero_lt_succ _
 | al=>exact Nat.zero_lt_succ _
 | rp a b=>
  show 0 < (cA a b).length
  unfold cA
  split
  ·simp
  split
  ·simp
  split
  ·simp
  simp
 | lf k n rs=>
  show 0 < (if k=2 then bF c rs else if k=3 then [94] else if k=4 then [36] else 92 :: aN n.toNat).length
  split
  ·rename_i q;exact aB7 (m:=⟨c,f⟩) (hx.1 q).1
  ·repeat' split
   all_goals simp
theorem aA0{g:Nat}{o e:List Nat}{x:Sgn}{L:List Sgn}(h:hk g o e (x :: L)):(∀ n,x=.op n->n=g+1)/\∃ o' e',hk (if kF x=3 then g+1 else g) o' e' L:=by
 cases x with
 | op n=>exact⟨fun k hk=>(by cases hk;exact h.1),_,_,h.2.2⟩
 | cl=>obtain⟨n,o',-,h'⟩:=h;exact⟨fun k hk=>(by cases hk),_,_,h'⟩
 | al=>exact⟨fun k hk=>(by cases hk),_,_,h⟩
 | rp a b=>exact⟨fun k hk=>(by cases hk),_,_,h⟩
 | lf k n rs=>
  refine⟨fun k hk=>(by cases hk),o,e,?_⟩
  have:kF (.lf k n rs)≠3:=by
   show (if k=2 then 1 else if k=3 then 7 else if k=4 then 8 else 6)≠3
   repeat' split
   all_goals decide
  rw [if_neg this]
  exact h.2
theorem tO{m:Md}{s:ByteArray}:∀ (L:List Sgn) (f:Nat) (A:List UInt8) (T:List Tp) (p:Option Sgn) (g:Nat) (o e:List Nat),s.data.toList=A ++ prS m.c L->adj p L->(∀ x∈L,fS m.c m.f x)->hk g o e L->(p=none->A=[])->cW T=gD p->s.size < f+A.length ->
  ∃ T',lx m s f A.length T=.ok (T ++ T')/\nV g T'=L
 | L,0,A,T,p,g,o,e,h,_,_,_,_,_,hf=>by
  have:=dX h
  rw [List.length_append] at this
  omega
 | [],f+1,A,T,p,g,o,e,h,_,_,_,_,_,hf=>by
  have hz:s.size=A.length:=by rw [dX h];simp [prS]
  exact⟨[],by rw [lx,if_neg (by omega)];simp,rfl⟩
 | x :: L,f+1,A,T,p,g,o,e,h,ha,hs,hh,hp,hl,hf=>by
  rw [gA] at h
  have hx:=hs x (List.mem_cons_self ..)
  have hpos:=aF2 hx
  obtain⟨hn,o',e',hh'⟩:=aA0 hh
  obtain⟨t,e1,e2,e3⟩:=aE3 (p:=p) hx ha.1 h hp (fun n rs ex=>by
   subst ex
   cases L with
   | nil=>exact .inl rfl
   | cons y L=>
    have hy:=ha.2.1
    cases y with
    | op k=>exact absurd rfl (hy n rs)
    | cl=>exact .inr ⟨_,.inl (by rw [gA];rfl)⟩
    | al=>exact .inr ⟨_,.inr (by rw [gA];rfl)⟩
    | lf k a b=>exact absurd rfl (hy.2.2 n rs)
    | rp a b=>
     exfalso
     rcases hy with⟨k,i,r,q,hq⟩ | q | ⟨a,b,q⟩
     ·injection q with q
      injection q with q1 q2 q3
      omega
     ·injection q with q;cases q
     ·injection q with q;cases q)
  have hlt:A.length < s.size:=by rw [dX h];simp only [List.length_append];omega
  obtain⟨T',q1,q2⟩:=tO L f (A ++ sgB m.c x) (T ++ [(t,A.length,A.length+(sgB m.c x).length)]) (some x) (if kF x=3 then g+1 else g) o' e' (by rw [h];simp) ha.2 (fun y hy=>hs y (List.mem_cons_of_mem _ hy)) hh' (fun q=>by cases q) (by rw [uY];exact e2) (by rw [List.length_append];omega)
  refine⟨(t,A.length,A.length+(sgB m.c x).length) :: T',?_,?_⟩
  ·rw [lx,if_pos hlt,hl,e1]
   simp only
   rw [List.length_append] at q1
   rw [q1]
   simp
  ·rw [nV,e3 g hn]
   have:gnx g t=if kF x=3 then g+1 else g:=by unfold gnx;rw [e2]
   simp only [this]
   rw [q2]
theorem xB{m:Md}{s:ByteArray}{L:List Sgn}(h:s.data.toList=prS m.c L)(ha:adj none L)(hs:∀ x∈L,fS m.c m.f x)(hh:hk 0 [] [] L)(hz:s.size<=2000):∃ T,uX m s=.ok T/\nV 0 T=L:=by
 obtain⟨T,h1,h2⟩:=tO L (s.size+1) [] [] none 0 [] [] (by rw [h];rfl) ha hs hh (fun _=>rfl) rfl (by simp)
 refine⟨T,?_,h2⟩
 unfold uX
 rw [if_neg (by omega)]
 simpa using h1
def fB(p:Option Sgn):List Sgn->Option Sgn
 | []=>p
 | x :: L=>fB (some x) L
theorem nC(p:Option Sgn)(a b:List Sgn):fB p (a ++ b)=fB (fB p a) b:=by
 induction a generalizing p with
 | nil=>rfl
 | cons x a ih=>exact ih (some x)
theorem jK(p:Option Sgn)(a b:List Sgn):adj p (a ++ b) ↔ adj p a/\adj (fB p a) b:=by
 induction a generalizing p with
 | nil=>simp [adj,fB]
 | cons x a ih=>rw [List.cons_append,adj,adj,ih,fB,and_assoc]
def not4(p:Option Sgn):Prop:=∀ n rs,p≠some (.lf 4 n rs)
def aC2(p:Option Sgn):Prop:=p=none\/p=some .al\/∃ n,p=some (.op n)
def thgO(p:Option Sgn):Prop:=(∃ k n rs,p=some (.lf k n rs)/\(k=2\/k=8))\/p=some .cl\/∃ a b,p=some (.rp a b)
theorem thgO.not4{p:Option Sgn}(h:thgO p):not4 p:=by
 intro n rs e
 rcases h with⟨k,i,r,q,hq⟩ | q | ⟨a,b,q⟩
 ·rw [q] at e
  injection e with e
  injection e with e1 e2 e3
  omega
 ·rw [q] at e;cases e
 ·rw [q] at e;cases e
def AdP(x:Ps):Prop:=wf x->∀ p,not4 p ->
 (eM x=true->adj p (pfl x)/\thgO (fB p (pfl x)))/\(dN x=true->(x.kd=3->aC2 p)->adj p (pfl x)/\(x.kd≠4->not4 (fB p (pfl x))))/\(aC2 p->adj p (pfl x))
theorem uC:∀ (l:List Ps) (p:Option Sgn),(∀ y∈l,AdP y)->wfs l->not4 p->(∀ i y,l[i]?=some y->dN y=true/\(y.kd=3->i=0/\aC2 p)/\(y.kd=4->i+1=l.length))->adj p (cY l)
 | [],p,_,_,_,_=>by rw [cY];trivial
 | y :: l,p,ih,hw,hp,hA=>by
  rw [wfs] at hw
  obtain⟨a1,a2,a3⟩:=hA 0 y rfl
  obtain⟨-,q,-⟩:=ih y (List.mem_cons_self ..) hw.1 p hp
  obtain⟨q1,q2⟩:=q a1 (fun z=>(a2 z).2)
  rw [cY,jK]
  refine⟨q1,?_⟩
  by_cases h4:y.kd=4
  ·have hl:l=[]:=by simpa using a3 h4
   subst hl
   rw [cY];trivial
  ·refine uC l _ (fun z hz=>ih z (List.mem_cons_of_mem _ hz)) hw.2 (q2 h4) fun i z hz=>?_
   obtain⟨b1,b2,b3⟩:=hA (i+1) z (by simpa using hz)
   exact⟨b1,fun k=>absurd (b2 k).1 (by omega),fun k=>by have:=b3 k;simp at this;omega⟩
theorem qZ:∀ (l:List Ps),(∀ y∈l,AdP y)->wfs l->∀ p,adj p (dB l)
 | [],_,_,p=>by rw [dB];trivial
 | y :: l,ih,hw,p=>by
  rw [wfs] at hw
  rw [dB]
  refine⟨trivial,?_⟩
  rw [jK]
  exact⟨(ih y (List.mem_cons_self ..) hw.1 (some .al) (fun n rs e=>by cases e)).2.2 (.inr (.inl rfl)),qZ l (fun z hz=>ih z (List.mem_cons_of_mem _ hz)) hw.2 _⟩
theorem aI3(x:Ps):AdP x:=by
 refine Ps.ind (P:=AdP) (fun x ih=>?_) x
 intro hw p hp
 cases x with
 | lf k n rs=>
  rw [wf] at hw
  rw [pfl]
  have key:(k=3->aC2 p)->adj p [.lf k n rs]:=fun h3=>⟨⟨hw,fun q=>h3 q,hp⟩,trivial⟩
  refine⟨fun ht=>?_,fun _ h3=>⟨key h3,fun h4=>?_⟩,fun hb=>key fun _=>hb⟩
  ·simp only [eM,Bool.or_eq_true,beq_iff_eq] at ht
   exact⟨key (fun q=>by omega),.inl ⟨k,n,rs,rfl,ht⟩⟩
  ·intro a b e
   simp only [fB] at e
   injection e with e
   injection e with e1 e2 e3
   exact h4 e1
 | grp n k=>
  rw [wf] at hw
  have e:pfl (.grp n k)=.op n :: (pfl k ++ [.cl]):=by rw [pfl]
  rw [e]
  have key:adj p (.op n :: (pfl k ++ [.cl])):=by
   refine⟨hp,?_⟩
   rw [jK]
   exact⟨(ih k (by simp [Ps.kids]) hw (some (.op n)) (fun a b e=>by cases e)).2.2 (.inr (.inr ⟨n,rfl⟩)),trivial,trivial⟩
  have hl:thgO (fB p (.op n :: (pfl k ++ [.cl]))):=by
   rw [fB,nC];exact .inr (.inl rfl)
  exact⟨fun _=>⟨key,hl⟩,fun _ _=>⟨key,fun _=>hl.not4⟩,fun _=>key⟩
 | rep a b k=>
  rw [wf] at hw
  have e:pfl (.rep a b k)=pfl k ++ [.rp a b]:=by rw [pfl]
  obtain⟨q,-,-⟩:=ih k (by simp [Ps.kids]) hw.2 p hp
  obtain⟨q1,q2⟩:=q hw.1
  rw [e]
  have key:adj p (pfl k ++ [.rp a b]):=by
   rw [jK]
   exact⟨q1,q2,trivial⟩
  have hl:thgO (fB p (pfl k ++ [.rp a b])):=by
   rw [nC];exact .inr (.inr ⟨a,b,rfl⟩)
  exact⟨fun _=>⟨key,hl⟩,fun _ _=>⟨key,fun _=>hl.not4⟩,fun _=>key⟩
 | row l=>
  rw [wf] at hw
  rw [pfl]
  refine⟨fun h=>by simp [eM] at h,fun h=>by simp [dN] at h,fun hb=>?_⟩
  refine uC l p (fun y hy=>ih y hy) hw.2.2 hp fun i y hy=>?_
  obtain⟨a1,a2,a3⟩:=hw.2.1 i y hy
  exact⟨a1,fun k=>⟨a2 k,hb⟩,a3⟩
 | alt l=>
  rw [wf] at hw
  rw [pfl]
  refine⟨fun h=>by simp [eM] at h,fun h=>by simp [dN] at h,fun hb=>?_⟩
  cases l with
  | nil=>rw [mD];trivial
  | cons y l=>
   rw [mV,jK]
   have hws:=hw.2.2
   rw [wfs] at hws
   exact⟨(ih y (by simp [Ps.kids]) hws.1 p hp).2.2 hb,qZ l (fun z hz=>ih z (by simp [Ps.kids,hz])) hws.2 _⟩
theorem yN{x:Ps}(h:wf x):adj none (pfl x):=(aI3 x h none (fun n rs e=>by cases e)).2.2 (.inl rfl)
end
end Go.Proofs.YticfnglebbakkaaGreatDoor
