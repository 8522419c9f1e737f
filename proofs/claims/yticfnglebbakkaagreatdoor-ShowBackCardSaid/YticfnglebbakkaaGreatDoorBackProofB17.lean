/-
  Parts of the proof.
-/
import Derived.Test.YticfnglebbakkaaGreatDoorBackProofB16
import Derived.Test.YticfnglebbakkaaGreatDoorBackProofB0
import Derived.Test.YticfnglebbakkaaGreatDoorBackProofB9
import Derived.Test.YticfnglebbakkaaGreatDoorBackProofB12
set_option maxRecDepth 100000
set_option maxHeartbeats 8000000
namespace Go.Proofs.YticfnglebbakkaaGreatDoor
open Go Go.RowKit
section
attribute [local go_sem] bC
theorem iI(w:World)(l:List Int)(hl:l.length<=1000):RO w.heap.size (w.alloc (.cells (rns l).toArray 21)) (.slice (some ⟨w.heap.size,0,none⟩) l.length l.length) l:=
 ⟨by rw [mJ];omega,.inr ⟨w.heap.size,_,_,rfl,Nat.le_refl _,aD w _,Nat.le_refl _,by unfold maxLen;omega,by simp [mJ],by simp [rns,List.take_of_length_le]⟩⟩
theorem zD(x:Int)(w:World):Calls Tryz.prog 91 #[.int .i32 x] w fun e w'=>∃ v,e=.returned v/\RO w.heap.size w' v (bZ x)/\Below w.heap.size w w':=by
 cases hs:spA x with
 | true=>
  have E:Hid (bZ x=[92,x]):=by show bZ x=_;unfold bZ;rw [hs];rfl
  have hx:x=46\/x=91\/x=42\/x=94\/x=36\/x=92:=by simp only [spA,Bool.or_eq_true,beq_iff_eq] at hs;omega
  clear hs
  rcases hx with rfl | rfl | rfl | rfl | rfl | rfl
  all_goals
   go_enter Tryz.func91,Tryz.ntmps91
   go_wp2
   go_ret
   exact⟨_,rfl,by rw [E.out];exact iI w [92,_] (by simp),bz9⟩
 | false=>
  have E:Hid (bZ x=[x]):=by show bZ x=_;unfold bZ;rw [hs];rfl
  simp only [spA,Bool.or_eq_false_iff] at hs
  obtain⟨⟨⟨⟨⟨h1,h2⟩,h3⟩,h4⟩,h5⟩,h6⟩:=hs
  go_enter Tryz.func91,Tryz.ntmps91
  go_wp2
  go_ret
  exact⟨_,rfl,by rw [E.out];exact iI w [x] (by simp),bz9⟩
theorem gN{w:World}(c:Bool):Calls Tryz.prog 88 #[.slice none 0 0,.bool c] w fun e w'=>∃ v,e=.returned v/\RR w.heap.size w' v (cA c)/\Below w.heap.size w w':=by
 refine(aE1 (w:=w) (L:=[]) (m:=c) (.inl ⟨none,0,rfl,rfl,fun _=>rfl⟩) (fun r hr=>by cases hr) (by simp)).mono ?_
 rintro e w' ⟨v,C,rfl,h1,h2,h3,h4⟩
 have:C=cA c:=h2.one (iR c) (fun x=>⟨fun q=>q.1,fun q=>⟨q,dN x⟩⟩)
 subst this
 exact⟨v,rfl,h1,h4⟩
theorem sD(c:Bool):(cA c).length<=2/\cA c≠[]:=by cases c <;> simp [cA]
theorem jQ{c:Bool}{r:Int × Int}(h:eH c r):0<=r.1/\r.1<=1114111/\0<=r.2/\r.2<=1114111:=by
 obtain⟨⟨a,b,-⟩,⟨d,e,-⟩,-⟩:=h
 unfold top at b e
 cases c <;> simp only [if_true,Bool.false_eq_true,if_false] at b e <;> omega
theorem mC{w:World}{v:Value}{L:List (Int × Int)}(c f:Bool)(h:aM w v L)(hS:IsC L (fun x=>In L x/\aH c x)) :
  Calls Tryz.prog 42 #[v,.agg #[.bool c,.bool f]] w fun e w'=>∃ v',e=.returned v'/\RO w.heap.size w' v' (cJ c L)/\Below w.heap.size w w':=by
 have hlen:L.length<=600000:=gJ hS
 have hbd:∀ r∈L,0<=r.1/\r.1<=1114111/\0<=r.2/\r.2<=1114111:=fun r hr=>jQ (dL (f:=false) ⟨hS,fun q=>by cases q⟩ r hr)
 have HS:Hid (IsC L (fun x=>In L x/\aH c x)):=hS
 have HBD:Hid (∀ r∈L,0<=r.1/\r.1<=1114111/\0<=r.2/\r.2<=1114111):=hbd
 have HA:Hid (aM w v L):=h
 have hal:=sD c
 obtain⟨q,cap,rfl,-,-,hcells⟩:=h.slice
 have HC:Hid (∀ (i:Nat) (r:Int × Int),L[i]?=some r->∃ g off,q=some ⟨g,off,none⟩/\g < w.heap.size/\w.cell? ⟨g,off+2 * i,none⟩=some (.int .i64 r.1)/\w.cell? ⟨g,off+2 * i+1,none⟩=some (.int .i64 r.2)):=hcells
 have FitL:Hid (Fit L):=hS.fit
 clear h hS hbd hcells
 by_cases c1:L=[]
 ·subst c1
  have E:Hid (cJ c []=[91,94] ++ cC (cA c) ++ [93]):=by show cJ c []=_;unfold cJ;rw [if_pos rfl]
  go_enter Tryz.func42,Tryz.ntmps42
  go_wp2_with first
   |(go_at_call 88;(with_reducible refine(gN c).mono ?_);rintro e w2 ⟨va,rfl,h21,h22⟩;have A2:Hid (aM w2 va (cA c)):=h21.arg;have B2:Hid (Below w.heap.size w w2):=aE (bz9) h22 lz9;clear h21 h22)
   |(go_at_call 89;refine(eS (W0:=w2) (L:=cA c) (a:=[91,94]) A2.out (bz9) (iI w2 [91,94] (by simp)) (by omega) (by simp) (fun r hr=>jQ (iQ c r hr))).mono ?_;rintro e w3 ⟨v3,rfl,h31,h32⟩;have O3:Hid (RO w.heap.size w3 v3 ([91,94] ++ cC (cA c) ++ [93])):=bD h31 B2.out.size;have B3:Hid (Below w.heap.size w w3):=aE B2.out h32 lz9;clear h31 h32)
  go_ret
  exact⟨_,rfl,by rw [E.out];exact O3.out,B3.out⟩
 have hpos:0 < L.length:=List.length_pos_iff.2 c1
 have n0:((L.length:Int)==0)=false:=by rw [beq_eq_false_iff_ne];omega
 have z0:(L.length==0)=false:=by rw [beq_eq_false_iff_ne];omega
 by_cases c2:L=cA c
 ·have E:Hid (cJ c L=[46]):=by show cJ c L=_;unfold cJ;rw [if_neg c1,if_pos c2]
  have HQ:Hid (∀ x,In L x ↔ In (cA c) x):=by show ∀ x,In L x ↔ In (cA c) x;rw [c2];exact fun _=>Iff.rfl
  clear c2 c1
  go_enter Tryz.func42,Tryz.ntmps42
  go_wp2_with first
   |(go_at_call 88;(with_reducible refine(gN c).mono ?_);rintro e w2 ⟨va,rfl,h21,h22⟩;have A2:Hid (aM w2 va (cA c)):=h21.arg;have B2:Hid (Below w.heap.size w w2):=aE (bz9) h22 lz9;clear h21 h22)
   |(go_at_call 90;refine(sK (HA.out.kept B2.out) A2.out FitL.out (iR c).fit (by omega) (by omega) HQ.out).mono ?_;rintro e w3 ⟨rfl,h3⟩;have B3:Hid (Below w.heap.size w w3):=aE B2.out h3 lz9;clear h3)
  go_ret
  exact⟨_,rfl,by rw [E.out];exact bD (iI w3 [46] (by simp)) B3.out.size,B3.out.alloc B3.out.size _⟩
 have HQ:Hid (¬ ∀ x,In L x ↔ In (cA c) x):=fun q=>c2 (kL _ _ HS.out.cls (iR c).cls q)
 by_cases c3:L.length=1/\(L.headD (0,0)).1=(L.headD (0,0)).2
 ·have E:Hid (cJ c L=bZ (L.headD (0,0)).1):=by show cJ c L=_;unfold cJ;rw [if_neg c1,if_neg c2,if_pos c3]
  obtain⟨⟨x,y⟩,rfl⟩:∃ r,L=[r]:=by
   match L,c3.1 with
   | [r],_=>exact⟨r,rfl⟩
  obtain rfl:x=y:=c3.2
  obtain⟨g,off,rfl,hg,d1,d2⟩:=HC.out 0 (x,x) rfl
  obtain⟨b0,b1,-⟩:=HBD.out (x,x) (by simp)
  have hw32:=pF b0 b1
  simp only [Nat.mul_zero,Nat.add_zero] at d1 d2
  clear c1 c2 c3 HC b0 b1
  go_enter Tryz.func42,Tryz.ntmps42
  go_upto_region 6 with first
   |(go_at_call 88;(with_reducible refine(gN c).mono ?_);rintro e w2 ⟨va,rfl,h21,h22⟩;have A2:Hid (aM w2 va (cA c)):=h21.arg;have B2:Hid (Below w.heap.size w w2):=aE (bz9) h22 lz9;clear h21 h22)
   |(go_at_call 90;refine(fY (HA.out.kept B2.out) A2.out FitL.out (iR c).fit (by omega) (by omega) HQ.out).mono ?_;rintro e w3 ⟨rfl,h3⟩;have B3:Hid (Below w.heap.size w w3):=aE B2.out h3 lz9;clear h3)
  have k1:=(B3.out.cell (p:=⟨g,off,none⟩) hg).trans d1
  have k2:=(B3.out.cell (p:=⟨g,off+1,none⟩) hg).trans d2
  have hg3:g < w3.heap.size:=Nat.lt_of_lt_of_le hg B3.out.size
  refine wx9 ?_
  repeat (go_big_quiet_step (first | exact rfl))
  refine wpQuiet_nil ?_
  intro w4 hw
  have k3:=((aW hw).cell (p:=⟨g,off,none⟩) hg3).trans k1
  have hg4:g < w4.heap.size:=Nat.lt_of_lt_of_le hg3 (aW hw).size
  have B4:Hid (Below w.heap.size w w4):=aE B3.out (aW hw) lz9
  clear hw k1 k2 d1 d2
  go_wp2_with (go_at_call 91;(with_reducible refine(zD _ _).mono ?_);rintro e w5 ⟨v5,rfl,h51,h52⟩;have O5:Hid (RO w.heap.size w5 v5 (bZ x)):=bD h51 B4.out.size;have B5:Hid (Below w.heap.size w w5):=aE B4.out h52 lz9;clear h51 h52)
  go_ret
  exact⟨_,rfl,by rw [E.out];exact O5.out,B5.out⟩
 ·have E:Hid (cJ c L=[91] ++ cC L ++ [93]):=by show cJ c L=_;unfold cJ;rw [if_neg c1,if_neg c2,if_neg c3]
  by_cases c4:L.length=1
  ·obtain⟨⟨x,y⟩,rfl⟩:∃ r,L=[r]:=by
    match L,c4 with
    | [r],_=>exact⟨r,rfl⟩
   have hxy:(x==y)=false:=by rw [beq_eq_false_iff_ne];exact fun e=>c3 ⟨rfl,e⟩
   obtain⟨g,off,rfl,hg,d1,d2⟩:=HC.out 0 (x,y) rfl
   simp only [Nat.mul_zero,Nat.add_zero] at d1 d2
   clear c1 c2 c3 c4 HC
   go_enter Tryz.func42,Tryz.ntmps42
   go_upto_region 6 with first
    |(go_at_call 88;(with_reducible refine(gN c).mono ?_);rintro e w2 ⟨va,rfl,h21,h22⟩;have A2:Hid (aM w2 va (cA c)):=h21.arg;have B2:Hid (Below w.heap.size w w2):=aE (bz9) h22 lz9;clear h21 h22)
    |(go_at_call 90;refine(fY (HA.out.kept B2.out) A2.out FitL.out (iR c).fit (by omega) (by omega) HQ.out).mono ?_;rintro e w3 ⟨rfl,h3⟩;have B3:Hid (Below w.heap.size w w3):=aE B2.out h3 lz9;clear h3)
   have k1:=(B3.out.cell (p:=⟨g,off,none⟩) hg).trans d1
   have k2:=(B3.out.cell (p:=⟨g,off+1,none⟩) hg).trans d2
   have hg3:g < w3.heap.size:=Nat.lt_of_lt_of_le hg B3.out.size
   refine wx9 ?_
   repeat (go_big_quiet_step (first | exact rfl))
   refine wpQuiet_nil ?_
   intro w4 hw
   have B4:Hid (Below w.heap.size w w4):=aE B3.out (aW hw) lz9
   clear hw k1 k2 d1 d2
   go_wp2_with (go_at_call 89;refine(eS (W0:=w4) (L:=[(x,y)]) (a:=[91]) (HA.out.kept B4.out) (bz9) (iI w4 [91] (by simp)) hlen (by simp) HBD.out).mono ?_;rintro e w5 ⟨v5,rfl,h51,h52⟩;have O5:Hid (RO w.heap.size w5 v5 ([91] ++ cC [(x,y)] ++ [93])):=bD h51 B4.out.size;have B5:Hid (Below w.heap.size w w5):=aE B4.out h52 lz9;clear h51 h52)
   go_ret
   exact⟨_,rfl,by rw [E.out];exact O5.out,B5.out⟩
  ·have n1:((L.length:Int)==1)=false:=by rw [beq_eq_false_iff_ne];omega
   have z1:(L.length==1)=false:=by rw [beq_eq_false_iff_ne];omega
   clear c1 c2 c3 c4 HC
   go_enter Tryz.func42,Tryz.ntmps42
   go_upto_region 6 with first
    |(go_at_call 88;(with_reducible refine(gN c).mono ?_);rintro e w2 ⟨va,rfl,h21,h22⟩;have A2:Hid (aM w2 va (cA c)):=h21.arg;have B2:Hid (Below w.heap.size w w2):=aE (bz9) h22 lz9;clear h21 h22)
    |(go_at_call 90;refine(fY (HA.out.kept B2.out) A2.out FitL.out (iR c).fit (by omega) (by omega) HQ.out).mono ?_;rintro e w3 ⟨rfl,h3⟩;have B3:Hid (Below w.heap.size w w3):=aE B2.out h3 lz9;clear h3)
   refine wx9 ?_
   repeat (go_big_quiet_step (first | exact rfl))
   refine wpQuiet_nil ?_
   intro w4 hw
   have B4:Hid (Below w.heap.size w w4):=aE B3.out (aW hw) lz9
   clear hw
   go_wp2_with (go_at_call 89;refine(eS (W0:=w4) (L:=L) (a:=[91]) (HA.out.kept B4.out) (bz9) (iI w4 [91] (by simp)) hlen (by simp) HBD.out).mono ?_;rintro e w5 ⟨v5,rfl,h51,h52⟩;have O5:Hid (RO w.heap.size w5 v5 ([91] ++ cC L ++ [93])):=bD h51 B4.out.size;have B5:Hid (Below w.heap.size w w5):=aE B4.out h52 lz9;clear h51 h52)
   go_ret
   exact⟨_,rfl,by rw [E.out];exact O5.out,B5.out⟩
theorem gG{c:Bool}{L:List (Int × Int)}(hS:IsC L (fun x=>In L x/\aH c x)):(∀ x∈cJ c L,aH c x)/\(cJ c L).length<=7000000:=by
 have hlen:L.length<=600000:=gJ hS
 have low:∀ x:Int,0<=x->x < 128->aH c x:=fun x h0 h1=>by unfold aH top;cases c <;> simp <;> omega
 have hr:=dL (f:=false) ⟨hS,fun q=>by cases q⟩
 have he:∀ y,aH c y->∀ x∈bJ y,aH c x:=by
  intro y hy x hx
  unfold bJ at hx
  split at hx
  ·simp only [List.mem_cons,List.not_mem_nil,or_false] at hx
   rcases hx with rfl | rfl | rfl | rfl | rfl
   ·exact low _ (by decide) (by decide)
   ·exact low _ (by decide) (by decide)
   ·exact hy
   ·exact low _ (by decide) (by decide)
   ·exact low _ (by decide) (by decide)
  ·rw [List.mem_singleton] at hx;subst hx;exact hy
 have ho:∀ r,eH c r->∀ x∈eY r,aH c x:=by
  intro r h x hx
  unfold eY at hx
  rcases List.mem_append.1 hx with q | q
  ·exact he _ h.1 x q
  ·split at q
   ·rcases List.mem_cons.1 q with rfl | q
    ·exact low _ (by decide) (by decide)
    ·exact he _ h.2.1 x q
   ·cases q
 have hR:∀ (l:List (Int × Int)),(∀ r∈l,eH c r)->∀ x∈cC l,aH c x:=by
  intro l
  induction l with
  | nil=>intro _ x hx;rw [cC] at hx;cases hx
  | cons r l ih=>
   intro h x hx
   rw [cC] at hx
   rcases List.mem_append.1 hx with q | q
   ·exact ho r (h r (List.mem_cons_self ..)) x q
   ·exact ih (fun y hy=>h y (List.mem_cons_of_mem _ hy)) x q
 have ha:=sD c
 have la:=jR (cA c)
 have ll:=jR L
 unfold cJ
 split
 ·refine⟨fun x hx=>?_,by simp;omega⟩
  simp only [List.append_assoc,List.mem_append,List.mem_cons,List.not_mem_nil,or_false] at hx
  rcases hx with (rfl | rfl) | q | rfl
  ·exact low _ (by decide) (by decide)
  ·exact low _ (by decide) (by decide)
  ·exact hR _ (iQ c) x q
  ·exact low _ (by decide) (by decide)
 split
 ·refine⟨fun x hx=>?_,by simp⟩
  rw [List.mem_singleton] at hx;subst hx
  exact low _ (by decide) (by decide)
 split
 ·rename_i h1 h2 h3
  obtain⟨r,rfl⟩:∃ r,L=[r]:=by
   match L,h3.1 with
   | [r],_=>exact⟨r,rfl⟩
  have hc:=(hr r (by simp)).1
  show (∀ x∈bZ r.1,aH c x)/\(bZ r.1).length<=7000000
  unfold bZ
  split
  ·refine⟨fun x hx=>?_,by simp⟩
   simp only [List.mem_cons,List.not_mem_nil,or_false] at hx
   rcases hx with rfl | rfl
   ·exact low _ (by decide) (by decide)
   ·exact hc
  ·refine⟨fun x hx=>?_,by simp⟩
   rw [List.mem_singleton] at hx;subst hx
   exact hc
 ·refine⟨fun x hx=>?_,by simp;omega⟩
  simp only [List.append_assoc,List.mem_append,List.mem_cons,List.not_mem_nil,or_false] at hx
  rcases hx with rfl | q | rfl
  ·exact low _ (by decide) (by decide)
  ·exact hR _ hr x q
  ·exact low _ (by decide) (by decide)
theorem kO{c:Bool}{L:List (Int × Int)}(hS:IsC L (fun x=>In L x/\aH c x)):(bH c L).length<=28000000:=by
 have:=wD c (cJ c L)
 have:=(gG hS).2
 unfold bH
 omega
theorem qK{w:World}{v:Value}{L:List (Int × Int)}(c f:Bool)(h:aM w v L)(hF:Fit L)(hl:L.length+3<=8796093022208)(hS:¬ IsC L (fun x=>In L x/\aH c x)) :
  Calls Tryz.prog 15 #[v,.agg #[.bool c,.bool f]] w fun e w'=>e=.returned (.tuple #[.string (txt []),.int .i64 50])/\Below w.heap.size w w':=by
 have HA:Hid (aM w v L/\Fit L):=⟨h,hF⟩
 have HS:Hid (¬ IsC L (fun x=>In L x/\aH c x)):=hS
 clear h hF hS
 go_enter Tryz.func15,Tryz.ntmps15
 go_wp2_with (go_at_call 40;refine(jD (m:=c) (HA.out.1.kept (bz9)) HA.out.2 hl).mono ?_;rintro e w2 ⟨b,rfl,h21,h22⟩;obtain rfl:b=false:=(by cases b with | false=>rfl | true=>exact absurd (h21.1 rfl) HS.out);have B2:Hid (Below w.heap.size w w2):=aE (bz9) h22 lz9;clear h21 h22)
 go_ret2
 exact⟨rfl,B2.out⟩
theorem mB{w:World}{v:Value}{L:List (Int × Int)}(c f:Bool)(h:aM w v L)(hS:IsC L (fun x=>In L x/\aH c x)) :
  Calls Tryz.prog 15 #[v,.agg #[.bool c,.bool f]] w fun e w'=>e=.returned (.tuple #[.string (txt (bH c L)),.int .i64 0])/\Below w.heap.size w w':=by
 have HA:Hid (aM w v L):=h
 have HS:Hid (IsC L (fun x=>In L x/\aH c x)):=hS
 have hlen:L.length<=600000:=gJ hS
 have HR:Hid ((∀ x∈cJ c L,aH c x)/\(cJ c L).length<=7000000):=gG hS
 have E:Hid (aR c (cJ c L)=bH c L):=rfl
 obtain⟨qv,cv,rfl,-⟩:=h.slice
 clear h hS
 go_enter Tryz.func15,Tryz.ntmps15
 go_upto_region 3 with (go_at_call 40;refine(jD (m:=c) (HA.out.kept (bz9)) HS.out.fit (by omega)).mono ?_;rintro e w2 ⟨b,rfl,h21,h22⟩;obtain rfl:b=true:=h21.2 HS.out;have B2:Hid (Below w.heap.size w w2):=aE (bz9) h22 lz9;have X2:Hid (w2.heap[w.heap.size]?=some (.cells #[.bool c,.bool f] 27 (0,0))):=(h22.block _ (by simp)).trans (aD w _);clear h21 h22)
 have a0:=aB X2.out (i:=0) rfl
 have a1:=aB X2.out (i:=1) rfl
 have hl2:=aC X2.out
 go_region_with first
  |(go_at_call 42;refine(mC c f (HA.out.kept (B2.out.drew)) HS.out).mono ?_;rintro e w3 ⟨v3,rfl,h31,h32⟩;have O3:Hid (RO w2.heap.size w3 v3 (cJ c L)):=h31;have B3:Hid (Below w.heap.size w w3):=aE B2.out.drew h32 lz9;have X3:Hid (w3.heap[w.heap.size]?=some (.cells #[.bool c,.bool f] 27 (0,0))):=(h32.block _ hl2).trans X2.out;have a30:=aB X3.out (i:=0) rfl;have a31:=aB X3.out (i:=1) rfl;obtain⟨q3,k3,rfl⟩:=aG h31;clear h31 h32)
  |(go_at_call 41;refine(lJ c f O3.out HR.out.1 (Nat.le_trans HR.out.2 (by decide))).mono ?_;rintro e w4 ⟨rfl,h4⟩;have B4:Hid (Below w.heap.size w w4):=aE B3.out h4 lz9;clear h4)
 all_goals go_wp2
 all_goals (go_ret2;exact⟨rfl,B4.out⟩)
end
section
open Go
def bT(a b:Int):List UInt8:=
 if a=0/\b=-1 then [42] else if a=1/\b=-1 then [92,43] else if a=0/\b=1 then [92,63]
 else [92,123] ++ aQ a.toNat ++ (if b=a then [] else if b=-1 then [44] else 44 :: aQ b.toNat) ++ [92,125]
def sgB(c:Bool):Sgn->List UInt8
 | .lf k n rs=>if k=2 then bH c rs else if k=3 then [94] else if k=4 then [36] else 92 :: aQ n.toNat
 | .op _=>[92,40]
 | .cl=>[92,41]
 | .al=>[92,124]
 | .rp a b=>bT a b
def prS(c:Bool)(L:List Sgn):List UInt8:=L.flatMap (sgB c)
theorem eZ(c:Bool)(x:Sgn)(L:List Sgn):prS c (x :: L)=sgB c x ++ prS c L:=by simp [prS]
theorem fL(c:Bool)(a b:List Sgn):prS c (a ++ b)=prS c a ++ prS c b:=by simp [prS]
def iX:Sgn->Nat
 | .lf k _ _=>if k=2 then 1 else if k=3 then 7 else if k=4 then 8 else 6
 | .op _=>3
 | .cl=>4
 | .al=>5
 | .rp _ _=>2
def fA:Option Sgn->Nat
 | none=>0
 | some x=>iX x
theorem yE{s:ByteArray}{A R X:List UInt8}{a:Nat}{b:Int}(ha:a<=255)(hb:b=-1\/((a:Int)<=b/\b<=255))(hX:X=if b=a then [] else if b=-1 then [44] else 44 :: aQ b.toNat)
  (h:s.data.toList=A ++ ([92,123] ++ aQ a ++ X ++ [92,125] ++ R)):mR s A.length=.ok (gA a b,A.length+(2+(aQ a).length+X.length+2)):=by
 have n1:jA (aQ a)=a:=by rw [kB a a lz9];omega
 have p1:=oC a
 have h1:s.data.toList=(A ++ [92,123]) ++ (aQ a ++ (X ++ 92 :: 125 :: R)):=by rw [h];simp
 have h2:s.data.toList=(A ++ [92,123] ++ aQ a) ++ (X ++ 92 :: 125 :: R):=by rw [h];simp
 have h3:s.data.toList=(A ++ [92,123] ++ aQ a ++ X) ++ (92 :: 125 :: R):=by rw [h];simp
 have l1:A.length+2=(A ++ [92,123]).length:=by simp
 have l2:A.length+2+(aQ a).length=(A ++ [92,123] ++ aQ a).length:=by simp;omega
 have l3:A.length+2+(aQ a).length+X.length=(A ++ [92,123] ++ aQ a ++ X).length:=by simp;omega
 have d1:gX s (A.length+2)=aQ a:=by
  rw [l1,mY h1]
  have hd:=kC a a lz9
  have:∃ y r,X ++ 92 :: 125 :: R=y :: r/\dig y=false:=by
   rw [hX]
   split
   ·exact⟨92,_,rfl,by decide⟩
   ·split
    ·exact⟨44,_,rfl,by decide⟩
    ·exact⟨44,_,rfl,by decide⟩
  obtain⟨y,r,e,hy⟩:=this
  rw [e,dV y hy _ _ hd]
 have e1:ivQ s A.length=A.length+2+(aQ a).length:=by unfold ivQ;rw [d1]
 have c2:bA s (A.length+2+(aQ a).length+X.length) [92,125]=true:=by rw [l3,aP h3];simp [List.isPrefixOf]
 have fin:∀ (hr:ivR s A.length=A.length+2+(aQ a).length+X.length) (hv:ivB s A.length=b),mR s A.length=.ok (gA a b,A.length+(2+(aQ a).length+X.length+2)):=fun hr hv=>by
  unfold mR
  rw [d1,hr,c2,n1,hv,if_neg (by rintro (q | q);omega;cases q),if_neg (by omega)]
  refine congrArg Except.ok (Prod.ext rfl ?_)
  simp only
  omega
 by_cases q1:b=a
 ·rw [if_pos q1] at hX
  subst hX
  have s44:bA s (ivQ s A.length) [44]=false:=by rw [e1,l2,aP h2];rfl
  refine fin ?_ ?_
  ·unfold ivR;rw [s44,e1];simp
  ·unfold ivB;rw [s44,d1,n1,q1];simp
 ·rw [if_neg q1] at hX
  by_cases q2:b=-1
  ·rw [if_pos q2] at hX
   subst hX
   have s44:bA s (ivQ s A.length) [44]=true:=by rw [e1,l2,aP h2];rfl
   have d2:gX s (ivQ s A.length+1)=[]:=by
    rw [e1,show A.length+2+(aQ a).length+1=(A ++ [92,123] ++ aQ a ++ [44]).length by simp;omega,mY h3]
    rfl
   refine fin ?_ ?_
   ·unfold ivR;rw [if_pos s44,d2,e1];rfl
   ·unfold ivB;rw [if_pos s44,d2,q2];rfl
  ·rw [if_neg q2] at hX
   subst hX
   have s44:bA s (ivQ s A.length) [44]=true:=by rw [e1,l2,aP h2];rfl
   have h4:s.data.toList=(A ++ [92,123] ++ aQ a ++ [44]) ++ (aQ b.toNat ++ 92 :: 125 :: R):=by rw [h];simp
   have d2:gX s (ivQ s A.length+1)=aQ b.toNat:=by
    rw [e1,show A.length+2+(aQ a).length+1=(A ++ [92,123] ++ aQ a ++ [44]).length by simp;omega,mY h4]
    exact dV 92 (by decide) _ _ (kC _ _ lz9)
   have n2:jA (aQ b.toNat)=b.toNat:=by rw [kB _ _ lz9];omega
   have p2:=oC b.toNat
   refine fin ?_ ?_
   ·unfold ivR;rw [if_pos s44,d2,e1,List.length_cons];omega
   ·unfold ivB;rw [if_pos s44,d2,if_neg (by omega),n2];omega
theorem jJ{m:Md}{s:ByteArray}{A R:List UInt8}{x:UInt8}(h:s.data.toList=A ++ (92 :: x :: R))(last:Nat):tok m s A.length last=esc m s A.length last/\¬ A.length+1=s.size/\bt s (A.length+1)=x.toNat:=by
 obtain⟨q1,q2⟩:=dQ.1 (show s.data.toList[A.length]?=some 92 by rw [h];simp)
 obtain⟨q3,q4⟩:=dQ.1 (show s.data.toList[A.length+1]?=some x by rw [h];simp)
 refine⟨?_,by omega,q4⟩
 unfold tok
 rw [if_pos (jO.2 ⟨q1,q2⟩)]
theorem tL{p:Option Sgn}{a b:Int}(h:okp p (.rp a b)):sC (fA p)=false:=by
 rcases h with⟨k,n,rs,rfl,hk⟩ | rfl | ⟨a,b,rfl⟩
 ·rcases hk with rfl | rfl <;> rfl
 ·rfl
 ·rfl
theorem zT{m:Md}{s:ByteArray}{A R:List UInt8}{a b:Int}(h:s.data.toList=A ++ (bT a b ++ R))(hb:fF a b=true){last:Nat}(hl:sC last=false):tok m s A.length last=.ok (gA a b,A.length+(bT a b).length):=by
 have hbd:0<=a/\a<=255/\(b=-1\/(a<=b/\b<=255)):=by
  simp only [fF,Bool.and_eq_true,Bool.or_eq_true,decide_eq_true_eq,beq_iff_eq] at hb
  omega
 unfold bT at h ⊢
 split at h
 ·rename_i q
  rw [if_pos q]
  obtain⟨rfl,rfl⟩:=q
  have h':s.data.toList=A ++ (42 :: R):=h
  unfold tok
  rw [aP h',aP h',cO,cO,if_neg (by decide),hl]
  rfl
 ·rename_i n1
  rw [if_neg n1]
  split at h
  ·rename_i q
   rw [if_pos q]
   obtain⟨rfl,rfl⟩:=q
   obtain⟨e1,e2,e3⟩:=jJ (m:=m) (x:=43) (R:=R) h last
   rw [e1]
   unfold esc
   rw [if_neg e2,e3,if_neg (by decide),if_neg (by decide),if_neg (by decide),if_neg (by decide),if_pos (by decide),hl]
   rfl
  ·rename_i n2
   rw [if_neg n2]
   split at h
   ·rename_i q
    rw [if_pos q]
    obtain⟨rfl,rfl⟩:=q
    obtain⟨e1,e2,e3⟩:=jJ (m:=m) (x:=63) (R:=R) h last
    rw [e1]
    unfold esc
    rw [if_neg e2,e3,if_neg (by decide),if_neg (by decide),if_neg (by decide),if_neg (by decide),if_pos (by decide),hl]
    rfl
   ·rename_i n3
    rw [if_neg n3]
    generalize hX:(if b=a then [] else if b=-1 then [44] else 44 :: aQ b.toNat:List UInt8)=X at h ⊢
    obtain⟨e1,e2,e3⟩:=jJ (m:=m) (A:=A) (x:=123) (R:=aQ a.toNat ++ X ++ [92,125] ++ R) (by rw [h];simp) last
    have ht:tok m s A.length last=mR s A.length:=by
     rw [e1]
     unfold esc
     rw [if_neg e2,e3,if_neg (by decide),if_neg (by decide),if_neg (by decide),if_neg (by decide),if_pos (by decide),hl]
     rfl
    have ea:((a.toNat:Nat):Int)=a:=by omega
    rw [ht,yE (R:=R) (a:=a.toNat) (b:=b) (X:=X) (by omega) (by omega) (by rw [ea];exact hX.symm) h,ea]
    simp only [List.length_append,List.length_cons,List.length_nil]
    try (refine congrArg Except.ok (Prod.ext rfl ?_);simp only;omega)
theorem zS{m:Md}{s:ByteArray}{A R:List UInt8}{x:Sgn}{p:Option Sgn}(hx:eV m.c m.f x)(hk:okp p x)(h:s.data.toList=A ++ (sgB m.c x ++ R))(hp:p=none->A=[])
  (h4:∀ n rs,x=.lf 4 n rs->R=[]\/∃ t,R=92 :: 41 :: t\/R=92 :: 124 :: t):∃ t,tok m s A.length (fA p)=.ok (t,A.length+(sgB m.c x).length)/\t.kind=iX x/\∀ g,(∀ n,x=.op n->n=g+1)->sgT g t=x:=by
 have two:∀ (y:UInt8) (k:Nat),s.data.toList=A ++ (92 :: y :: R)->(y=40/\k=3)\/(y=41/\k=4)\/(y=124/\k=5)->tok m s A.length (fA p)=.ok (kT k,A.length+2):=fun y k h' hk=>by
  obtain⟨e1,e2,e3⟩:=jJ (m:=m) h' (fA p)
  rw [e1]
  unfold esc
  rcases hk with⟨rfl,rfl⟩ | ⟨rfl,rfl⟩ | ⟨rfl,rfl⟩
  ·rw [if_neg e2,e3,if_pos (by decide)]
  ·rw [if_neg e2,e3,if_neg (by decide),if_pos (by decide)]
  ·rw [if_neg e2,e3,if_neg (by decide),if_neg (by decide),if_pos (by decide)]
 cases x with
 | op n=>
  refine⟨_,two 40 3 h (.inl ⟨rfl,rfl⟩),rfl,fun g hg=>?_⟩
  rw [hg n rfl];rfl
 | cl=>exact⟨_,two 41 4 h (.inr (.inl ⟨rfl,rfl⟩)),rfl,fun g hg=>rfl⟩
 | al=>exact⟨_,two 124 5 h (.inr (.inr ⟨rfl,rfl⟩)),rfl,fun g hg=>rfl⟩
 | rp a b=>exact⟨_,zT h hx (tL hk),rfl,fun g hg=>rfl⟩
 | lf k n rs=>
  obtain⟨k1,k2,k3⟩:=hk
  obtain⟨x1,x2,x3,x4⟩:=hx
  rcases k1 with rfl | rfl | rfl | rfl
  ·obtain⟨t,e1,e2,e3⟩:=qZ (x1 rfl).1 h (fA p)
   refine⟨t,e1,e2,fun g _=>?_⟩
   unfold sgT
   rw [e2,e3,(x1 rfl).2]
   rfl
  ·have h':s.data.toList=A ++ (94 :: R):=h
   have hb:(A.length==0 || fA p==3 || fA p==5)=true:=by
    rcases k2 rfl with q | rfl | ⟨j,rfl⟩
    ·rw [hp q];rfl
    ·simp [fA,iX]
    ·simp [fA,iX]
   refine⟨kT 7,?_,rfl,fun g _=>?_⟩
   ·unfold tok
    rw [aP h',aP h',aP h',cO,cO,cO,if_neg (by decide),if_neg (by simp),hb]
    rfl
   ·rw [x2 (by decide),x4 (by decide)];rfl
  ·have h':s.data.toList=A ++ (36 :: R):=h
   have he:wC s A.length=true:=by
    have hz:=dG h'
    unfold wC
    have h2:s.data.toList=(A ++ [36]) ++ R:=by rw [h'];simp
    have l2:A.length+1=(A ++ [36]).length:=by simp
    rw [l2,aP h2,aP h2]
    rcases h4 n rs rfl with rfl | ⟨t,rfl | rfl⟩
    ·simp [hz]
    ·rw [fK];simp
    ·rw [fK,fK];simp
   refine⟨kT 8,?_,rfl,fun g _=>?_⟩
   ·unfold tok
    rw [aP h',aP h',aP h',aP h',cO,cO,cO,cO,if_neg (by decide),if_neg (by simp),if_neg (by simp),he]
    rfl
   ·rw [x2 (by decide),x4 (by decide)];rfl
  ·obtain⟨y1,y2⟩:=x3 rfl
   have en:aQ n.toNat=[UInt8.ofNat (48+n.toNat)]:=cI (by omega)
   have e0:sgB m.c (.lf 8 n rs)=[92,UInt8.ofNat (48+n.toNat)]:=by
    show 92 :: aQ n.toNat=_
    rw [en]
   have h':s.data.toList=A ++ (92 :: UInt8.ofNat (48+n.toNat) :: R):=by rw [h,e0];rfl
   obtain⟨e1,e2,e3⟩:=jJ (m:=m) h' (fA p)
   have e4:bt s (A.length+1)=48+n.toNat:=by rw [e3,UInt8.toNat_ofNat'];omega
   refine⟨sB n.toNat,?_,rfl,fun g _=>?_⟩
   ·rw [e1]
    unfold esc
    rw [if_neg e2,e4,if_neg (by omega),if_neg (by omega),if_neg (by omega),if_pos (by omega),e0,show 48+n.toNat - 48=n.toNat by omega]
    rfl
   ·rw [x2 (by decide)]
    show Sgn.lf 8 ((n.toNat:Nat):Int) []=_
    rw [show ((n.toNat:Nat):Int)=n by omega]
theorem aA2{c f:Bool}{x:Sgn}(hx:eV c f x):0 < (sgB c x).length:=by
 cases x with
 | op n=>exact Nat.zero_lt_succ _
 | cl=>exact Nat.zero_lt_succ _
 | al=>exact Nat.zero_lt_succ _
 | rp a b=>
  show 0 < (bT a b).length;unfold bT;split;· simp
       split;· simp
       split;· simp
       simp
 | lf k n rs=>
  show 0 < (if k=2 then bH c rs else if k=3 then [94] else if k=4 then [36] else 92 :: aQ n.toNat).length
  split
  ·rename_i q;exact yU (m:=⟨c,f⟩) (hx.1 q).1
  ·repeat' split
   all_goals simp
theorem yG{g:Nat}{o e:List Nat}{x:Sgn}{L:List Sgn}(h:hk g o e (x :: L)):(∀ n,x=.op n->n=g+1)/\∃ o' e',hk (if iX x=3 then g+1 else g) o' e' L:=by
 cases x with
 | op n=>exact⟨fun k hk=>(by cases hk;exact h.1),_,_,h.2.2⟩
 | cl=>obtain⟨n,o',-,h'⟩:=h;exact⟨fun k hk=>(by cases hk),_,_,h'⟩
 | al=>exact⟨fun k hk=>(by cases hk),_,_,h⟩
 | rp a b=>exact⟨fun k hk=>(by cases hk),_,_,h⟩
 | lf k n rs=>
  refine⟨fun k hk=>(by cases hk),o,e,?_⟩
  have:iX (.lf k n rs)≠3:=by
   show (if k=2 then 1 else if k=3 then 7 else if k=4 then 8 else 6)≠3
   repeat' split
   all_goals decide
  rw [if_neg this]
  exact h.2
theorem rM{m:Md}{s:ByteArray}:∀ (L:List Sgn) (f:Nat) (A:List UInt8) (T:List Tp) (p:Option Sgn) (g:Nat) (o e:List Nat),s.data.toList=A ++ prS m.c L->adj p L->(∀ x∈L,eV m.c m.f x)->hk g o e L->(p=none->A=[])->gQ T=fA p->s.size < f+A.length ->
  ∃ T',lx m s f A.length T=.ok (T ++ T')/\nL g T'=L
 | L,0,A,T,p,g,o,e,h,_,_,_,_,_,hf=>by
  have:=dG h
  rw [List.length_append] at this
  omega
 | [],f+1,A,T,p,g,o,e,h,_,_,_,_,_,hf=>by
  have hz:s.size=A.length:=by rw [dG h];simp [prS]
  exact⟨[],by rw [lx,if_neg (by omega)];simp,rfl⟩
 | x :: L,f+1,A,T,p,g,o,e,h,ha,hs,hh,hp,hl,hf=>by
  rw [eZ] at h
  have hx:=hs x (List.mem_cons_self ..)
  have hpos:=aA2 hx
  obtain⟨hn,o',e',hh'⟩:=yG hh
  obtain⟨t,e1,e2,e3⟩:=zS (p:=p) hx ha.1 h hp (fun n rs ex=>by
   subst ex
   cases L with
   | nil=>exact .inl rfl
   | cons y L=>
    have hy:=ha.2.1
    cases y with
    | op k=>exact absurd rfl (hy n rs)
    | cl=>exact .inr ⟨_,.inl (by rw [eZ];rfl)⟩
    | al=>exact .inr ⟨_,.inr (by rw [eZ];rfl)⟩
    | lf k a b=>exact absurd rfl (hy.2.2 n rs)
    | rp a b=>
     exfalso
     rcases hy with⟨k,i,r,q,hq⟩ | q | ⟨a,b,q⟩
     ·injection q with q
      injection q with q1 q2 q3
      omega
     ·injection q with q;cases q
     ·injection q with q;cases q)
  have hlt:A.length < s.size:=by rw [dG h];simp only [List.length_append];omega
  obtain⟨T',q1,q2⟩:=rM L f (A ++ sgB m.c x) (T ++ [(t,A.length,A.length+(sgB m.c x).length)]) (some x) (if iX x=3 then g+1 else g) o' e' (by rw [h];simp) ha.2 (fun y hy=>hs y (List.mem_cons_of_mem _ hy)) hh' (fun q=>by cases q) (by rw [tB];exact e2) (by rw [List.length_append];omega)
  refine⟨(t,A.length,A.length+(sgB m.c x).length) :: T',?_,?_⟩
  ·rw [lx,if_pos hlt,hl,e1]
   simp only
   rw [List.length_append] at q1
   rw [q1]
   simp
  ·rw [nL,e3 g hn]
   have:gnx g t=if iX x=3 then g+1 else g:=by unfold gnx;rw [e2]
   simp only [this]
   rw [q2]
theorem vA{m:Md}{s:ByteArray}{L:List Sgn}(h:s.data.toList=prS m.c L)(ha:adj none L)(hs:∀ x∈L,eV m.c m.f x)(hh:hk 0 [] [] L)(hz:s.size<=2000):∃ T,tA m s=.ok T/\nL 0 T=L:=by
 obtain⟨T,h1,h2⟩:=rM L (s.size+1) [] [] none 0 [] [] (by rw [h];rfl) ha hs hh (fun _=>rfl) rfl (by simp)
 refine⟨T,?_,h2⟩
 unfold tA
 rw [if_neg (by omega)]
 simpa using h1
def eC(p:Option Sgn):List Sgn->Option Sgn
 | []=>p
 | x :: L=>eC (some x) L
theorem lW(p:Option Sgn)(a b:List Sgn):eC p (a ++ b)=eC (eC p a) b:=by
 induction a generalizing p with
 | nil=>rfl
 | cons x a ih=>exact ih (some x)
theorem iA(p:Option Sgn)(a b:List Sgn):adj p (a ++ b) ↔ adj p a/\adj (eC p a) b:=by
 induction a generalizing p with
 | nil=>simp [adj,eC]
 | cons x a ih=>rw [List.cons_append,adj,adj,ih,eC,and_assoc]
def not4(p:Option Sgn):Prop:=∀ n rs,p≠some (.lf 4 n rs)
def yZ(p:Option Sgn):Prop:=p=none\/p=some .al\/∃ n,p=some (.op n)
def zV(p:Option Sgn):Prop:=(∃ k n rs,p=some (.lf k n rs)/\(k=2\/k=8))\/p=some .cl\/∃ a b,p=some (.rp a b)
def AdP(x:Ps):Prop:=wf x->∀ p,not4 p ->
 (eD x=true->adj p (pfl x)/\zV (eC p (pfl x)))/\(fW x=true->(x.kd=3->yZ p)->adj p (pfl x)/\(x.kd≠4->not4 (eC p (pfl x))))/\(yZ p->adj p (pfl x))
theorem sE:∀ (l:List Ps) (p:Option Sgn),(∀ y∈l,AdP y)->wfs l->not4 p->(∀ i y,l[i]?=some y->fW y=true/\(y.kd=3->i=0/\yZ p)/\(y.kd=4->i+1=l.length))->adj p (cR l)
 | [],p,_,_,_,_=>by rw [cR];trivial
 | y :: l,p,ih,hw,hp,hA=>by
  rw [wfs] at hw
  obtain⟨a1,a2,a3⟩:=hA 0 y rfl
  obtain⟨-,q,-⟩:=ih y (List.mem_cons_self ..) hw.1 p hp
  obtain⟨q1,q2⟩:=q a1 (fun z=>(a2 z).2)
  rw [cR,iA]
  refine⟨q1,?_⟩
  by_cases h4:y.kd=4
  ·have hl:l=[]:=by simpa using a3 h4
   subst hl
   rw [cR];trivial
  ·refine sE l _ (fun z hz=>ih z (List.mem_cons_of_mem _ hz)) hw.2 (q2 h4) fun i z hz=>?_
   obtain⟨b1,b2,b3⟩:=hA (i+1) z (by simpa using hz)
   exact⟨b1,fun k=>absurd (b2 k).1 (by omega),fun k=>by have:=b3 k;simp at this;omega⟩
theorem oZ:∀ (l:List Ps),(∀ y∈l,AdP y)->wfs l->∀ p,adj p (cZ l)
 | [],_,_,p=>by rw [cZ];trivial
 | y :: l,ih,hw,p=>by
  rw [wfs] at hw
  rw [cZ]
  refine⟨trivial,?_⟩
  rw [iA]
  exact⟨(ih y (List.mem_cons_self ..) hw.1 (some .al) (fun n rs e=>by cases e)).2.2 (.inr (.inl rfl)),oZ l (fun z hz=>ih z (List.mem_cons_of_mem _ hz)) hw.2 _⟩
theorem aD3(x:Ps):AdP x:=by
 refine Ps.ind (P:=AdP) (fun x ih=>?_) x
 intro hw p hp
 cases x with
 | lf k n rs=>
  rw [wf] at hw
  rw [pfl]
  have key:(k=3->yZ p)->adj p [.lf k n rs]:=fun h3=>⟨⟨hw,fun q=>h3 q,hp⟩,trivial⟩
  refine⟨fun ht=>?_,fun _ h3=>⟨key h3,fun h4=>?_⟩,fun hb=>key fun _=>hb⟩
  ·simp only [eD,Bool.or_eq_true,beq_iff_eq] at ht
   exact⟨key (fun q=>by omega),.inl ⟨k,n,rs,rfl,ht⟩⟩
  ·intro a b e
   simp only [eC] at e
   injection e with e
   injection e with e1 e2 e3
   exact h4 e1
 | grp n k=>
  rw [wf] at hw
  have e:pfl (.grp n k)=.op n :: (pfl k ++ [.cl]):=by rw [pfl]
  rw [e]
  have key:adj p (.op n :: (pfl k ++ [.cl])):=by
   refine⟨hp,?_⟩
   rw [iA]
   exact⟨(ih k (by simp [Ps.kids]) hw (some (.op n)) (fun a b e=>by cases e)).2.2 (.inr (.inr ⟨n,rfl⟩)),trivial,trivial⟩
  have hl:zV (eC p (.op n :: (pfl k ++ [.cl]))):=by
   rw [eC,lW];exact .inr (.inl rfl)
  exact⟨fun _=>⟨key,hl⟩,fun _ _=>⟨key,fun _=>hl.not4⟩,fun _=>key⟩
 | rep a b k=>
  rw [wf] at hw
  have e:pfl (.rep a b k)=pfl k ++ [.rp a b]:=by rw [pfl]
  obtain⟨q,-,-⟩:=ih k (by simp [Ps.kids]) hw.2 p hp
  obtain⟨q1,q2⟩:=q hw.1
  rw [e]
  have key:adj p (pfl k ++ [.rp a b]):=by
   rw [iA]
   exact⟨q1,q2,trivial⟩
  have hl:zV (eC p (pfl k ++ [.rp a b])):=by
   rw [lW];exact .inr (.inr ⟨a,b,rfl⟩)
  exact⟨fun _=>⟨key,hl⟩,fun _ _=>⟨key,fun _=>hl.not4⟩,fun _=>key⟩
 | row l=>
  rw [wf] at hw
  rw [pfl]
  refine⟨fun h=>by simp [eD] at h,fun h=>by simp [fW] at h,fun hb=>?_⟩
  refine sE l p (fun y hy=>ih y hy) hw.2.2 hp fun i y hy=>?_
  obtain⟨a1,a2,a3⟩:=hw.2.1 i y hy
  exact⟨a1,fun k=>⟨a2 k,hb⟩,a3⟩
 | alt l=>
  rw [wf] at hw
  rw [pfl]
  refine⟨fun h=>by simp [eD] at h,fun h=>by simp [fW] at h,fun hb=>?_⟩
  cases l with
  | nil=>rw [lB];trivial
  | cons y l=>
   rw [sS,iA]
   have hws:=hw.2.2
   rw [wfs] at hws
   exact⟨(ih y (by simp [Ps.kids]) hws.1 p hp).2.2 hb,oZ l (fun z hz=>ih z (by simp [Ps.kids,hz])) hws.2 _⟩
theorem wT{x:Ps}(h:wf x):adj none (pfl x):=(aD3 x h none (fun n rs e=>by cases e)).2.2 (.inl rfl)
end
end Go.Proofs.YticfnglebbakkaaGreatDoor
