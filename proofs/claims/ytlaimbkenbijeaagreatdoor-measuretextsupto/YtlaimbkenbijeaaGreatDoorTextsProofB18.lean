/-
  Parts of the proof.
-/
import Derived.Test.YtlaimbkenbijeaaGreatDoorTextsProofA0
import Derived.Test.YtlaimbkenbijeaaGreatDoorTextsProofA1
import Derived.Test.YtlaimbkenbijeaaGreatDoorTextsProofB8
import Derived.Test.YtlaimbkenbijeaaGreatDoorTextsProofB17
import Derived.BigQuiet
import Derived.Test.YtlaimbkenbijeaaGreatDoorTextsProofB3
import Derived.Deep.RegionHeld
import Derived.Laws.EntriesVeiled
set_option maxRecDepth 100000
set_option maxHeartbeats 8000000
namespace Go.Proofs.YtlaimbkenbijeaaGreatDoor
open Go Go.RowKit
section
attribute [local go_sem] Oper.semAt_some
noncomputable def tvI (ρ:dH (Int)) (c o:Bool) (t:Tr):Int:=if aY c o 0 0 (pp [] t)=0 then (ev ρ (fun _=>0) t).1 else 0
theorem bJ4{Glo:World->Prop}(hglo:∀ {A B:World},CK A B->Glo A->Glo B){w:World}(hgw:Glo w){t:Tr}{Good:Int->Prop}{ρ:dH (Int)}{c o:Bool}(hta:TB w t)(hr:RuI Glo (NP c o) Good ρ c o)(hg:∀ t xs g,NP c o t->xs.length=t.ks.length->(∀ x∈xs,Good x)->(∀ i,Good (g i))->Good (ρ t.f t.ks xs g))(h0:Good 0) :
  Calls Tryz.prog 55 #[.agg #[.int .i64 t.f.k,.int .i64 t.f.n,.int .i64 t.f.mn,.int .i64 t.f.mx,.slice t.f.rq t.f.rs.length t.f.rc,.slice t.f.kq t.f.kl t.f.kc],.agg #[.bool c,.bool o],.func (.func 56) #[] #[]] w fun e w'=>e=.returned (enI (tvI ρ c o t))/\Below w.heap.size w w':=by
 have HTA:=aD hta
 have HGW:=aD hgw
 have HR:=aD hr
 clear hgw
 have HG:=aD hg
 have H0:=aD h0
 clear hta hr hg h0
 by_cases hz:aY c o 0 0 (pp [] t)=0
 ·have HV:Hid (tvI ρ c o t=(ev ρ (fun _=>0) t).1):=if_pos hz
  have HZ:=aD hz
  clear hz
  have hmm:=@run_makeMap Tryz.prog
  go_enter Tryz.func55,Tryz.ntmps55
  go_upto_region 8 with (go_at_call 53;refine(eE c o (HTA.out.kept (((bz9).alloc (by simp only [a7];omega) _).alloc (by simp only [a7];omega) _))).mono ?_;rintro e w1 ⟨rfl,h1⟩;have B1:=aD h1;clear h1;have rz:=HZ.out)
  have l1:(((w.alloc (.cells #[.int .i64 t.f.k,.int .i64 t.f.n,.int .i64 t.f.mn,.int .i64 t.f.mx,.slice t.f.rq t.f.rs.length t.f.rc,.slice t.f.kq t.f.kl t.f.kc] 25)).alloc (.cells #[.bool c,.bool o] 27)).alloc (.cells #[.func (.func 56) #[] #[]] 98)).heap.size<=w1.heap.size:=B1.out.size
  simp only [a7] at l1
  have b1:w1.heap[w.heap.size]?=some (.cells #[.int .i64 t.f.k,.int .i64 t.f.n,.int .i64 t.f.mn,.int .i64 t.f.mx,.slice t.f.rq t.f.rs.length t.f.rc,.slice t.f.kq t.f.kl t.f.kc] 25 (0,0)):=(B1.out.block _ (by simp only [a7];omega)).trans (by(repeat (first | exact aK _ (by first | rfl | simp only [a7]) | rw [Below.heap_alloc _ _ _ (by first | omega |(simp only [a7];omega))])))
  have b2:w1.heap[w.heap.size+1]?=some (.cells #[.bool c,.bool o] 27 (0,0)):=(B1.out.block _ (by simp only [a7];omega)).trans (by(repeat (first | exact aK _ (by first | rfl | simp only [a7]) | rw [Below.heap_alloc _ _ _ (by first | omega |(simp only [a7];omega))])))
  have b3:w1.heap[w.heap.size+1+1]?=some (.cells #[.func (.func 56) #[] #[]] 98 (0,0)):=(B1.out.block _ (by simp only [a7];omega)).trans (by(repeat (first | exact aK _ (by first | rfl | simp only [a7]) | rw [Below.heap_alloc _ _ _ (by first | omega |(simp only [a7];omega))])))
  have TT:Hid (TWI ((((w1.alloc (.map #[] 0)).alloc (.cells #[.map (some w1.heap.size)] 166)).alloc (.cells #[.func (.func 104) #[] #[.pointer (some ⟨w1.heap.size+1,0,none⟩)]] 125)).alloc (.cells #[.func (.func 105) #[] #[.pointer (some ⟨w.heap.size+1,0,none⟩),.pointer (some ⟨w1.heap.size+1+1,0,none⟩),.pointer (some ⟨w1.heap.size+1+1+1,0,none⟩),.pointer (some ⟨w.heap.size+1+1,0,none⟩),.pointer (some ⟨w1.heap.size+1,0,none⟩)]] 59)) (w.heap.size+1) (w1.heap.size+1+1) (w1.heap.size+1+1+1) (w.heap.size+1+1) (w1.heap.size+1) w1.heap.size c o):=⟨by rw [<- b2];(repeat (first | exact aK _ (by first | rfl | simp only [a7]) | rw [Below.heap_alloc _ _ _ (by first | omega |(simp only [a7];omega))])),by(repeat (first | exact aK _ (by first | rfl | simp only [a7]) | rw [Below.heap_alloc _ _ _ (by first | omega |(simp only [a7];omega))])),by(repeat (first | exact aK _ (by first | rfl | simp only [a7]) | rw [Below.heap_alloc _ _ _ (by first | omega |(simp only [a7];omega))])),by rw [<- b3];(repeat (first | exact aK _ (by first | rfl | simp only [a7]) | rw [Below.heap_alloc _ _ _ (by first | omega |(simp only [a7];omega))])),by(repeat (first | exact aK _ (by first | rfl | simp only [a7]) | rw [Below.heap_alloc _ _ _ (by first | omega |(simp only [a7];omega))]))⟩
  have BX:Hid (Below w1.heap.size w1 ((((w1.alloc (.map #[] 0)).alloc (.cells #[.map (some w1.heap.size)] 166)).alloc (.cells #[.func (.func 104) #[] #[.pointer (some ⟨w1.heap.size+1,0,none⟩)]] 125)).alloc (.cells #[.func (.func 105) #[] #[.pointer (some ⟨w.heap.size+1,0,none⟩),.pointer (some ⟨w1.heap.size+1+1,0,none⟩),.pointer (some ⟨w1.heap.size+1+1+1,0,none⟩),.pointer (some ⟨w.heap.size+1+1,0,none⟩),.pointer (some ⟨w1.heap.size+1,0,none⟩)]] 59))):=(((bz9).alloc (by simp only [a7];omega) _).alloc (by simp only [a7];omega) _).alloc (by simp only [a7];omega) _
  have MM:Hid (MapV ((((w1.alloc (.map #[] 0)).alloc (.cells #[.map (some w1.heap.size)] 166)).alloc (.cells #[.func (.func 104) #[] #[.pointer (some ⟨w1.heap.size+1,0,none⟩)]] 125)).alloc (.cells #[.func (.func 105) #[] #[.pointer (some ⟨w.heap.size+1,0,none⟩),.pointer (some ⟨w1.heap.size+1+1,0,none⟩),.pointer (some ⟨w1.heap.size+1+1+1,0,none⟩),.pointer (some ⟨w.heap.size+1+1,0,none⟩),.pointer (some ⟨w1.heap.size+1,0,none⟩)]] 59)) (.int .i64 0) w1.heap.size 0 (fun _=>enI 0)):=(((MapV.made w1 (.int .i64 0)).kept (bz9)).kept (bz9)).kept (bz9)
  have BN:=aD ((BX.out.block _ (aB b1)).trans b1)
  generalize hWX:((((w1.alloc (.map #[] 0)).alloc (.cells #[.map (some w1.heap.size)] 166)).alloc (.cells #[.func (.func 104) #[] #[.pointer (some ⟨w1.heap.size+1,0,none⟩)]] 125)).alloc (.cells #[.func (.func 105) #[] #[.pointer (some ⟨w.heap.size+1,0,none⟩),.pointer (some ⟨w1.heap.size+1+1,0,none⟩),.pointer (some ⟨w1.heap.size+1+1+1,0,none⟩),.pointer (some ⟨w.heap.size+1+1,0,none⟩),.pointer (some ⟨w1.heap.size+1,0,none⟩)]] 59))=WX at TT BX MM BN ⊢
  clear hWX b1 b2 b3
  have B9:Hid (Below w.heap.size w WX):=aJ (aJ (((bz9).alloc (by simp only [a7];omega) _).alloc (by simp only [a7];omega) _) B1.out lz9) BX.out lz9
  have hO:=bP5 hglo HR.out (fun t h k=>h.wf k) HG.out (w.heap.size+1) (w1.heap.size+1+1) (w1.heap.size+1+1+1) (w.heap.size+1+1) (w1.heap.size+1) w1.heap.size t.sz t WX 0 (fun _=>0) lz9 (by have:=iQ HZ.out;omega) (hglo (CK.of_below B9.out) HGW.out) (HTA.out.kept B9.out) (gC HZ.out) (fun _=>H0.out) TT.out MM.out
  obtain⟨x,hx⟩:∃ x,tvI ρ c o t=x:=⟨_,rfl⟩
  have HC:Hid (Calls Tryz.prog 105 #[.agg #[.int .i64 t.f.k,.int .i64 t.f.n,.int .i64 t.f.mn,.int .i64 t.f.mx,.slice t.f.rq t.f.rs.length t.f.rc,.slice t.f.kq t.f.kl t.f.kc],.pointer (some ⟨w.heap.size+1,0,none⟩),.pointer (some ⟨w1.heap.size+1+1,0,none⟩),.pointer (some ⟨w1.heap.size+1+1+1,0,none⟩),.pointer (some ⟨w.heap.size+1+1,0,none⟩),.pointer (some ⟨w1.heap.size+1,0,none⟩)] WX (fun e w'=>e=.returned (.int .i64 x)/\Fr (fun k=>k=w1.heap.size) WX w')):=aD (hO.mono fun e w' h=>⟨by rw [h.1,<- HV.out,hx];rfl,h.2.2⟩)
  have HX:=aD hx
  clear hO hx
  have o0:WX.cell? ⟨w1.heap.size+1+1+1,0,none⟩=some (.func (.func 105) #[] #[.pointer (some ⟨w.heap.size+1,0,none⟩),.pointer (some ⟨w1.heap.size+1+1,0,none⟩),.pointer (some ⟨w1.heap.size+1+1+1,0,none⟩),.pointer (some ⟨w.heap.size+1+1,0,none⟩),.pointer (some ⟨w1.heap.size+1,0,none⟩)]):=aA TT.out.o (i:=0) rfl
  have n0:WX.cell? ⟨w.heap.size,0,none⟩=some (.int .i64 t.f.k):=aA BN.out (i:=0) rfl
  have n1:WX.cell? ⟨w.heap.size,1,none⟩=some (.int .i64 t.f.n):=aA BN.out (i:=1) rfl
  have n2:WX.cell? ⟨w.heap.size,2,none⟩=some (.int .i64 t.f.mn):=aA BN.out (i:=2) rfl
  have n3:WX.cell? ⟨w.heap.size,3,none⟩=some (.int .i64 t.f.mx):=aA BN.out (i:=3) rfl
  have n4:WX.cell? ⟨w.heap.size,4,none⟩=some (.slice t.f.rq t.f.rs.length t.f.rc):=aA BN.out (i:=4) rfl
  have n5:WX.cell? ⟨w.heap.size,5,none⟩=some (.slice t.f.kq t.f.kl t.f.kc):=aA BN.out (i:=5) rfl
  go_wp2_with (go_at_call 105;refine HC.out.mono ?_;rintro e w5 ⟨rfl,h5⟩;have F5:=aD h5;clear h5)
  go_ret
  exact⟨by rw [HX.out];rfl,bC B9.out F5.out lz9 (fun k e=>by rw [e];exact i8 (by omega) l1)⟩
 ·have HV:Hid (tvI ρ c o t=0):=if_neg hz
  have HZ:=aD hz
  obtain⟨r,hrr⟩:∃ r,aY c o 0 0 (pp [] t)=r:=⟨_,rfl⟩
  have rz:(r==0)=false:=by rw [<- hrr];simpa using hz
  have rz2:(r != 0)=true:=by rw [bne,rz];rfl
  have HQ:=aD hrr
  clear hz hrr
  go_enter Tryz.func55,Tryz.ntmps55
  go_wp2_with (go_at_call 53;refine(eE c o (HTA.out.kept (((bz9).alloc (by simp only [a7];omega) _).alloc (by simp only [a7];omega) _))).mono ?_;rw [HQ.out];rintro e w1 ⟨rfl,h1⟩;have B1:=aD h1;clear h1)
  go_ret
  exact⟨by rw [HV.out];rfl,aJ (((bz9).alloc (by simp only [a7];omega) _).alloc (by simp only [a7];omega) _) B1.out lz9⟩
end
section
attribute [local go_sem] Oper.semAt_some bB
def wide(l:List (Int × Int)):Int:=16 * ((l.filter fun r=>decide (127 < r.2)).length:Int)
def kS(l:List (Int × Int)):Int:=if l.any (fun r=>decide (r.2<=127)) then 1 else 0
def sC(c:Bool)(l:List (Int × Int)):Int:=if c then max (wide l+kS l) 1 else 1
theorem aM3(l:List (Int × Int))(r:Int × Int):wide (l ++ [r])=wide l+(if 127 < r.2 then 16 else 0):=by
 unfold wide
 rw [List.filter_append]
 by_cases h:127 < r.2
 ·simp [h];omega
 ·simp [h]
theorem yX(l:List (Int × Int))(r:Int × Int):kS (l ++ [r])=if 127 < r.2 then kS l else 1:=by
 unfold kS
 rw [List.any_append]
 by_cases h:127 < r.2
 ·have e:[r].any (fun r=>decide (r.2<=127))=false:=by simp;omega
  rw [e,Bool.or_false,if_pos h]
 ·have e:[r].any (fun r=>decide (r.2<=127))=true:=by simp;omega
  rw [e,Bool.or_true,if_neg h]
  rfl
theorem aG6(l:List (Int × Int)):0<=wide l/\wide l<=16 * (l.length:Int):=by
 unfold wide
 have:=List.length_filter_le (fun r:Int × Int=>decide (127 < r.2)) l
 omega
theorem uW(l:List (Int × Int)):0<=kS l/\kS l<=1:=by unfold kS;split <;> omega
theorem aN1{w:World}{q:Option Addr}{k:Nat}{L:List (Int × Int)}(c o:Bool)(h:ArgR w (.slice q L.length k) L)(hl:L.length<=600000) :
  Calls Tryz.prog 106 #[.slice q L.length k,.agg #[.bool c,.bool o]] w fun e w'=>e=.returned (.int .i64 (sC c L))/\Below w.heap.size w w':=by
 have B0:Hid (Below w.heap.size w (w.alloc (.cells #[.bool c,.bool o] 27))):=bz9
 cases c with
 | false=>
  go_enter Tryz.func106,Tryz.ntmps106
  go_wp2
  go_ret
  exact⟨rfl,B0.out⟩
 | true=>
  obtain⟨q',k',e,h1,h2,h3⟩:=h.slice
  injection e with e1 _ e3
  subst e1 e3
  have H3:=aD h3
  have h9:L.length<=9223372036854775807:=h1
  clear h3 h h1
  obtain⟨mx,hmx⟩:∃ m,sC true L=m:=⟨_,rfl⟩
  have hmr:∀ t ty w,(Builtin.max_ t ty #[.int .i64 (wide L+kS L),.int .i64 1]).run Tryz.prog w=.ok (.int .i64 mx) w:=fun t ty w=>by rw [jI,<- hmx];rfl
  have HX:=aD hmx
  have hb1:=aG6 L
  have hb2:=uW L
  clear hmx
  go_enter Tryz.func106,Tryz.ntmps106
  go_wp2
  go_loopw [5,6,14] (fun a b i wr=>∃ j:Nat,j<=L.length/\i=.int .i64 (j:Int)/\a=.int .i64 (wide (L.take j))/\b=.int .i64 (kS (L.take j))/\Below w.heap.size w wr) (fun _ _ i _=>L.length - (intOf i).toNat)
  case atStart=>exact⟨0,m9 _,rfl,rfl,rfl,B0.out⟩
  case round=>
   obtain⟨j,hj,rfl,rfl,rfl,hb⟩:=hrel
   have HB:=aD hb
   clear hb
   by_cases hjl:j < L.length
   ·obtain⟨r,hr⟩:∃ r,L[j]?=some r:=⟨_,g9 hjl⟩
    obtain⟨g,off,rfl,hg,c1,c2⟩:=H3.out j r hr
    have e1:(j:Int) < (L.length:Int):=by omega
    have c3:=(HB.out.cell (p:=⟨g,off+2 * j,none⟩) hg).trans c1
    have c4:=(HB.out.cell (p:=⟨g,off+2 * j+1,none⟩) hg).trans c2
    rw [aAJ] at c3 c4
    have T1:Hid (L.take (j+1)=L.take j ++ [r]):=(by rw [o5,hr];rfl)
    have S1:=aD (aM3 (L.take j) r)
    have S2:=aD (yX (L.take j) r)
    have w1:=aG6 (L.take j)
    have w2:=uW (L.take j)
    have w3:(L.take j).length<=L.length:=by rw [o9];omega
    clear c1 c2 hr
    by_cases hw:127 < r.2
    ·rw [if_pos hw] at S1 S2
     go_wp2
     go_roundw
     case rel=>exact⟨j+1,by omega,by go_num,by rw [T1.out,S1.out];try go_num,by rw [T1.out,S2.out],HB.out.alloc HB.out.size _⟩
     case measure=>simp only [intOf];omega
    ·rw [if_neg hw] at S1 S2
     go_wp2
     go_roundw
     case rel=>exact⟨j+1,by omega,by go_num,by rw [T1.out,S1.out];try go_num,by rw [T1.out,S2.out],HB.out.alloc HB.out.size _⟩
     case measure=>simp only [intOf];omega
   ·have e1:¬ (j:Int) < (L.length:Int):=by omega
    rw [j9 (by omega)]
    go_wp2
    go_ret
    exact⟨by rw [HX.out];rfl,HB.out⟩
def kM(f:Fl):Int:=if f.mx=-1 then f.mn+1 else max f.mx 1
theorem bA7{f:Fl}(w:World)(hb:fU f.mn f.mx=true):Calls Tryz.prog 107 #[.agg #[.int .i64 f.k,.int .i64 f.n,.int .i64 f.mn,.int .i64 f.mx,.slice f.rq f.rs.length f.rc,.slice f.kq f.kl f.kc]] w fun e w'=>e=.returned (.int .i64 (kM f))/\Below w.heap.size w w':=by
 have B0:Hid (Below w.heap.size w (w.alloc (.cells #[.int .i64 f.k,.int .i64 f.n,.int .i64 f.mn,.int .i64 f.mx,.slice f.rq f.rs.length f.rc,.slice f.kq f.kl f.kc] 25))):=bz9
 have hb':0<=f.mn/\f.mn<=255:=by simp [fU] at hb;omega
 clear hb
 by_cases hi:f.mx=-1
 ·have h1:(f.mx==-1)=true:=by simpa using hi
  have HV:Hid (kM f=f.mn+1):=if_pos hi
  clear hi
  go_enter Tryz.func107,Tryz.ntmps107
  go_wp2
  go_ret
  exact⟨by rw [HV.out];go_num,B0.out⟩
 ·have h1:(f.mx==-1)=false:=by simpa using hi
  have HV:Hid (kM f=max f.mx 1):=if_neg hi
  have hm:∀ t ty w,(Builtin.max_ t ty #[.int .i64 f.mx,.int .i64 1]).run Tryz.prog w=.ok (.int .i64 (max f.mx 1)) w:=fun t ty w=>jI _ t ty w _ _
  clear hi
  go_enter Tryz.func107,Tryz.ntmps107
  go_wp2
  go_ret
  exact⟨by rw [HV.out];rfl,B0.out⟩
def eN(c:Bool)(f:Fl)(xs:List Int):Int:=if f.k=2 then sC c f.rs else if f.k=5\/f.k=6 then (xs.length:Int)+xs.sum else if f.k=7 then xs.headD 0+2 else if f.k=9 then (xs.headD 0+2) * kM f else 1
def oF(c:Bool):dH Int:=fun f _ xs _=>min (eN c f xs) 10001
def kH(x:Int):Prop:=0<=x/\x<=10001
theorem aK7(xs:List Int):ceI xs=xs.map (Value.int .i64):=by
 induction xs with
 | nil=>rfl
 | cons x l ih=>rw [r7,<- ih];rfl
theorem wD{l:List Int}(h:∀ x∈l,kH x):0<=l.sum/\l.sum<=10001 * (l.length:Int):=by
 induction l with
 | nil=>simp
 | cons x l ih=>
  have h1:=h x (m8 ..)
  have h2:=ih fun y hy=>h y (n6 _ hy)
  unfold kH at h1
  rw [List.sum_cons,j8]
  omega
theorem hQ{c o:Bool}{t:Tr}(h:NP c o t):t.f.k=1\/t.f.k=2\/t.f.k=3\/t.f.k=4\/t.f.k=5\/t.f.k=6\/t.f.k=7\/t.f.k=8\/t.f.k=9:=by
 have:=rW h.1
 simp [eX] at this
 omega
theorem pT{c o:Bool}{t:Tr}(h:NP c o t)(hk:t.f.k=2):oE c o t.f.rs:=by
 have:=h.1;unfold fO at this;rw [hk] at this;simp at this;exact this.1
theorem rC{c o:Bool}{t:Tr}(h:NP c o t)(hk:t.f.k=5\/t.f.k=6):1 < t.ks.length:=by
 have:=h.1;unfold fO at this
 rcases hk with hk | hk <;> (rw [hk] at this;simp at this;exact this.1)
theorem fG{c o:Bool}{t:Tr}(h:NP c o t)(hk:t.f.k=7\/t.f.k=9):t.ks.length=1:=by
 have:=h.1;unfold fO at this
 rcases hk with hk | hk
 ·rw [hk] at this;simp at this;exact this.1
 ·rw [hk] at this;simp at this;exact this.2.1
theorem lT{c o:Bool}{t:Tr}(h:NP c o t)(hk:t.f.k=9):fU t.f.mn t.f.mx=true:=by
 have:=h.1;unfold fO at this;rw [hk] at this;simp at this;exact this.1
theorem wM{c o:Bool}{t:Tr}(h:NP c o t)(hk:t.f.k=8):1<=t.f.n/\t.f.n<=9:=by
 have:=h.1;unfold fO at this;rw [hk] at this;simp at this;exact this.1
theorem yE{f:Fl}(h:fU f.mn f.mx=true):1<=kM f/\kM f<=256:=by
 simp [fU] at h
 unfold kM
 split <;> omega
theorem aT7(c:Bool)(l:List (Int × Int)):1<=sC c l:=by
 unfold sC
 split <;> omega
theorem aN0{c o:Bool}(t:Tr)(xs:List Int)(g:Int->Int)(hn:NP c o t)(_:xs.length=t.ks.length)(hx:∀ x∈xs,kH x)(_:∀ i,kH (g i)):kH (oF c t.f t.ks xs g):=by
 have:0<=eN c t.f xs:=by
  have hh:0<=xs.headD 0:=by
   cases xs with
   | nil=>simp
   | cons x l=>have:=hx x (m8 ..);unfold kH at this;simpa using this.1
  unfold eN
  split
  ·have:=aT7 c t.f.rs;omega
  ·split
   ·have:=wD hx;omega
   ·split
    ·omega
    ·split
     ·rename_i hk
      have:=yE (lT hn hk)
      exact Int.mul_nonneg (by omega) (by omega)
     ·omega
 unfold oF kH
 omega
theorem bJ9(c o:Bool):RuI (fun _=>True) (NP c o) kH (oF c) c o:=by
 intro t xs g W v bp bb n base _ hnp hsz hnb hlen hgx _ hown _ _
 obtain⟨qv,cv,rfl⟩:=aZ hown
 have B0:Hid (Below W.heap.size W (W.alloc (.cells (dE t.f c o (.slice qv xs.length cv) (.func (.func 104) #[] #[bx bp])) 168))):=bz9
 have HO:=aD hown
 have HLEN:=aD hlen
 have HNB:=aD hnb
 have HGX:=aD hgx
 have HV:Hid (oF c t.f t.ks xs g=min (eN c t.f xs) 10001):=rfl
 have hxl:xs.length<=9223372036854775807:=by
  rcases hown.2 with⟨_,h0⟩ | ⟨_,cap,_,_,_,_,h1,h2,_⟩
  ·omega
  ·unfold maxLen at h2;omega
 have hmin:∀ t' ty w,(Builtin.min_ t' ty #[.int .i64 (eN c t.f xs),.int .i64 10001]).run Tryz.prog w=.ok (.int .i64 (oF c t.f t.ks xs g)) w:=fun t' ty w=>oK _ t' ty w _ _
 have hsum:=wD hgx
 have hkl:t.ks.length<=1000000:=hsz
 clear hown hnb hgx hlen
 unfold dE at *
 rcases hQ hnp with hk | hk | hk | hk | hk | hk | hk | hk | hk
 ·have ha:eN c t.f xs=1:=by unfold eN;rw [hk];rfl
  rw [ha] at hmin
  rw [hk] at B0 ⊢
  clear hk ha hnp hsum
  go_enter Tryz.func56,Tryz.ntmps56
  go_wp2
  go_ret
  exact⟨rfl,B0.out⟩
 ·have ha:eN c t.f xs=sC c t.f.rs:=by unfold eN;rw [hk];rfl
  have HM:=aD (pT hnp hk)
  rw [ha] at hmin
  rw [hk] at B0 ⊢
  clear hk ha hnp hsum
  have HC:=aD (aN1 (w:=W.alloc (.cells #[.int .i64 2,.int .i64 t.f.n,.int .i64 t.f.mn,.int .i64 t.f.mx,.slice t.f.rq t.f.rs.length t.f.rc,.slice t.f.kq t.f.kl t.f.kc,.bool c,.bool o,.slice qv xs.length cv,.func (.func 104) #[] #[bx bp]] 168)) c o (HNB.out.r.kept B0.out) (sE HM.out.1))
  go_enter Tryz.func56,Tryz.ntmps56
  go_wp2_with (go_at_call 106;refine HC.out.mono ?_;rintro e w5 ⟨rfl,h5⟩;have B5:=aD h5;clear h5)
  go_ret
  exact⟨rfl,aJ B0.out B5.out lz9⟩
 ·have ha:eN c t.f xs=1:=by unfold eN;rw [hk];rfl
  rw [ha] at hmin
  rw [hk] at B0 ⊢
  clear hk ha hnp hsum
  go_enter Tryz.func56,Tryz.ntmps56
  go_wp2
  go_ret
  exact⟨rfl,B0.out⟩
 ·have ha:eN c t.f xs=1:=by unfold eN;rw [hk];rfl
  rw [ha] at hmin
  rw [hk] at B0 ⊢
  clear hk ha hnp hsum
  go_enter Tryz.func56,Tryz.ntmps56
  go_wp2
  go_ret
  exact⟨rfl,B0.out⟩
 ·have ha:eN c t.f xs=(xs.length:Int)+xs.sum:=by unfold eN;rw [hk];rfl
  rw [ha] at hmin
  rw [hk] at B0 ⊢
  clear hk ha hnp
  have hc:∀ (i:Nat) (x:Int),xs[i]?=some x->∃ gb,qv=some ⟨gb,0,none⟩/\gb < W.heap.size/\W.cell? ⟨gb,i,none⟩=some (.int .i64 x):=fun i x hx=>by
   have hi:=(i5.1 hx).1
   obtain⟨gb,cb,e⟩:=aL HO.out (by omega)
   injection e with e1 e2 e3
   subst e1 e3
   exact⟨gb,rfl,(aH HO.out rfl).2.1,aU HO.out (by rw [aK7];simp [hx])⟩
  have HC:=aD hc
  clear hc
  have hl:xs.length<=1000000:=by rw [HLEN.out];exact hkl
  go_enter Tryz.func56,Tryz.ntmps56
  go_wp2
  go_loopw [3,26] (fun a i wr=>∃ j:Nat,j<=xs.length/\i=.int .i64 (j:Int)/\a=.int .i64 ((xs.length:Int)+(xs.take j).sum)/\Below W.heap.size W wr) (fun _ i _=>xs.length - (intOf i).toNat)
  case atStart=>exact⟨0,m9 _,rfl,by simp,B0.out⟩
  case round=>
   obtain⟨j,hj,rfl,rfl,hb⟩:=hrel
   have HB:=aD hb
   clear hb
   by_cases hjl:j < xs.length
   ·obtain⟨x,hx⟩:∃ x,xs[j]?=some x:=⟨_,g9 hjl⟩
    obtain⟨gb,rfl,hg,c1⟩:=HC.out j x hx
    have e1:(j:Int) < (xs.length:Int):=by omega
    have c3:=(HB.out.cell (p:=⟨gb,j,none⟩) hg).trans c1
    have T1:=aD (show (xs.take (j+1)).sum=(xs.take j).sum+x by rw [o5,hx];simp)
    have s1:=wD (l:=xs.take j) fun y hy=>HGX.out y (aAU hy)
    have s2:=HGX.out x (i9 hx)
    have s3:(xs.take j).length<=xs.length:=by rw [o9];omega
    unfold kH at s2
    clear c1 hx
    go_wp2
    go_roundw
    case rel=>exact⟨j+1,by omega,by go_num,by rw [T1.out];go_num,HB.out⟩
    case measure=>simp only [intOf];omega
   ·have e1:¬ (j:Int) < (xs.length:Int):=by omega
    rw [j9 (by omega)]
    go_wp2
    go_ret
    exact⟨rfl,HB.out⟩
 ·have ha:eN c t.f xs=(xs.length:Int)+xs.sum:=by unfold eN;rw [hk];rfl
  rw [ha] at hmin
  rw [hk] at B0 ⊢
  clear hk ha hnp
  have hc:∀ (i:Nat) (x:Int),xs[i]?=some x->∃ gb,qv=some ⟨gb,0,none⟩/\gb < W.heap.size/\W.cell? ⟨gb,i,none⟩=some (.int .i64 x):=fun i x hx=>by
   have hi:=(i5.1 hx).1
   obtain⟨gb,cb,e⟩:=aL HO.out (by omega)
   injection e with e1 e2 e3
   subst e1 e3
   exact⟨gb,rfl,(aH HO.out rfl).2.1,aU HO.out (by rw [aK7];simp [hx])⟩
  have HC:=aD hc
  clear hc
  have hl:xs.length<=1000000:=by rw [HLEN.out];exact hkl
  go_enter Tryz.func56,Tryz.ntmps56
  go_wp2
  go_loopw [3,26] (fun a i wr=>∃ j:Nat,j<=xs.length/\i=.int .i64 (j:Int)/\a=.int .i64 ((xs.length:Int)+(xs.take j).sum)/\Below W.heap.size W wr) (fun _ i _=>xs.length - (intOf i).toNat)
  case atStart=>exact⟨0,m9 _,rfl,by simp,B0.out⟩
  case round=>
   obtain⟨j,hj,rfl,rfl,hb⟩:=hrel
   have HB:=aD hb
   clear hb
   by_cases hjl:j < xs.length
   ·obtain⟨x,hx⟩:∃ x,xs[j]?=some x:=⟨_,g9 hjl⟩
    obtain⟨gb,rfl,hg,c1⟩:=HC.out j x hx
    have e1:(j:Int) < (xs.length:Int):=by omega
    have c3:=(HB.out.cell (p:=⟨gb,j,none⟩) hg).trans c1
    have T1:=aD (show (xs.take (j+1)).sum=(xs.take j).sum+x by rw [o5,hx];simp)
    have s1:=wD (l:=xs.take j) fun y hy=>HGX.out y (aAU hy)
    have s2:=HGX.out x (i9 hx)
    have s3:(xs.take j).length<=xs.length:=by rw [o9];omega
    unfold kH at s2
    clear c1 hx
    go_wp2
    go_roundw
    case rel=>exact⟨j+1,by omega,by go_num,by rw [T1.out];go_num,HB.out⟩
    case measure=>simp only [intOf];omega
   ·have e1:¬ (j:Int) < (xs.length:Int):=by omega
    rw [j9 (by omega)]
    go_wp2
    go_ret
    exact⟨rfl,HB.out⟩
 ·obtain⟨x,rfl⟩:∃ x,xs=[x]:=by
   have:=fG hnp (.inl hk)
   match xs,HLEN.out with
   | [x],_=>exact⟨x,rfl⟩
   | [],e=>rw [this] at e;simp at e
   | _ :: _ :: _,e=>rw [this] at e;simp at e
  have ha:eN c t.f [x]=x+2:=by unfold eN;rw [hk];rfl
  rw [ha] at hmin
  rw [hk] at B0 ⊢
  have hx:=HGX.out x (m8 ..)
  unfold kH at hx
  clear hk ha hnp hsum
  simp only [j8,List.length_nil,g8] at B0 HO ⊢
  obtain⟨gb,cb,e⟩:=aL HO.out (by omega)
  injection e with e1 e2 e3
  subst e1 e3
  have hg:=(aH HO.out rfl).2.1
  have c1:W.cell? ⟨gb,0,none⟩=some (.int .i64 x):=aU HO.out (j:=0) rfl
  clear e2
  go_enter Tryz.func56,Tryz.ntmps56
  go_wp2
  go_ret
  exact⟨rfl,B0.out⟩
 ·have ha:eN c t.f xs=1:=by unfold eN;rw [hk];rfl
  rw [ha] at hmin
  rw [hk] at B0 ⊢
  clear hk ha hnp hsum
  go_enter Tryz.func56,Tryz.ntmps56
  go_wp2
  go_ret
  exact⟨rfl,B0.out⟩
 ·obtain⟨x,rfl⟩:∃ x,xs=[x]:=by
   have:=fG hnp (.inr hk)
   match xs,HLEN.out with
   | [x],_=>exact⟨x,rfl⟩
   | [],e=>rw [this] at e;simp at e
   | _ :: _ :: _,e=>rw [this] at e;simp at e
  have hbd:=lT hnp hk
  have htl:=yE hbd
  have hx:=HGX.out x (m8 ..)
  unfold kH at hx
  obtain⟨tn,htn⟩:∃ y,kM t.f=y:=⟨_,rfl⟩
  have HT:=aD htn
  rw [htn] at htl
  have hmul:0<=(x+2) * tn/\(x+2) * tn<=10003 * 256:=⟨Int.mul_nonneg (by omega) (by omega),Int.mul_le_mul (by omega) htl.2 (by omega) (by omega)⟩
  have ha:eN c t.f [x]=(x+2) * tn:=by unfold eN;rw [hk,htn];rfl
  have HBD:=aD hbd
  have HK:=aD hk
  rw [ha] at hmin
  rw [hk] at B0 ⊢
  clear hk ha hnp hsum hbd htn
  simp only [j8,List.length_nil,g8] at B0 HO ⊢
  obtain⟨gb,cb,e⟩:=aL HO.out (by omega)
  injection e with e1 e2 e3
  subst e1 e3
  have hg:=(aH HO.out rfl).2.1
  have c1:W.cell? ⟨gb,0,none⟩=some (.int .i64 x):=aU HO.out (j:=0) rfl
  clear e2
  have tc:∀ w,Calls Tryz.prog 107 #[.agg #[.int .i64 9,.int .i64 t.f.n,.int .i64 t.f.mn,.int .i64 t.f.mx,.slice t.f.rq t.f.rs.length t.f.rc,.slice t.f.kq t.f.kl t.f.kc]] w fun e w'=>e=.returned (.int .i64 tn)/\Below w.heap.size w w':=fun w=>by
   have:=bA7 (f:=t.f) w HBD.out
   rw [HT.out,HK.out] at this
   exact this
  have TC:=aD tc
  clear tc
  go_enter Tryz.func56,Tryz.ntmps56
  go_wp2
  refine wx9 ?_
  repeat (go_big_quiet_step (first | exact rfl |(go_at_call 107;exact bN (TC.out _))))
  refine wpQuiet_nil ?_
  intro w3 hw
  have B3:=aD (aQ hw)
  clear hw
  go_wp2
  go_ret
  exact⟨rfl,aJ B0.out B3.out lz9⟩
end
section
attribute [local go_sem] Oper.semAt_some
abbrev TWW:=TW 73 74 41 119 120 70 118
def enW(x:Int × Int):Value:=.agg #[.int .i64 x.1,.int .i64 x.2]
def ceW(xs:List (Int × Int)):List Value:=xs.flatMap fun x=>[.int .i64 x.1,.int .i64 x.2]
theorem wW(xs:List (Int × Int))(x:Int × Int):ceW (xs ++ [x])=ceW xs ++ [.int .i64 x.1,.int .i64 x.2]:=by simp [ceW]
theorem aC3:Tryz.prog.underlying 121=some (.slice 68):=by kernel_rfl
theorem aS2:Tryz.prog.underlying 118=some (.map 3 68):=by kernel_rfl
theorem bK0:(Tryz.prog.info? 68).map (fun i=>(i.zero,i.size,i.bytes))=some (some (.agg #[.int .i64 0,.int .i64 0]),2,16):=by kernel_rfl
def RuW(Glo:World->Prop)(NP:Tr->Prop)(Good:Int × Int->Prop)(ρ:dH (Int × Int))(c o:Bool):Prop:=
 ∀ (t:Tr) (xs:List (Int × Int)) (g:Int->Int × Int) (W:World) (v:Value) (bp bb n base:Nat),Glo W->NP t->t.ks.length<=1000000->NB W t->xs.length=t.ks.length->(∀ x∈xs,Good x)->(∀ i,Good (g i))->W.ownsRow base 68 2 v xs.length (ceW xs) ->
  W.heap[bp]?=some (.cells #[.map (some bb)] 118 (0,0))->MapV W (.agg #[.int .i64 0,.int .i64 0]) bb n (fun i=>enW (g i)) ->
  Calls Tryz.prog 41 #[.agg (dE t.f c o v (.func (.func 73) #[] #[bx bp]))] W fun e w'=>e=.returned (enW (ρ t.f t.ks xs g))/\Below W.heap.size W w'
def OfW(ρ:dH (Int × Int))(w:World)(bb n:Nat)(t:Tr)(g:Int->Int × Int)(e:Ending)(w':World):Prop:=
 e=.returned (enW (ev ρ g t).1)/\MapV w' (.agg #[.int .i64 0,.int .i64 0]) bb (n+t.sz) (fun i=>enW ((ev ρ g t).2 i))/\Fr (fun k=>k=bb) w w'
theorem aH9{R:Ending->World->Prop}{a:Act}{W:World}{b:Nat}{x:Int × Int}(h:W.heap[b]?=some (.cells #[.int .i64 x.1,.int .i64 x.2] 68 (0,0)))(ha:a.tmps[7]?.getD undef=.pointer (some ⟨b,0,none⟩))(hd:a.defers=[])(hR:R (.returned (enW x)) W):bodyPost Tryz.prog Tryz.f74 R .ret a W:=by
 refine bodyPost_ret (v:=enW x) ?_ hd hR
 have z0:=aA h (i:=0) rfl;have z1:=aA h (i:=1) rfl
 simp [results,Tryz.results74,go_sem,ha,enW,z0,z1]
structure LpW(ρ:dH (Int × Int))(W0 wr:World)(b s n:Nat)(t:Tr)(c o:Bool)(g:Int->Int × Int)(j:Nat)(v gv:Value):Prop where
 sc:wr.heap[s]?=some (.cells (dE t.f c o v gv) 123 (0,0))
 own:wr.ownsRow W0.heap.size 68 2 v j (ceW (evs ρ g (t.ks.take j)).1)
 mp:MapV wr (.agg #[.int .i64 0,.int .i64 0]) b (n+szs (t.ks.take j)) (fun i=>enW ((evs ρ g (t.ks.take j)).2 i))
 fr:Fr (Wr2 b s) W0 wr
theorem bP2{Glo:World->Prop}(hglo:∀ {A B:World},CK A B->Glo A->Glo B){NP:Tr->Prop}{Good:Int × Int->Prop}{ρ:dH (Int × Int)}{c o:Bool}(hr:RuW Glo NP Good ρ c o)(hwf:∀ t,NP t->t.f.k=7->(Lit.int .i64 t.f.n).wf=true)(hg:∀ t xs g,NP t->xs.length=t.ks.length->(∀ x∈xs,Good x)->(∀ i,Good (g i))->Good (ρ t.f t.ks xs g))(bm bg bo br bp bb:Nat) :
  ∀ (m:Nat) (t:Tr) (w:World) (n:Nat) (g:Int->Int × Int),t.sz<=m->n+t.sz<=1000000->Glo w->TB w t->bY NP t->(∀ i,Good (g i))->TWW w bm bg bo br bp bb c o->MapV w (.agg #[.int .i64 0,.int .i64 0]) bb n (fun i=>enW (g i)) ->
   Calls Tryz.prog 74 #[.agg #[.int .i64 t.f.k,.int .i64 t.f.n,.int .i64 t.f.mn,.int .i64 t.f.mx,.slice t.f.rq t.f.rs.length t.f.rc,.slice t.f.kq t.f.kl t.f.kc],bx bm,bx bg,bx bo,bx br,bx bp] w (OfW ρ w bb n t g):=by
 intro m
 induction m with
 | zero=>intro t w n g hm;exact absurd (eV t) (by omega)
 | succ m ih=>
  intro t w n g hm hn hgw hta hnp hgd htw hmp
  have HGW:=aD hgw
  clear hgw
  obtain⟨t0,ti,hz0,hz1,hz2⟩:=bH bK0
  have TI:Hid (Tryz.prog.info? 68=some t0/\t0.zero=some (.agg #[.int .i64 0,.int .i64 0])/\t0.size=2/\t0.bytes=16):=⟨ti,hz0,hz1,hz2⟩
  clear ti hz0 hz1 hz2
  have HTA:=aD hta
  have HTW:=aD htw
  obtain⟨q,cap,hkv,hk1,hk2,hk3⟩:=hta.node.k.slice
  injection hkv with hkq hkl hkc
  subst hkq
  have HKL:=aD hkl
  have HK3:=aD hk3
  have hkm:t.ks.length<=9223372036854775807:=hk1
  have hkz:=aD (show szs t.ks+1=t.sz from (jG t).symm)
  clear hkl hkc hk3 hk1
  have m0:w.cell? ⟨bm,0,none⟩=some (.bool c):=aA htw.m (i:=0) rfl
  have m1:w.cell? ⟨bm,1,none⟩=some (.bool o):=aA htw.m (i:=1) rfl
  obtain⟨gv,hgv⟩:∃ gv,Value.func (.func 73) #[] #[bx bp]=gv:=⟨_,rfl⟩
  have g0:w.cell? ⟨bg,0,none⟩=some (.func (.func 73) #[] #[bx bp]):=aA htw.g (i:=0) rfl
  have l1:=aB htw.m
  have l2:=aB htw.g
  have IH:=aD ih
  have HR:=aD hr
  have HWF:=aD hwf
  have HG:=aD hg
  have HNP:=aD hnp
  have HGD:=aD hgd
  have HMP:=aD hmp
  have HM:=aD hm
  have HN:=aD hn
  have HGV:=aD hgv
  clear ih hr hwf hg hnp hgd hmp hm hn hta htw hgv
  go_enter Tryz.func74,Tryz.ntmps74
  go_upto_region 5 with fail
  have B0:Hid (Below w.heap.size w (((w.alloc (.cells #[.int .i64 t.f.k,.int .i64 t.f.n,.int .i64 t.f.mn,.int .i64 t.f.mx,.slice t.f.rq t.f.rs.length t.f.rc,.slice t.f.kq t.f.kl t.f.kc] 25)).alloc (.cells #[.int .i64 0,.int .i64 0] 68)).alloc (.cells #[.int .i64 t.f.k,.int .i64 t.f.n,.int .i64 t.f.mn,.int .i64 t.f.mx,.slice t.f.rq t.f.rs.length t.f.rc,.slice t.f.kq t.f.kl t.f.kc,.bool c,.bool o,.slice none 0 0,.func (.func 73) #[] #[bx bp]] 123))):=((bz9).alloc (by simp only [a7];omega) _).alloc (by simp only [a7];omega) _
  have N0:Hid (BoxN (((w.alloc (.cells #[.int .i64 t.f.k,.int .i64 t.f.n,.int .i64 t.f.mn,.int .i64 t.f.mx,.slice t.f.rq t.f.rs.length t.f.rc,.slice t.f.kq t.f.kl t.f.kc] 25)).alloc (.cells #[.int .i64 0,.int .i64 0] 68)).alloc (.cells #[.int .i64 t.f.k,.int .i64 t.f.n,.int .i64 t.f.mn,.int .i64 t.f.mx,.slice t.f.rq t.f.rs.length t.f.rc,.slice t.f.kq t.f.kl t.f.kc,.bool c,.bool o,.slice none 0 0,.func (.func 73) #[] #[bx bp]] 123)) w.heap.size t.f):=(Below.heap_alloc _ _ _ (by simp only [a7];omega)).trans ((Below.heap_alloc _ _ _ (by simp only [a7];omega)).trans (aE w _))
  have R0:Hid ((((w.alloc (.cells #[.int .i64 t.f.k,.int .i64 t.f.n,.int .i64 t.f.mn,.int .i64 t.f.mx,.slice t.f.rq t.f.rs.length t.f.rc,.slice t.f.kq t.f.kl t.f.kc] 25)).alloc (.cells #[.int .i64 0,.int .i64 0] 68)).alloc (.cells #[.int .i64 t.f.k,.int .i64 t.f.n,.int .i64 t.f.mn,.int .i64 t.f.mx,.slice t.f.rq t.f.rs.length t.f.rc,.slice t.f.kq t.f.kl t.f.kc,.bool c,.bool o,.slice none 0 0,.func (.func 73) #[] #[bx bp]] 123)).heap[w.heap.size+1]?=some (.cells #[.int .i64 0,.int .i64 0] 68 (0,0))):=(by have:=aE (w.alloc (.cells #[.int .i64 t.f.k,.int .i64 t.f.n,.int .i64 t.f.mn,.int .i64 t.f.mx,.slice t.f.rq t.f.rs.length t.f.rc,.slice t.f.kq t.f.kl t.f.kc] 25)) (.cells #[.int .i64 0,.int .i64 0] 68);rw [a7] at this;exact(Below.heap_alloc _ _ _ (by simp)).trans this)
  have S0:Hid ((((w.alloc (.cells #[.int .i64 t.f.k,.int .i64 t.f.n,.int .i64 t.f.mn,.int .i64 t.f.mx,.slice t.f.rq t.f.rs.length t.f.rc,.slice t.f.kq t.f.kl t.f.kc] 25)).alloc (.cells #[.int .i64 0,.int .i64 0] 68)).alloc (.cells #[.int .i64 t.f.k,.int .i64 t.f.n,.int .i64 t.f.mn,.int .i64 t.f.mx,.slice t.f.rq t.f.rs.length t.f.rc,.slice t.f.kq t.f.kl t.f.kc,.bool c,.bool o,.slice none 0 0,.func (.func 73) #[] #[bx bp]] 123)).heap[w.heap.size+1+1]?=some (.cells (dE t.f c o (.slice none 0 0) (.func (.func 73) #[] #[bx bp])) 123 (0,0))):=(by have:=aE ((w.alloc (.cells #[.int .i64 t.f.k,.int .i64 t.f.n,.int .i64 t.f.mn,.int .i64 t.f.mx,.slice t.f.rq t.f.rs.length t.f.rc,.slice t.f.kq t.f.kl t.f.kc] 25)).alloc (.cells #[.int .i64 0,.int .i64 0] 68)) (.cells #[.int .i64 t.f.k,.int .i64 t.f.n,.int .i64 t.f.mn,.int .i64 t.f.mx,.slice t.f.rq t.f.rs.length t.f.rc,.slice t.f.kq t.f.kl t.f.kc,.bool c,.bool o,.slice none 0 0,.func (.func 73) #[] #[bx bp]] 123);simp only [a7] at this;exact this)
  generalize hW0:(((w.alloc (.cells #[.int .i64 t.f.k,.int .i64 t.f.n,.int .i64 t.f.mn,.int .i64 t.f.mx,.slice t.f.rq t.f.rs.length t.f.rc,.slice t.f.kq t.f.kl t.f.kc] 25)).alloc (.cells #[.int .i64 0,.int .i64 0] 68)).alloc (.cells #[.int .i64 t.f.k,.int .i64 t.f.n,.int .i64 t.f.mn,.int .i64 t.f.mx,.slice t.f.rq t.f.rs.length t.f.rc,.slice t.f.kq t.f.kl t.f.kc,.bool c,.bool o,.slice none 0 0,.func (.func 73) #[] #[bx bp]] 123))=W0 at B0 N0 R0 S0 ⊢
  clear hW0
  obtain⟨bs,hbs⟩:∃ bs,w.heap.size+1+1=bs:=⟨_,rfl⟩
  have HBS:Hid (w.heap.size<=bs/\bs < W0.heap.size/\bs=w.heap.size+1+1):=⟨by omega,by rw [<- hbs];exact aB S0.out,hbs.symm⟩
  rw [hbs] at S0 ⊢
  clear hbs
  have MB:Hid (∃ es clock,W0.heap[bb]?=some (.map es clock)):=aD (by obtain⟨es,cl,hb⟩:=HMP.out.block;exact⟨es,cl,(B0.out.block _ (aB hb)).trans hb⟩)
  go_loopw [19] (fun i wr=>∃ (j:Nat) (v:Value),j<=t.ks.length/\i=.int .i64 (j:Int)/\LpW ρ W0 wr bb bs n t c o g j v (.func (.func 73) #[] #[bx bp])) (fun i _=>t.ks.length - (intOf i).toNat)
  case atStart=>exact⟨0,_,m9 _,rfl,S0.out,(by rw [aAS,cX];exact⟨rfl,.inl ⟨rfl,rfl⟩⟩),(by rw [aAS,cX,fZ];exact HMP.out.kept B0.out),Fr.refl _ _⟩
  case round=>
   clear S0
   obtain⟨j,v,hj,rfl,hlp⟩:=hrel
   obtain⟨qv,cv,rfl⟩:=aZ hlp.own
   have LP:=aD hlp
   have CW:Hid (CK w wr):=fQ MB.out HBS.out.1 B0.out hlp.fr
   clear hlp
   by_cases hjl:j < t.ks.length
   ·have e0:(j:Int) < (t.f.kl:Int):=by rw [HKL.out];omega
    obtain⟨u,hu⟩:∃ u,t.ks[j]?=some u:=⟨_,g9 hjl⟩
    obtain⟨gq,off,hq,hgl,hsix⟩:=HK3.out j u hu
    rw [hq]
    obtain⟨c0,c1,c2,c3,c4,c5⟩:=hsix.ck CW.out hgl
    have HU:=aD hu
    have hin:u∈t.ks:=i9 hu
    clear hsix hu
    have SK:Hid (Fr (Wr2 bb bs) W0 (wr.alloc (.cells #[.int .i64 u.f.k,.int .i64 u.f.n,.int .i64 u.f.mn,.int .i64 u.f.mx,.slice u.f.rq u.f.rs.length u.f.rc,.slice u.f.kq u.f.kl u.f.kc] 25)).drew/\BoxN (wr.alloc (.cells #[.int .i64 u.f.k,.int .i64 u.f.n,.int .i64 u.f.mn,.int .i64 u.f.mx,.slice u.f.rq u.f.rs.length u.f.rc,.slice u.f.kq u.f.kl u.f.kc] 25)).drew wr.heap.size u.f):=⟨(LP.out.fr.alloc _).drew,aE wr _⟩
    have NE:Hid (¬ wr.heap.size=bb/\¬ bb=bs):=⟨fun e=>by have:=LP.out.mp.lt;omega,fun e=>by
     obtain⟨es,cl,hb⟩:=LP.out.mp.block
     rw [e,LP.out.sc] at hb
     cases hb⟩
    have NE3:Hid (wr.heap.size≠bs):=fun e=>by have:=aB LP.out.sc;omega
    have CB:Hid ((wr.alloc (.cells #[.int .i64 u.f.k,.int .i64 u.f.n,.int .i64 u.f.mn,.int .i64 u.f.mx,.slice u.f.rq u.f.rs.length u.f.rc,.slice u.f.kq u.f.kl u.f.kc] 25)).drew.heap[bs]?=some (.cells (dE t.f c o (.slice qv j cv) (.func (.func 73) #[] #[bx bp])) 123 (0,0))):=(Below.heap_alloc wr _ _ (aB LP.out.sc)).trans LP.out.sc
    have k8:(wr.alloc (.cells #[.int .i64 u.f.k,.int .i64 u.f.n,.int .i64 u.f.mn,.int .i64 u.f.mx,.slice u.f.rq u.f.rs.length u.f.rc,.slice u.f.kq u.f.kl u.f.kc] 25)).drew.cell? ⟨bs,8,none⟩=some (.slice qv j cv):=aA CB.out (i:=8) rfl
    have QC:Hid (∀ w',(Fr (Wr2 bb bs) W0 w'/\BoxN w' wr.heap.size u.f)->w'.cell? ⟨bo,0,none⟩=some (.func (.func 74) #[] #[bx bm,bx bg,bx bo,bx br,bx bp])/\w'.cell? ⟨wr.heap.size,0,none⟩=some (.int .i64 u.f.k)/\w'.cell? ⟨wr.heap.size,1,none⟩=some (.int .i64 u.f.n)/\w'.cell? ⟨wr.heap.size,2,none⟩=some (.int .i64 u.f.mn)/\w'.cell? ⟨wr.heap.size,3,none⟩=some (.int .i64 u.f.mx)/\w'.cell? ⟨wr.heap.size,4,none⟩=some (.slice u.f.rq u.f.rs.length u.f.rc)/\w'.cell? ⟨wr.heap.size,5,none⟩=some (.slice u.f.kq u.f.kl u.f.kc)):=fun w' hS=>by
     have six:=hS.2.six
     simp only [Six,g8] at six
     exact⟨aA (HTW.out.ck (fQ MB.out HBS.out.1 B0.out hS.1)).o (i:=0) rfl,six⟩
    have MK:Hid (MapV (wr.alloc (.cells #[.int .i64 u.f.k,.int .i64 u.f.n,.int .i64 u.f.mn,.int .i64 u.f.mx,.slice u.f.rq u.f.rs.length u.f.rc,.slice u.f.kq u.f.kl u.f.kc] 25)).drew (.agg #[.int .i64 0,.int .i64 0]) bb (n+szs (t.ks.take j)) (fun i=>enW ((evs ρ g (t.ks.take j)).2 i))):=LP.out.mp.kept ((bz9).drew)
    have OK:Hid ((wr.alloc (.cells #[.int .i64 u.f.k,.int .i64 u.f.n,.int .i64 u.f.mn,.int .i64 u.f.mx,.slice u.f.rq u.f.rs.length u.f.rc,.slice u.f.kq u.f.kl u.f.kc] 25)).drew.ownsRow W0.heap.size 68 2 (.slice qv j cv) j (ceW (evs ρ g (t.ks.take j)).1)):=aBO (l9 LP.out.own _)
    have CK2:Hid (CK w (wr.alloc (.cells #[.int .i64 u.f.k,.int .i64 u.f.n,.int .i64 u.f.mn,.int .i64 u.f.mx,.slice u.f.rq u.f.rs.length u.f.rc,.slice u.f.kq u.f.kl u.f.kc] 25)).drew):=fQ MB.out HBS.out.1 B0.out SK.out.1
    have LJ:=aD (show j<=1000000 by have:=eM t.ks;have:=hkz.out;have:=HN.out;omega)
    have IH0:=IH.out u (wr.alloc (.cells #[.int .i64 u.f.k,.int .i64 u.f.n,.int .i64 u.f.mn,.int .i64 u.f.mx,.slice u.f.rq u.f.rs.length u.f.rc,.slice u.f.kq u.f.kl u.f.kc] 25)).drew (n+szs (t.ks.take j)) (evs ρ g (t.ks.take j)).2 (by have:=dM hin;have:=HM.out;omega)
     (by have:=pP t.ks (j+1);rw [cC HU.out] at this;have:=hkz.out;have:=HN.out;omega) (hglo CK2.out HGW.out) ((HTA.out.ck CK2.out).kid hin) (bI HNP.out hin)
     (eY HG.out (t.ks.take j) g (fun u hu=>bI HNP.out (aAU hu)) HGD.out).2 (HTW.out.ck CK2.out) MK.out
    obtain⟨x5,hx5⟩:∃ x,(ev ρ (evs ρ g (t.ks.take j)).2 u).1=x:=⟨_,rfl⟩
    have IHU:Hid (Calls Tryz.prog 74 #[.agg #[.int .i64 u.f.k,.int .i64 u.f.n,.int .i64 u.f.mn,.int .i64 u.f.mx,.slice u.f.rq u.f.rs.length u.f.rc,.slice u.f.kq u.f.kl u.f.kc],bx bm,bx bg,bx bo,bx br,bx bp] (wr.alloc (.cells #[.int .i64 u.f.k,.int .i64 u.f.n,.int .i64 u.f.mn,.int .i64 u.f.mx,.slice u.f.rq u.f.rs.length u.f.rc,.slice u.f.kq u.f.kl u.f.kc] 25)).drew (fun e w'=>e=.returned (.agg #[.int .i64 x5.1,.int .i64 x5.2])/\MapV w' (.agg #[.int .i64 0,.int .i64 0]) bb (n+szs (t.ks.take j)+u.sz) (fun i=>enW ((ev ρ (evs ρ g (t.ks.take j)).2 u).2 i))/\Fr (fun k=>k=bb) (wr.alloc (.cells #[.int .i64 u.f.k,.int .i64 u.f.n,.int .i64 u.f.mn,.int .i64 u.f.mx,.slice u.f.rq u.f.rs.length u.f.rc,.slice u.f.kq u.f.kl u.f.kc] 25)).drew w')):=aD (by subst hx5;exact IH0)
    have HX5:=aD hx5
    clear hin IH0 hx5
    go_wp2
    refine wp_region_held_drew (S:=fun w'=>Fr (Wr2 bb bs) W0 w'/\BoxN w' wr.heap.size u.f) (by kernel_rfl) SK.out (fun hHeld=>?_)
    refine aCD (v:=?_) 0 ?_ ?_
    rotate_left
    ·intro wz hSw;obtain⟨q0,q1,q2,q3,q4,q5,q6⟩:=QC.out wz hSw;clear hSw;go_simp;try with_reducible rfl
    dsimp only [Act.put,f4,b6,b7]
    simp only [a8,g4,g3]
    refine aCD (v:=?_) 2 ?_ ?_
    rotate_left
    ·intro wz hSw;obtain⟨q0,q1,q2,q3,q4,q5,q6⟩:=QC.out wz hSw;clear hSw;go_simp;try with_reducible rfl
    dsimp only [Act.put,f4,b6,b7]
    simp only [a8,g4,g3]
    refine aCD (v:=?_) 3 ?_ ?_
    rotate_left
    ·intro wz hSw;obtain⟨q0,q1,q2,q3,q4,q5,q6⟩:=QC.out wz hSw;clear hSw;go_simp;try with_reducible rfl
    dsimp only [Act.put,f4,b6,b7]
    simp only [a8,g4,g3]
    refine wpAnyH_ready (rs:=[1,4]) (by kernel_rfl) (by simp) ?_
    refine AllReadyH.cons rfl (fun K hK=>?_) (AllReadyH.cons rfl (fun K hK=>?_) AllReadyH.nil)
    ·go_simp
     refine hK.out _ _ SK.out (fun hHeld1=>?_)
     clear hK K
     refine wpAnyH_ready (rs:=[4]) (by kernel_rfl) (by simp) ?_
     refine AllReadyH.cons rfl (fun K hK=>?_) AllReadyH.nil
     go_simp
     go_at_call 74
     refine IHU.out.mono ?_
     rintro e w5 ⟨rfl,hm5,hf5⟩
     have M5:=aD hm5
     have F5:=aD hf5
     clear hm5 hf5
     have S5:Hid (Fr (Wr2 bb bs) W0 w5/\BoxN w5 wr.heap.size u.f):=⟨SK.out.1.trans (F5.out.mono (fun k e=>.inl e)),(F5.out.block _ (aB SK.out.2) (fun e=>NE.out.1 e)).trans SK.out.2⟩
     refine hK.out _ _ S5.out (fun hHeld2=>?_)
     clear hK K
     refine wpAnyH_ready (rs:=[5]) (by kernel_rfl) (by simp) ?_
     refine AllReadyH.cons rfl (fun K hK=>?_) AllReadyH.nil
     go_simp
     have S6:Hid (Fr (Wr2 bb bs) W0 (w5.alloc (.cells #[.int .i64 x5.1,.int .i64 x5.2] 68))/\BoxN (w5.alloc (.cells #[.int .i64 x5.1,.int .i64 x5.2] 68)) wr.heap.size u.f):=⟨S5.out.1.alloc _,(Below.heap_alloc _ _ _ (aB S5.out.2)).trans S5.out.2⟩
     refine hK.out _ _ S6.out (fun hHeld3=>?_)
     clear hK K
     refine wpAnyH_ready (rs:=[6]) (by kernel_rfl) (by simp) ?_
     refine AllReadyH.cons rfl (fun K hK=>?_) AllReadyH.nil
     have O6:Hid ((w5.alloc (.cells #[.int .i64 x5.1,.int .i64 x5.2] 68)).ownsRow W0.heap.size 68 2 (.slice qv j cv) j (ceW (evs ρ g (t.ks.take j)).1)):=l9 (aM OK.out F5.out (fun k e z=>bS OK.out MK.out.block (z ▸ e))) _
     refine bF rfl _ _ 121 rfl W0.heap.size 68 t0 (.agg #[.int .i64 0,.int .i64 0]) 2 16 aC3 TI.out.1 TI.out.2.1 TI.out.2.2.1 TI.out.2.2.2 rfl (by decide) (.slice qv j cv) j (ceW (evs ρ g (t.ks.take j)).1) (by simp [Act.eval]) O6.out ⟨w5.heap.size,0,none⟩ 1 1 [.int .i64 x5.1,.int .i64 x5.2] (by simp [Act.eval]) rfl (cR w5 [.int .i64 x5.1,.int .i64 x5.2] _) (by simp [Value.oneCell']) (by have:=LJ.out;unfold maxLen;omega) (by have:=LJ.out;omega) (i8 S5.out.1.size (by simp only [a7];omega)) ?_
     intro v' w6 hown' hgrow hblk
     obtain⟨g6,cap6,rfl⟩:=aL hown' (aAC _)
     have O7:=aD hown'
     have G6:=aD hgrow
     clear hown' hgrow hblk
     have S7:Hid (Fr (Wr2 bb bs) W0 w6/\BoxN w6 wr.heap.size u.f):=⟨S6.out.1.grownNew G6.out (fun k e=>(aH O6.out e).1),(G6.out.block _ (aB S6.out.2) (fun e=>by
      have:=(aH LP.out.own e.symm).2.1
      omega)).trans S6.out.2⟩
     have C7:Hid (w6.heap[bs]?=some (.cells (dE t.f c o (.slice qv j cv) (.func (.func 73) #[] #[bx bp])) 123 (0,0))):=(by
      have e5:=(F5.out.block _ (aB CB.out) (fun e=>NE.out.2 e.symm)).trans CB.out
      have e6:=(Below.heap_alloc w5 (.cells #[.int .i64 x5.1,.int .i64 x5.2] 68) _ (aB e5)).trans e5
      exact(G6.out.block _ (aB e6) (fun e=>aP O6.out e6 (by decide) e.symm)).trans e6)
     have M7:Hid (MapV w6 (.agg #[.int .i64 0,.int .i64 0]) bb (n+szs (t.ks.take j)+u.sz) (fun i=>enW ((ev ρ (evs ρ g (t.ks.take j)).2 u).2 i))):=(by
      have m6:=M5.out.kept ((Below.refl _ _).alloc lz9 (.cells #[.int .i64 x5.1,.int .i64 x5.2] 68))
      exact m6.same (G6.out.block _ m6.lt (fun e=>bS O6.out m6.block e.symm)))
     refine hK.out _ _ S7.out (fun hHeld4=>?_)
     clear hK K
     refine aCD (v:=?_) 7 ?_ ?_
     rotate_left
     ·intro wz hSw;obtain⟨q0,q1,q2,q3,q4,q5,q6⟩:=QC.out wz hSw;clear hSw;go_simp;try with_reducible rfl
     dsimp only [Act.put,f4,b6,b7]
     simp only [a8,g4,g3]
     refine wpAnyH_ready (rs:=[8]) (by kernel_rfl) (by simp) ?_
     refine AllReadyH.cons rfl (fun K hK=>?_) AllReadyH.nil
     have k7:w6.cell? ⟨bs,8,none⟩=some (.slice qv j cv):=aA C7.out (i:=8) rfl
     have fz:=aG C7.out 8
     go_simp
     have S8:Hid (Fr (Wr2 bb bs) W0 (w6.setCell ⟨bs,8,none⟩ (.slice (some ⟨g6,0,none⟩) (j+1) cap6))/\BoxN (w6.setCell ⟨bs,8,none⟩ (.slice (some ⟨g6,0,none⟩) (j+1) cap6)) wr.heap.size u.f):=⟨S7.out.1.setCell (p:=⟨bs,8,none⟩) (.inr rfl) _,(Below.heap_setCell _ _ _ _ (fun e=>NE3.out e)).trans S7.out.2⟩
     refine hK.out _ _ S8.out (fun hHeld5=>?_)
     clear hK K
     refine wpAnyH_done (by kernel_rfl) ?_ _
     have LQ:Hid (LpW ρ W0 (w6.setCell ⟨bs,8,none⟩ (.slice (some ⟨g6,0,none⟩) (j+1) cap6)) bb bs n t c o g (j+1) (.slice (some ⟨g6,0,none⟩) (j+1) cap6) (.func (.func 73) #[] #[bx bp])):=by
      obtain⟨ea,eb⟩:=dJ (ρ:=ρ) HU.out g
      refine⟨aO C7.out 8 _,?_,?_,S8.out.1⟩
      ·rw [ea,wW,HX5.out]
       exact aM O7.out ((Fr.refl (fun k=>k=bs) w6).setCell (p:=⟨bs,8,none⟩) rfl _) (fun k e z=>aP O7.out C7.out (by decide) (z ▸ e))
      ·rw [eb,cC HU.out,<- aAI]
       exact M7.out.fr ((Fr.refl (fun k=>k=bs) w6).setCell (p:=⟨bs,8,none⟩) rfl _) (fun e=>by
        obtain⟨es,cl,hb⟩:=M7.out.block
        rw [e,C7.out] at hb
        cases hb)
     clear k7 fz
     go_wp2
     go_roundw
     case rel=>exact⟨j+1,_,by omega,by go_num,LQ.out⟩
     case measure=>simp only [intOf];omega
    ·go_simp
     go_at_call 74
     refine IHU.out.mono ?_
     rintro e w5 ⟨rfl,hm5,hf5⟩
     have M5:=aD hm5
     have F5:=aD hf5
     clear hm5 hf5
     have S5:Hid (Fr (Wr2 bb bs) W0 w5/\BoxN w5 wr.heap.size u.f):=⟨SK.out.1.trans (F5.out.mono (fun k e=>.inl e)),(F5.out.block _ (aB SK.out.2) (fun e=>NE.out.1 e)).trans SK.out.2⟩
     refine hK.out _ _ S5.out (fun hHeld1=>?_)
     clear hK K
     refine wpAnyH_ready (rs:=[1,5]) (by kernel_rfl) (by simp) ?_
     refine AllReadyH.cons rfl (fun K hK=>?_) (AllReadyH.cons rfl (fun K hK=>?_) AllReadyH.nil)
     ·have k9:w5.cell? ⟨bs,8,none⟩=some (.slice qv j cv):=aA ((F5.out.block _ (aB CB.out) (fun e=>NE.out.2 e.symm)).trans CB.out) (i:=8) rfl
      go_simp
      refine hK.out _ _ S5.out (fun hHeld2=>?_)
      clear hK K
      refine wpAnyH_ready (rs:=[5]) (by kernel_rfl) (by simp) ?_
      refine AllReadyH.cons rfl (fun K hK=>?_) AllReadyH.nil
      go_simp
      have S6:Hid (Fr (Wr2 bb bs) W0 (w5.alloc (.cells #[.int .i64 x5.1,.int .i64 x5.2] 68))/\BoxN (w5.alloc (.cells #[.int .i64 x5.1,.int .i64 x5.2] 68)) wr.heap.size u.f):=⟨S5.out.1.alloc _,(Below.heap_alloc _ _ _ (aB S5.out.2)).trans S5.out.2⟩
      refine hK.out _ _ S6.out (fun hHeld3=>?_)
      clear hK K
      refine wpAnyH_ready (rs:=[6]) (by kernel_rfl) (by simp) ?_
      refine AllReadyH.cons rfl (fun K hK=>?_) AllReadyH.nil
      have O6:Hid ((w5.alloc (.cells #[.int .i64 x5.1,.int .i64 x5.2] 68)).ownsRow W0.heap.size 68 2 (.slice qv j cv) j (ceW (evs ρ g (t.ks.take j)).1)):=l9 (aM OK.out F5.out (fun k e z=>bS OK.out MK.out.block (z ▸ e))) _
      refine bF rfl _ _ 121 rfl W0.heap.size 68 t0 (.agg #[.int .i64 0,.int .i64 0]) 2 16 aC3 TI.out.1 TI.out.2.1 TI.out.2.2.1 TI.out.2.2.2 rfl (by decide) (.slice qv j cv) j (ceW (evs ρ g (t.ks.take j)).1) (by simp [Act.eval]) O6.out ⟨w5.heap.size,0,none⟩ 1 1 [.int .i64 x5.1,.int .i64 x5.2] (by simp [Act.eval]) rfl (cR w5 [.int .i64 x5.1,.int .i64 x5.2] _) (by simp [Value.oneCell']) (by have:=LJ.out;unfold maxLen;omega) (by have:=LJ.out;omega) (i8 S5.out.1.size (by simp only [a7];omega)) ?_
      intro v' w6 hown' hgrow hblk
      obtain⟨g6,cap6,rfl⟩:=aL hown' (aAC _)
      have O7:=aD hown'
      have G6:=aD hgrow
      clear hown' hgrow hblk
      have S7:Hid (Fr (Wr2 bb bs) W0 w6/\BoxN w6 wr.heap.size u.f):=⟨S6.out.1.grownNew G6.out (fun k e=>(aH O6.out e).1),(G6.out.block _ (aB S6.out.2) (fun e=>by
       have:=(aH LP.out.own e.symm).2.1
       omega)).trans S6.out.2⟩
      have C7:Hid (w6.heap[bs]?=some (.cells (dE t.f c o (.slice qv j cv) (.func (.func 73) #[] #[bx bp])) 123 (0,0))):=(by
       have e5:=(F5.out.block _ (aB CB.out) (fun e=>NE.out.2 e.symm)).trans CB.out
       have e6:=(Below.heap_alloc w5 (.cells #[.int .i64 x5.1,.int .i64 x5.2] 68) _ (aB e5)).trans e5
       exact(G6.out.block _ (aB e6) (fun e=>aP O6.out e6 (by decide) e.symm)).trans e6)
      have M7:Hid (MapV w6 (.agg #[.int .i64 0,.int .i64 0]) bb (n+szs (t.ks.take j)+u.sz) (fun i=>enW ((ev ρ (evs ρ g (t.ks.take j)).2 u).2 i))):=(by
       have m6:=M5.out.kept ((Below.refl _ _).alloc lz9 (.cells #[.int .i64 x5.1,.int .i64 x5.2] 68))
       exact m6.same (G6.out.block _ m6.lt (fun e=>bS O6.out m6.block e.symm)))
      refine hK.out _ _ S7.out (fun hHeld4=>?_)
      clear hK K
      refine aCD (v:=?_) 7 ?_ ?_
      rotate_left
      ·intro wz hSw;obtain⟨q0,q1,q2,q3,q4,q5,q6⟩:=QC.out wz hSw;clear hSw;go_simp;try with_reducible rfl
      dsimp only [Act.put,f4,b6,b7]
      simp only [a8,g4,g3]
      refine wpAnyH_ready (rs:=[8]) (by kernel_rfl) (by simp) ?_
      refine AllReadyH.cons rfl (fun K hK=>?_) AllReadyH.nil
      have k7:w6.cell? ⟨bs,8,none⟩=some (.slice qv j cv):=aA C7.out (i:=8) rfl
      have fz:=aG C7.out 8
      go_simp
      have S8:Hid (Fr (Wr2 bb bs) W0 (w6.setCell ⟨bs,8,none⟩ (.slice (some ⟨g6,0,none⟩) (j+1) cap6))/\BoxN (w6.setCell ⟨bs,8,none⟩ (.slice (some ⟨g6,0,none⟩) (j+1) cap6)) wr.heap.size u.f):=⟨S7.out.1.setCell (p:=⟨bs,8,none⟩) (.inr rfl) _,(Below.heap_setCell _ _ _ _ (fun e=>NE3.out e)).trans S7.out.2⟩
      refine hK.out _ _ S8.out (fun hHeld5=>?_)
      clear hK K
      refine wpAnyH_done (by kernel_rfl) ?_ _
      have LQ:Hid (LpW ρ W0 (w6.setCell ⟨bs,8,none⟩ (.slice (some ⟨g6,0,none⟩) (j+1) cap6)) bb bs n t c o g (j+1) (.slice (some ⟨g6,0,none⟩) (j+1) cap6) (.func (.func 73) #[] #[bx bp])):=by
       obtain⟨ea,eb⟩:=dJ (ρ:=ρ) HU.out g
       refine⟨aO C7.out 8 _,?_,?_,S8.out.1⟩
       ·rw [ea,wW,HX5.out]
        exact aM O7.out ((Fr.refl (fun k=>k=bs) w6).setCell (p:=⟨bs,8,none⟩) rfl _) (fun k e z=>aP O7.out C7.out (by decide) (z ▸ e))
       ·rw [eb,cC HU.out,<- aAI]
        exact M7.out.fr ((Fr.refl (fun k=>k=bs) w6).setCell (p:=⟨bs,8,none⟩) rfl _) (fun e=>by
         obtain⟨es,cl,hb⟩:=M7.out.block
         rw [e,C7.out] at hb
         cases hb)
      clear k7 fz
      go_wp2
      go_roundw
      case rel=>exact⟨j+1,_,by omega,by go_num,LQ.out⟩
      case measure=>simp only [intOf];omega
     ·go_simp
      have S6:Hid (Fr (Wr2 bb bs) W0 (w5.alloc (.cells #[.int .i64 x5.1,.int .i64 x5.2] 68))/\BoxN (w5.alloc (.cells #[.int .i64 x5.1,.int .i64 x5.2] 68)) wr.heap.size u.f):=⟨S5.out.1.alloc _,(Below.heap_alloc _ _ _ (aB S5.out.2)).trans S5.out.2⟩
      refine hK.out _ _ S6.out (fun hHeld2=>?_)
      clear hK K
      refine wpAnyH_ready (rs:=[1]) (by kernel_rfl) (by simp) ?_
      refine AllReadyH.cons rfl (fun K hK=>?_) AllReadyH.nil
      have k9:(w5.alloc (.cells #[.int .i64 x5.1,.int .i64 x5.2] 68)).cell? ⟨bs,8,none⟩=some (.slice qv j cv):=(by have e5:=(F5.out.block _ (aB CB.out) (fun e=>NE.out.2 e.symm)).trans CB.out;exact aA ((Below.heap_alloc w5 (.cells #[.int .i64 x5.1,.int .i64 x5.2] 68) _ (aB e5)).trans e5) (i:=8) rfl)
      go_simp
      refine hK.out _ _ S6.out (fun hHeld3=>?_)
      clear hK K
      refine wpAnyH_ready (rs:=[6]) (by kernel_rfl) (by simp) ?_
      refine AllReadyH.cons rfl (fun K hK=>?_) AllReadyH.nil
      have O6:Hid ((w5.alloc (.cells #[.int .i64 x5.1,.int .i64 x5.2] 68)).ownsRow W0.heap.size 68 2 (.slice qv j cv) j (ceW (evs ρ g (t.ks.take j)).1)):=l9 (aM OK.out F5.out (fun k e z=>bS OK.out MK.out.block (z ▸ e))) _
      refine bF rfl _ _ 121 rfl W0.heap.size 68 t0 (.agg #[.int .i64 0,.int .i64 0]) 2 16 aC3 TI.out.1 TI.out.2.1 TI.out.2.2.1 TI.out.2.2.2 rfl (by decide) (.slice qv j cv) j (ceW (evs ρ g (t.ks.take j)).1) (by simp [Act.eval]) O6.out ⟨w5.heap.size,0,none⟩ 1 1 [.int .i64 x5.1,.int .i64 x5.2] (by simp [Act.eval]) rfl (cR w5 [.int .i64 x5.1,.int .i64 x5.2] _) (by simp [Value.oneCell']) (by have:=LJ.out;unfold maxLen;omega) (by have:=LJ.out;omega) (i8 S5.out.1.size (by simp only [a7];omega)) ?_
      intro v' w6 hown' hgrow hblk
      obtain⟨g6,cap6,rfl⟩:=aL hown' (aAC _)
      have O7:=aD hown'
      have G6:=aD hgrow
      clear hown' hgrow hblk
      have S7:Hid (Fr (Wr2 bb bs) W0 w6/\BoxN w6 wr.heap.size u.f):=⟨S6.out.1.grownNew G6.out (fun k e=>(aH O6.out e).1),(G6.out.block _ (aB S6.out.2) (fun e=>by
       have:=(aH LP.out.own e.symm).2.1
       omega)).trans S6.out.2⟩
      have C7:Hid (w6.heap[bs]?=some (.cells (dE t.f c o (.slice qv j cv) (.func (.func 73) #[] #[bx bp])) 123 (0,0))):=(by
       have e5:=(F5.out.block _ (aB CB.out) (fun e=>NE.out.2 e.symm)).trans CB.out
       have e6:=(Below.heap_alloc w5 (.cells #[.int .i64 x5.1,.int .i64 x5.2] 68) _ (aB e5)).trans e5
       exact(G6.out.block _ (aB e6) (fun e=>aP O6.out e6 (by decide) e.symm)).trans e6)
      have M7:Hid (MapV w6 (.agg #[.int .i64 0,.int .i64 0]) bb (n+szs (t.ks.take j)+u.sz) (fun i=>enW ((ev ρ (evs ρ g (t.ks.take j)).2 u).2 i))):=(by
       have m6:=M5.out.kept ((Below.refl _ _).alloc lz9 (.cells #[.int .i64 x5.1,.int .i64 x5.2] 68))
       exact m6.same (G6.out.block _ m6.lt (fun e=>bS O6.out m6.block e.symm)))
      refine hK.out _ _ S7.out (fun hHeld4=>?_)
      clear hK K
      refine aCD (v:=?_) 7 ?_ ?_
      rotate_left
      ·intro wz hSw;obtain⟨q0,q1,q2,q3,q4,q5,q6⟩:=QC.out wz hSw;clear hSw;go_simp;try with_reducible rfl
      dsimp only [Act.put,f4,b6,b7]
      simp only [a8,g4,g3]
      refine wpAnyH_ready (rs:=[8]) (by kernel_rfl) (by simp) ?_
      refine AllReadyH.cons rfl (fun K hK=>?_) AllReadyH.nil
      have k7:w6.cell? ⟨bs,8,none⟩=some (.slice qv j cv):=aA C7.out (i:=8) rfl
      have fz:=aG C7.out 8
      go_simp
      have S8:Hid (Fr (Wr2 bb bs) W0 (w6.setCell ⟨bs,8,none⟩ (.slice (some ⟨g6,0,none⟩) (j+1) cap6))/\BoxN (w6.setCell ⟨bs,8,none⟩ (.slice (some ⟨g6,0,none⟩) (j+1) cap6)) wr.heap.size u.f):=⟨S7.out.1.setCell (p:=⟨bs,8,none⟩) (.inr rfl) _,(Below.heap_setCell _ _ _ _ (fun e=>NE3.out e)).trans S7.out.2⟩
      refine hK.out _ _ S8.out (fun hHeld5=>?_)
      clear hK K
      refine wpAnyH_done (by kernel_rfl) ?_ _
      have LQ:Hid (LpW ρ W0 (w6.setCell ⟨bs,8,none⟩ (.slice (some ⟨g6,0,none⟩) (j+1) cap6)) bb bs n t c o g (j+1) (.slice (some ⟨g6,0,none⟩) (j+1) cap6) (.func (.func 73) #[] #[bx bp])):=by
       obtain⟨ea,eb⟩:=dJ (ρ:=ρ) HU.out g
       refine⟨aO C7.out 8 _,?_,?_,S8.out.1⟩
       ·rw [ea,wW,HX5.out]
        exact aM O7.out ((Fr.refl (fun k=>k=bs) w6).setCell (p:=⟨bs,8,none⟩) rfl _) (fun k e z=>aP O7.out C7.out (by decide) (z ▸ e))
       ·rw [eb,cC HU.out,<- aAI]
        exact M7.out.fr ((Fr.refl (fun k=>k=bs) w6).setCell (p:=⟨bs,8,none⟩) rfl _) (fun e=>by
         obtain⟨es,cl,hb⟩:=M7.out.block
         rw [e,C7.out] at hb
         cases hb)
      clear k7 fz
      go_wp2
      go_roundw
      case rel=>exact⟨j+1,_,by omega,by go_num,LQ.out⟩
      case measure=>simp only [intOf];omega
   ·have e0:¬ (j:Int) < (t.f.kl:Int):=by rw [HKL.out];omega
    obtain rfl:j=t.ks.length:=by omega
    have hk:t.ks.take t.ks.length=t.ks:=aAQ
    have XO:=aD (hk ▸ LP.out.own)
    have XM:=aD (hk ▸ LP.out.mp)
    have r0:wr.cell? ⟨br,0,none⟩=some (.func (.func 41) #[] #[]):=aA (HTW.out.ck CW.out).r (i:=0) rfl
    have s0:wr.cell? ⟨bs,0,none⟩=some (.int .i64 t.f.k):=aA LP.out.sc (i:=0) rfl
    have s1:wr.cell? ⟨bs,1,none⟩=some (.int .i64 t.f.n):=aA LP.out.sc (i:=1) rfl
    have s2:wr.cell? ⟨bs,2,none⟩=some (.int .i64 t.f.mn):=aA LP.out.sc (i:=2) rfl
    have s3:wr.cell? ⟨bs,3,none⟩=some (.int .i64 t.f.mx):=aA LP.out.sc (i:=3) rfl
    have s4:wr.cell? ⟨bs,4,none⟩=some (.slice t.f.rq t.f.rs.length t.f.rc):=aA LP.out.sc (i:=4) rfl
    have s5:wr.cell? ⟨bs,5,none⟩=some (.slice t.f.kq t.f.kl t.f.kc):=aA LP.out.sc (i:=5) rfl
    have s6:wr.cell? ⟨bs,6,none⟩=some (.bool c):=aA LP.out.sc (i:=6) rfl
    have s7:wr.cell? ⟨bs,7,none⟩=some (.bool o):=aA LP.out.sc (i:=7) rfl
    have s8:wr.cell? ⟨bs,8,none⟩=some (.slice qv t.ks.length cv):=aA LP.out.sc (i:=8) rfl
    have s9:wr.cell? ⟨bs,9,none⟩=some (.func (.func 73) #[] #[bx bp]):=aA LP.out.sc (i:=9) rfl
    clear hk
    obtain⟨gx,gy⟩:=eY HG.out t.ks g (fun u hu=>bI HNP.out hu) HGD.out
    have hC:=HR.out t (evs ρ g t.ks).1 (evs ρ g t.ks).2 wr (.slice qv t.ks.length cv) bp bb (n+szs t.ks) W0.heap.size (hglo CW.out HGW.out) ((bE t).1 HNP.out).1 (by have:=eM t.ks;have:=hkz.out;have:=HN.out;omega) ((HTA.out.ck CW.out).node) (gJ _ _) gx gy (by rw [gJ];exact XO.out) (HTW.out.ck CW.out).p XM.out
    simp only [dE,enW] at hC
    have HC:=aD hC
    clear hC gx gy
    have BN:Hid (BoxN wr w.heap.size t.f):=(LP.out.fr.block _ (aB N0.out) (fun z=>by
     rcases z with e | e
     ·obtain⟨es,cl,hb⟩:=MB.out
      rw [<- e,show W0.heap[w.heap.size]?=_ from N0.out] at hb
      cases hb
     ·have:=HBS.out.2.2;omega)).trans N0.out
    have BR:Hid (wr.heap[w.heap.size+1]?=some (.cells #[.int .i64 0,.int .i64 0] 68 (0,0))):=(LP.out.fr.block _ (aB R0.out) (fun z=>by
     rcases z with e | e
     ·obtain⟨es,cl,hb⟩:=MB.out
      rw [<- e,R0.out] at hb
      cases hb
     ·have:=HBS.out.2.2;omega)).trans R0.out
    have hx:(ev ρ g t).1=ρ t.f t.ks (evs ρ g t.ks).1 (evs ρ g t.ks).2:=iV g t
    rw [<- hx] at HC
    have HS:=aD (jN (ρ:=ρ) g t)
    obtain⟨x,hxx⟩:∃ x,(ev ρ g t).1=x:=⟨_,rfl⟩
    rw [hxx] at HC HS
    have HX:=aD hxx
    clear hx hxx
    have FW:Hid (Fr (fun k=>k=bb) w wr):=sT HBS.out.1 B0.out LP.out.fr
    by_cases h7:t.f.k=7
    ·have h7b:(t.f.k==7)=true:=by simp [h7]
     have WF:Hid ((Lit.int .i64 t.f.n).wf=true):=HWF.out t ((bE t).1 HNP.out).1 h7
     rw [if_pos h7] at HS
     clear h7
     go_wp2_with first
      |(go_at_call 41;refine HC.out.mono ?_;rintro e w5 ⟨rfl,h5⟩;have B5:=aD h5;clear h5 s0 s1 s2 s3 s4 s5 s6 s7 s8 s9 r0;have N5:Hid (BoxN w5 w.heap.size t.f):=(B5.out.block _ (aB BN.out)).trans BN.out;have A5:Hid (Below w5.heap.size w5 (w5.alloc (.cells #[.int .i64 x.1,.int .i64 x.2] 68))):=bz9;have N6:Hid (BoxN (w5.alloc (.cells #[.int .i64 x.1,.int .i64 x.2] 68)) w.heap.size t.f):=(A5.out.block _ (aB N5.out)).trans N5.out;have R5:Hid ((w5.alloc (.cells #[.int .i64 x.1,.int .i64 x.2] 68)).heap[w.heap.size+1]?=some (.cells #[.int .i64 0,.int .i64 0] 68 (0,0))):=(A5.out.block _ (aB ((B5.out.block _ (aB BR.out)).trans BR.out))).trans ((B5.out.block _ (aB BR.out)).trans BR.out);have k0:(w5.alloc (.cells #[.int .i64 x.1,.int .i64 x.2] 68)).cell? ⟨w.heap.size,0,none⟩=some (.int .i64 t.f.k):=N6.out.six.1;have k1:(w5.alloc (.cells #[.int .i64 x.1,.int .i64 x.2] 68)).cell? ⟨w.heap.size,1,none⟩=some (.int .i64 t.f.n):=N6.out.six.2.1;have p0:(w5.alloc (.cells #[.int .i64 x.1,.int .i64 x.2] 68)).cell? ⟨bp,0,none⟩=some (.map (some bb)):=aA (((HTW.out.ck CW.out).ck (CK.of_below B5.out)).ck (CK.of_below A5.out)).p (i:=0) rfl;have z0:=aA R5.out (i:=0) rfl;have z1:=aA R5.out (i:=1) rfl;have fz:=fun z=>aG R5.out z)
      |(at_mapUpdate;refine eU _ rfl _ _ _ 118 rfl 68 aS2 (.agg #[.int .i64 0,.int .i64 0]) bb (n+szs t.ks) (fun i=>enW ((evs ρ g t.ks).2 i)) rfl ((XM.out.kept B5.out).kept (bz9)) (by have:=HN.out;have:=hkz.out;unfold maxLen;omega) t.f.n rfl WF.out (enW x) rfl ?_;intro w6 hm6 hg6;have M6:=aD hm6;have G6:=aD hg6;clear hm6 hg6;have C6:Hid (CK (w5.alloc (.cells #[.int .i64 x.1,.int .i64 x.2] 68)) w6):=wV ((XM.out.kept B5.out).kept A5.out).block ((Fr.refl _ _).grown G6.out (fun k e=>by injection e with e;exact e.symm));have R6:Hid (w6.heap[w.heap.size+1]?=some (.cells #[.int .i64 0,.int .i64 0] 68 (0,0))):=C6.out.same _ _ _ _ (aB R5.out) R5.out;have X6:Hid (w6.heap[w5.heap.size]?=some (.cells #[.int .i64 x.1,.int .i64 x.2] 68 (0,0))):=C6.out.same _ _ _ _ (aB (aE w5 _)) (aE w5 _);clear fz z0 z1;have z0:=aA R6.out (i:=0) rfl;have x0:=aA X6.out (i:=0) rfl;have z1:=aA R6.out (i:=1) rfl;have x1:=aA X6.out (i:=1) rfl;have fz:=fun z=>aG R6.out z)
     refine aH9 (b:=w.heap.size+1) (x:=x) (bA R6.out [.int .i64 x.1,.int .i64 x.2] rfl) rfl rfl ?_
     have F7:=aV (w.heap.size+1) [.int .i64 x.1,.int .i64 x.2] 0 w6
     refine⟨by rw [HX.out],?_,?_⟩
     ·rw [HS.out,<- rS,show n+t.sz=n+szs t.ks+1 by have:=hkz.out;omega]
      exact M6.out.fr F7 (fun e=>by
       obtain⟨es,cl,hb⟩:=M6.out.block
       rw [e,R6.out] at hb
       cases hb)
     ·exact lY (((FW.out.then B5.out).then (bz9)).grown G6.out (fun k e=>by injection e with e;exact e.symm)) F7 (by omega)
    ·have h7b:(t.f.k==7)=false:=by simp [h7]
     rw [if_neg h7] at HS
     clear h7
     go_wp2_with first
      |(go_at_call 41;refine HC.out.mono ?_;rintro e w5 ⟨rfl,h5⟩;have B5:=aD h5;clear h5 s0 s1 s2 s3 s4 s5 s6 s7 s8 s9 r0;have N5:Hid (BoxN w5 w.heap.size t.f):=(B5.out.block _ (aB BN.out)).trans BN.out;have A5:Hid (Below w5.heap.size w5 (w5.alloc (.cells #[.int .i64 x.1,.int .i64 x.2] 68))):=bz9;have N6:Hid (BoxN (w5.alloc (.cells #[.int .i64 x.1,.int .i64 x.2] 68)) w.heap.size t.f):=(A5.out.block _ (aB N5.out)).trans N5.out;have R5:Hid ((w5.alloc (.cells #[.int .i64 x.1,.int .i64 x.2] 68)).heap[w.heap.size+1]?=some (.cells #[.int .i64 0,.int .i64 0] 68 (0,0))):=(A5.out.block _ (aB ((B5.out.block _ (aB BR.out)).trans BR.out))).trans ((B5.out.block _ (aB BR.out)).trans BR.out);have k0:(w5.alloc (.cells #[.int .i64 x.1,.int .i64 x.2] 68)).cell? ⟨w.heap.size,0,none⟩=some (.int .i64 t.f.k):=N6.out.six.1;have k1:(w5.alloc (.cells #[.int .i64 x.1,.int .i64 x.2] 68)).cell? ⟨w.heap.size,1,none⟩=some (.int .i64 t.f.n):=N6.out.six.2.1;have p0:(w5.alloc (.cells #[.int .i64 x.1,.int .i64 x.2] 68)).cell? ⟨bp,0,none⟩=some (.map (some bb)):=aA (((HTW.out.ck CW.out).ck (CK.of_below B5.out)).ck (CK.of_below A5.out)).p (i:=0) rfl;have z0:=aA R5.out (i:=0) rfl;have z1:=aA R5.out (i:=1) rfl;have fz:=fun z=>aG R5.out z)
     refine aH9 (b:=w.heap.size+1) (x:=x) (bA R5.out [.int .i64 x.1,.int .i64 x.2] rfl) rfl rfl ?_
     have F7:=aV (w.heap.size+1) [.int .i64 x.1,.int .i64 x.2] 0 (w5.alloc (.cells #[.int .i64 x.1,.int .i64 x.2] 68))
     refine⟨by rw [HX.out],?_,?_⟩
     ·rw [HS.out]
      have M6:=((XM.out.kept B5.out).kept ((Below.refl _ _).alloc lz9 (.cells #[.int .i64 x.1,.int .i64 x.2] 68)))
      exact(M6.fr F7 (fun e=>by
       obtain⟨es,cl,hb⟩:=M6.block
       rw [e,R5.out] at hb
       cases hb)).mono (by have:=hkz.out;omega)
     ·exact lY ((FW.out.then B5.out).then (bz9)) F7 (by omega)
end
section
attribute [local go_sem] Oper.semAt_some
theorem bC7{R:Ending->World->Prop}{a:Act}{W:World}{b:Nat}{x:Int × Int}(h:W.heap[b]?=some (.cells #[.int .i64 x.1,.int .i64 x.2] 68 (0,0)))(ha:a.tmps[3]?.getD undef=.pointer (some ⟨b,0,none⟩))(hd:a.defers=[])(hR:R (.returned (enW x)) W):bodyPost Tryz.prog Tryz.f73 R .ret a W:=by
 refine bodyPost_ret (v:=enW x) ?_ hd hR
 have z0:=aA h (i:=0) rfl;have z1:=aA h (i:=1) rfl
 simp [results,Tryz.results73,go_sem,ha,enW,z0,z1]
theorem aH4{R:Ending->World->Prop}{a:Act}{W:World}{b:Nat}{x:Int × Int}(h:W.heap[b]?=some (.cells #[.int .i64 x.1,.int .i64 x.2] 68 (0,0)))(ha:a.tmps[6]?.getD undef=.pointer (some ⟨b,0,none⟩))(hd:a.defers=[])(hR:R (.returned (enW x)) W):bodyPost Tryz.prog Tryz.f40 R .ret a W:=by
 refine bodyPost_ret (v:=enW x) ?_ hd hR
 have z0:=aA h (i:=0) rfl;have z1:=aA h (i:=1) rfl
 simp [results,Tryz.results40,go_sem,ha,enW,z0,z1]
theorem bI4(w:World):(zeroValue 68).run Tryz.prog w=.ok (.agg #[.int .i64 0,.int .i64 0]) w:=by kernel_rfl
theorem bO2{w:World}{bp bb n:Nat}{g:Int->Int × Int}(hp:w.heap[bp]?=some (.cells #[.map (some bb)] 118 (0,0)))(hm:MapV w (.agg #[.int .i64 0,.int .i64 0]) bb n (fun i=>enW (g i)))(i:Int)(hi:(Lit.int .i64 i).wf=true) :
  Calls Tryz.prog 73 #[.int .i64 i,bx bp] w fun e w'=>e=.returned (enW (g i))/\Below w.heap.size w w':=by
 have HM:=aD hm
 have HI:=aD hi
 have HP:=aD hp
 have lp:=aB hp
 have p0:w.cell? ⟨bp,0,none⟩=some (.map (some bb)):=aA hp (i:=0) rfl
 clear hm hi hp
 obtain⟨x,hx⟩:∃ x,g i=x:=⟨_,rfl⟩
 have HX:=aD hx
 clear hx
 have A1:Hid (Below w.heap.size w (w.alloc (.cells #[.int .i64 0,.int .i64 0] 68))):=bz9
 go_enter Tryz.func73,Tryz.ntmps73
 go_wp2_with (at_lookup;refine nJ _ rfl _ _ 118 rfl 68 aS2 (.agg #[.int .i64 0,.int .i64 0]) bb n (fun i=>enW (g i)) rfl (HM.out.kept A1.out) (bI4 _) i rfl HI.out ?_;rw [HX.out];simp only [enW])
 refine bC7 (b:=w.heap.size) (x:=x) (aE w _) rfl rfl ?_
 exact⟨by rw [HX.out],bz9⟩
noncomputable def tvW (ρ:dH (Int × Int)) (c o:Bool) (t:Tr):Int × Int:=if aY c o 0 0 (pp [] t)=0 then (ev ρ (fun _=>(0,0)) t).1 else (0,0)
theorem bJ2{Glo:World->Prop}(hglo:∀ {A B:World},CK A B->Glo A->Glo B){w:World}(hgw:Glo w){t:Tr}{Good:Int × Int->Prop}{ρ:dH (Int × Int)}{c o:Bool}(hta:TB w t)(hr:RuW Glo (NP c o) Good ρ c o)(hg:∀ t xs g,NP c o t->xs.length=t.ks.length->(∀ x∈xs,Good x)->(∀ i,Good (g i))->Good (ρ t.f t.ks xs g))(h0:Good (0,0)) :
  Calls Tryz.prog 40 #[.agg #[.int .i64 t.f.k,.int .i64 t.f.n,.int .i64 t.f.mn,.int .i64 t.f.mx,.slice t.f.rq t.f.rs.length t.f.rc,.slice t.f.kq t.f.kl t.f.kc],.agg #[.bool c,.bool o],.func (.func 41) #[] #[]] w fun e w'=>e=.returned (enW (tvW ρ c o t))/\Below w.heap.size w w':=by
 have HTA:=aD hta
 have HGW:=aD hgw
 have HR:=aD hr
 clear hgw
 have HG:=aD hg
 have H0:=aD h0
 clear hta hr hg h0
 by_cases hz:aY c o 0 0 (pp [] t)=0
 ·have HV:Hid (tvW ρ c o t=(ev ρ (fun _=>(0,0)) t).1):=if_pos hz
  have HZ:=aD hz
  clear hz
  have hmm:=@run_makeMap Tryz.prog
  go_enter Tryz.func40,Tryz.ntmps40
  go_upto_region 8 with (go_at_call 53;refine(eE c o (HTA.out.kept ((((bz9).alloc (by simp only [a7];omega) _).alloc (by simp only [a7];omega) _).alloc (by simp only [a7];omega) _))).mono ?_;rintro e w1 ⟨rfl,h1⟩;have B1:=aD h1;clear h1;have rz:=HZ.out)
  have l1:((((w.alloc (.cells #[.int .i64 t.f.k,.int .i64 t.f.n,.int .i64 t.f.mn,.int .i64 t.f.mx,.slice t.f.rq t.f.rs.length t.f.rc,.slice t.f.kq t.f.kl t.f.kc] 25)).alloc (.cells #[.bool c,.bool o] 27)).alloc (.cells #[.func (.func 41) #[] #[]] 70)).alloc (.cells #[.int .i64 0,.int .i64 0] 68)).heap.size<=w1.heap.size:=B1.out.size
  simp only [a7] at l1
  have b1:w1.heap[w.heap.size]?=some (.cells #[.int .i64 t.f.k,.int .i64 t.f.n,.int .i64 t.f.mn,.int .i64 t.f.mx,.slice t.f.rq t.f.rs.length t.f.rc,.slice t.f.kq t.f.kl t.f.kc] 25 (0,0)):=(B1.out.block _ (by simp only [a7];omega)).trans (by(repeat (first | exact aK _ (by first | rfl | simp only [a7]) | rw [Below.heap_alloc _ _ _ (by first | omega |(simp only [a7];omega))])))
  have b2:w1.heap[w.heap.size+1]?=some (.cells #[.bool c,.bool o] 27 (0,0)):=(B1.out.block _ (by simp only [a7];omega)).trans (by(repeat (first | exact aK _ (by first | rfl | simp only [a7]) | rw [Below.heap_alloc _ _ _ (by first | omega |(simp only [a7];omega))])))
  have b3:w1.heap[w.heap.size+1+1]?=some (.cells #[.func (.func 41) #[] #[]] 70 (0,0)):=(B1.out.block _ (by simp only [a7];omega)).trans (by(repeat (first | exact aK _ (by first | rfl | simp only [a7]) | rw [Below.heap_alloc _ _ _ (by first | omega |(simp only [a7];omega))])))
  have b4:w1.heap[w.heap.size+1+1+1]?=some (.cells #[.int .i64 0,.int .i64 0] 68 (0,0)):=(B1.out.block _ (by simp only [a7];omega)).trans (by(repeat (first | exact aK _ (by first | rfl | simp only [a7]) | rw [Below.heap_alloc _ _ _ (by first | omega |(simp only [a7];omega))])))
  have TT:Hid (TWW ((((w1.alloc (.map #[] 0)).alloc (.cells #[.map (some w1.heap.size)] 118)).alloc (.cells #[.func (.func 73) #[] #[.pointer (some ⟨w1.heap.size+1,0,none⟩)]] 119)).alloc (.cells #[.func (.func 74) #[] #[.pointer (some ⟨w.heap.size+1,0,none⟩),.pointer (some ⟨w1.heap.size+1+1,0,none⟩),.pointer (some ⟨w1.heap.size+1+1+1,0,none⟩),.pointer (some ⟨w.heap.size+1+1,0,none⟩),.pointer (some ⟨w1.heap.size+1,0,none⟩)]] 120)) (w.heap.size+1) (w1.heap.size+1+1) (w1.heap.size+1+1+1) (w.heap.size+1+1) (w1.heap.size+1) w1.heap.size c o):=⟨by rw [<- b2];(repeat (first | exact aK _ (by first | rfl | simp only [a7]) | rw [Below.heap_alloc _ _ _ (by first | omega |(simp only [a7];omega))])),by(repeat (first | exact aK _ (by first | rfl | simp only [a7]) | rw [Below.heap_alloc _ _ _ (by first | omega |(simp only [a7];omega))])),by(repeat (first | exact aK _ (by first | rfl | simp only [a7]) | rw [Below.heap_alloc _ _ _ (by first | omega |(simp only [a7];omega))])),by rw [<- b3];(repeat (first | exact aK _ (by first | rfl | simp only [a7]) | rw [Below.heap_alloc _ _ _ (by first | omega |(simp only [a7];omega))])),by(repeat (first | exact aK _ (by first | rfl | simp only [a7]) | rw [Below.heap_alloc _ _ _ (by first | omega |(simp only [a7];omega))]))⟩
  have BX:Hid (Below w1.heap.size w1 ((((w1.alloc (.map #[] 0)).alloc (.cells #[.map (some w1.heap.size)] 118)).alloc (.cells #[.func (.func 73) #[] #[.pointer (some ⟨w1.heap.size+1,0,none⟩)]] 119)).alloc (.cells #[.func (.func 74) #[] #[.pointer (some ⟨w.heap.size+1,0,none⟩),.pointer (some ⟨w1.heap.size+1+1,0,none⟩),.pointer (some ⟨w1.heap.size+1+1+1,0,none⟩),.pointer (some ⟨w.heap.size+1+1,0,none⟩),.pointer (some ⟨w1.heap.size+1,0,none⟩)]] 120))):=(((bz9).alloc (by simp only [a7];omega) _).alloc (by simp only [a7];omega) _).alloc (by simp only [a7];omega) _
  have MM:Hid (MapV ((((w1.alloc (.map #[] 0)).alloc (.cells #[.map (some w1.heap.size)] 118)).alloc (.cells #[.func (.func 73) #[] #[.pointer (some ⟨w1.heap.size+1,0,none⟩)]] 119)).alloc (.cells #[.func (.func 74) #[] #[.pointer (some ⟨w.heap.size+1,0,none⟩),.pointer (some ⟨w1.heap.size+1+1,0,none⟩),.pointer (some ⟨w1.heap.size+1+1+1,0,none⟩),.pointer (some ⟨w.heap.size+1+1,0,none⟩),.pointer (some ⟨w1.heap.size+1,0,none⟩)]] 120)) (.agg #[.int .i64 0,.int .i64 0]) w1.heap.size 0 (fun _=>enW (0,0))):=(((MapV.made w1 (.agg #[.int .i64 0,.int .i64 0])).kept (bz9)).kept (bz9)).kept (bz9)
  have BN:=aD ((BX.out.block _ (aB b1)).trans b1)
  have BR:=aD ((BX.out.block _ (aB b4)).trans b4)
  generalize hWX:((((w1.alloc (.map #[] 0)).alloc (.cells #[.map (some w1.heap.size)] 118)).alloc (.cells #[.func (.func 73) #[] #[.pointer (some ⟨w1.heap.size+1,0,none⟩)]] 119)).alloc (.cells #[.func (.func 74) #[] #[.pointer (some ⟨w.heap.size+1,0,none⟩),.pointer (some ⟨w1.heap.size+1+1,0,none⟩),.pointer (some ⟨w1.heap.size+1+1+1,0,none⟩),.pointer (some ⟨w.heap.size+1+1,0,none⟩),.pointer (some ⟨w1.heap.size+1,0,none⟩)]] 120))=WX at TT BX MM BN BR ⊢
  clear hWX b1 b2 b3 b4
  have B9:Hid (Below w.heap.size w WX):=aJ (aJ ((((bz9).alloc (by simp only [a7];omega) _).alloc (by simp only [a7];omega) _).alloc (by simp only [a7];omega) _) B1.out lz9) BX.out lz9
  have hO:=bP2 hglo HR.out (fun t h k=>h.wf k) HG.out (w.heap.size+1) (w1.heap.size+1+1) (w1.heap.size+1+1+1) (w.heap.size+1+1) (w1.heap.size+1) w1.heap.size t.sz t WX 0 (fun _=>(0,0)) lz9 (by have:=iQ HZ.out;omega) (hglo (CK.of_below B9.out) HGW.out) (HTA.out.kept B9.out) (gC HZ.out) (fun _=>H0.out) TT.out MM.out
  obtain⟨x,hx⟩:∃ x,tvW ρ c o t=x:=⟨_,rfl⟩
  have HC:Hid (Calls Tryz.prog 74 #[.agg #[.int .i64 t.f.k,.int .i64 t.f.n,.int .i64 t.f.mn,.int .i64 t.f.mx,.slice t.f.rq t.f.rs.length t.f.rc,.slice t.f.kq t.f.kl t.f.kc],.pointer (some ⟨w.heap.size+1,0,none⟩),.pointer (some ⟨w1.heap.size+1+1,0,none⟩),.pointer (some ⟨w1.heap.size+1+1+1,0,none⟩),.pointer (some ⟨w.heap.size+1+1,0,none⟩),.pointer (some ⟨w1.heap.size+1,0,none⟩)] WX (fun e w'=>e=.returned (.agg #[.int .i64 x.1,.int .i64 x.2])/\Fr (fun k=>k=w1.heap.size) WX w')):=aD (hO.mono fun e w' h=>⟨by rw [h.1,<- HV.out,hx];rfl,h.2.2⟩)
  have HX:=aD hx
  clear hO hx
  have o0:WX.cell? ⟨w1.heap.size+1+1+1,0,none⟩=some (.func (.func 74) #[] #[.pointer (some ⟨w.heap.size+1,0,none⟩),.pointer (some ⟨w1.heap.size+1+1,0,none⟩),.pointer (some ⟨w1.heap.size+1+1+1,0,none⟩),.pointer (some ⟨w.heap.size+1+1,0,none⟩),.pointer (some ⟨w1.heap.size+1,0,none⟩)]):=aA TT.out.o (i:=0) rfl
  have n0:WX.cell? ⟨w.heap.size,0,none⟩=some (.int .i64 t.f.k):=aA BN.out (i:=0) rfl
  have n1:WX.cell? ⟨w.heap.size,1,none⟩=some (.int .i64 t.f.n):=aA BN.out (i:=1) rfl
  have n2:WX.cell? ⟨w.heap.size,2,none⟩=some (.int .i64 t.f.mn):=aA BN.out (i:=2) rfl
  have n3:WX.cell? ⟨w.heap.size,3,none⟩=some (.int .i64 t.f.mx):=aA BN.out (i:=3) rfl
  have n4:WX.cell? ⟨w.heap.size,4,none⟩=some (.slice t.f.rq t.f.rs.length t.f.rc):=aA BN.out (i:=4) rfl
  have n5:WX.cell? ⟨w.heap.size,5,none⟩=some (.slice t.f.kq t.f.kl t.f.kc):=aA BN.out (i:=5) rfl
  go_wp2_with (go_at_call 74;refine HC.out.mono ?_;rintro e w5 ⟨rfl,h5⟩;have F5:=aD h5;clear h5;have R5:Hid (w5.heap[w.heap.size+1+1+1]?=some (.cells #[.int .i64 0,.int .i64 0] 68 (0,0))):=(F5.out.block _ (aB BR.out) (fun e=>by omega)).trans BR.out;have z0:=aA R5.out (i:=0) rfl;have z1:=aA R5.out (i:=1) rfl;have fz:=fun z=>aG R5.out z)
  refine aH4 (b:=w.heap.size+1+1+1) (x:=x) (bA R5.out [.int .i64 x.1,.int .i64 x.2] rfl) rfl rfl ?_
  exact⟨by rw [HX.out],bC (bC B9.out F5.out lz9 (fun k e=>by rw [e];exact i8 (by omega) l1)) (aV (w.heap.size+1+1+1) [.int .i64 x.1,.int .i64 x.2] 0 w5) lz9 (fun k e=>by omega)⟩
 ·have HV:Hid (tvW ρ c o t=(0,0)):=if_neg hz
  have HZ:=aD hz
  obtain⟨r,hrr⟩:∃ r,aY c o 0 0 (pp [] t)=r:=⟨_,rfl⟩
  have rz:(r==0)=false:=by rw [<- hrr];simpa using hz
  have rz2:(r != 0)=true:=by rw [bne,rz];rfl
  have HQ:=aD hrr
  clear hz hrr
  go_enter Tryz.func40,Tryz.ntmps40
  go_wp2_with (go_at_call 53;refine(eE c o (HTA.out.kept ((((bz9).alloc (by simp only [a7];omega) _).alloc (by simp only [a7];omega) _).alloc (by simp only [a7];omega) _))).mono ?_;rw [HQ.out];rintro e w1 ⟨rfl,h1⟩;have B1:=aD h1;clear h1;have l1:((((w.alloc (.cells #[.int .i64 t.f.k,.int .i64 t.f.n,.int .i64 t.f.mn,.int .i64 t.f.mx,.slice t.f.rq t.f.rs.length t.f.rc,.slice t.f.kq t.f.kl t.f.kc] 25)).alloc (.cells #[.bool c,.bool o] 27)).alloc (.cells #[.func (.func 41) #[] #[]] 70)).alloc (.cells #[.int .i64 0,.int .i64 0] 68)).heap.size<=w1.heap.size:=B1.out.size;simp only [a7] at l1;have RA:Hid ((w1.alloc (.cells #[.int .i64 0,.int .i64 0] 68)).heap[w.heap.size+1+1+1]?=some (.cells #[.int .i64 0,.int .i64 0] 68 (0,0))):=(Below.heap_alloc _ _ _ (by omega)).trans ((B1.out.block _ (by simp only [a7];omega)).trans (by(repeat (first | exact aK _ (by first | rfl | simp only [a7]) | rw [Below.heap_alloc _ _ _ (by first | omega |(simp only [a7];omega))]))));have z0:=aA RA.out (i:=0) rfl;have z1:=aA RA.out (i:=1) rfl;have fz:=fun z=>aG RA.out z)
  refine aH4 (b:=w.heap.size+1+1+1) (x:=(0,0)) (bA RA.out [.int .i64 0,.int .i64 0] rfl) rfl rfl ?_
  exact⟨by rw [HV.out],bC ((aJ ((((bz9).alloc (by simp only [a7];omega) _).alloc (by simp only [a7];omega) _).alloc (by simp only [a7];omega) _) B1.out lz9).alloc (by have:=(aJ ((((bz9).alloc (by simp only [a7];omega) _).alloc (by simp only [a7];omega) _).alloc (by simp only [a7];omega) _) B1.out lz9).size;omega) _) (aV (w.heap.size+1+1+1) [.int .i64 0,.int .i64 0] 0 _) lz9 (fun k e=>by omega)⟩
end
end Go.Proofs.YtlaimbkenbijeaaGreatDoor
