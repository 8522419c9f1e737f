/-
  Parts of the proof.
-/
import Derived.Test.YticfnglebbakkaaGreatDoorAgainProofB24
import Derived.Test.YticfnglebbakkaaGreatDoorAgainProofB0
import Derived.Test.YticfnglebbakkaaGreatDoorAgainProofB25
import Derived.Test.YticfnglebbakkaaGreatDoorAgainProofB26
import Derived.Test.YticfnglebbakkaaGreatDoorAgainProofB10
set_option maxRecDepth 100000
set_option maxHeartbeats 8000000
namespace Go.Proofs.YticfnglebbakkaaGreatDoor
open Go Go.RowKit
theorem aA0{s:ByteArray}(w:World)(n0:(s.toList==[112,114,105,110,116])=false)(n1:(s.toList==[103,114,97,112,104])=false)(n2:(s.toList==[97,108,110,117,109])=false)(n3:(s.toList==[97,108,112,104,97])=false)(n4:(s.toList==[108,111,119,101,114])=false)(n5:(s.toList==[120,100,105,103,105,116])=false)(n6:(s.toList==[100,105,103,105,116])=false)(n7:(s.toList==[115,112,97,99,101])=false)(n8:(s.toList==[98,108,97,110,107])=false)(n9:(s.toList==[99,110,116,114,108])=false)(n10:(s.toList==[112,117,110,99,116])=false)(n11:(s.toList==[117,112,112,101,114])=false) :
  Calls Tryz.prog 185 #[.string s] w fun e w'=>e=.returned (.tuple #[.slice none 0 0,.bool false])/\w'=w:=by
 go_enter Tryz.func185,Tryz.ntmps185
 go_wp2
 go_ret2
 exact⟨rfl,rfl⟩
def aY4(w:World)(b:Bool)(D:List (Int × Int))(e:Ending)(w':World):Prop:=∃ v,e=.returned (.tuple #[v,.bool b])/\RR w.heap.size w' v D/\Below w.heap.size w w'
theorem eL{s:ByteArray}{l:List UInt8}(h:(s.toList==l)=true):s=⟨l.toArray⟩:=by
 obtain⟨⟨d⟩⟩:=s
 have e:(ByteArray.mk { toList:=d }).toList=d:=ByteArray.toList_mk d
 rw [e] at h
 have:=eq_of_beq h
 subst this
 rfl
theorem aS0(s:ByteArray)(w:World):Calls Tryz.prog 185 #[.string s] w (aY4 w (nmd s).1 (nmd s).2):=by
 unfold nmd
 cases h0:(s.toList==[97,108,110,117,109]) with
 | true=>
  simp only [if_true]
  rw [eL h0]
  exact wX w
 | false=>
 cases h1:(s.toList==[97,108,112,104,97]) with
 | true=>
  simp only [if_true,Bool.false_eq_true,if_false]
  rw [eL h1]
  exact wW w
 | false=>
 cases h2:(s.toList==[98,108,97,110,107]) with
 | true=>
  simp only [if_true,Bool.false_eq_true,if_false]
  rw [eL h2]
  exact wV w
 | false=>
 cases h3:(s.toList==[99,110,116,114,108]) with
 | true=>
  simp only [if_true,Bool.false_eq_true,if_false]
  rw [eL h3]
  exact wU w
 | false=>
 cases h4:(s.toList==[100,105,103,105,116]) with
 | true=>
  simp only [if_true,Bool.false_eq_true,if_false]
  rw [eL h4]
  exact wT w
 | false=>
 cases h5:(s.toList==[103,114,97,112,104]) with
 | true=>
  simp only [if_true,Bool.false_eq_true,if_false]
  rw [eL h5]
  exact wS w
 | false=>
 cases h6:(s.toList==[108,111,119,101,114]) with
 | true=>
  simp only [if_true,Bool.false_eq_true,if_false]
  rw [eL h6]
  exact wR w
 | false=>
 cases h7:(s.toList==[112,114,105,110,116]) with
 | true=>
  simp only [if_true,Bool.false_eq_true,if_false]
  rw [eL h7]
  exact wQ w
 | false=>
 cases h8:(s.toList==[112,117,110,99,116]) with
 | true=>
  simp only [if_true,Bool.false_eq_true,if_false]
  rw [eL h8]
  exact wP w
 | false=>
 cases h9:(s.toList==[115,112,97,99,101]) with
 | true=>
  simp only [if_true,Bool.false_eq_true,if_false]
  rw [eL h9]
  exact wO w
 | false=>
 cases h10:(s.toList==[117,112,112,101,114]) with
 | true=>
  simp only [if_true,Bool.false_eq_true,if_false]
  rw [eL h10]
  exact wN w
 | false=>
 cases h11:(s.toList==[120,100,105,103,105,116]) with
 | true=>
  simp only [if_true,Bool.false_eq_true,if_false]
  rw [eL h11]
  exact uC w
 | false=>
 simp only [Bool.false_eq_true,if_false]
 exact(aA0 w h7 h5 h0 h1 h6 h11 h4 h9 h2 h3 h8 h10).mono fun e w' ⟨q1,q2⟩=>⟨_,q1,RR.nil _ _,by rw [q2];exact Below.refl _ _⟩
def okL(L:List (Int × Int)):Bool:=decide (L.length<=4) && L.all fun r=>decide (0<=r.1) && decide (r.1<=127) && decide (0<=r.2) && decide (r.2<=127)
theorem gC(c:Bool)(a b:Bool × List (Int × Int))(ha:okL a.2=true)(hb:okL b.2=true):okL (if c then a else b).2=true:=by cases c <;> assumption
theorem bJ9(s:ByteArray):okL (nmd s).2=true:=by
 unfold nmd
 refine gC _ _ _ (by decide) ?_
 refine gC _ _ _ (by decide) ?_
 refine gC _ _ _ (by decide) ?_
 refine gC _ _ _ (by decide) ?_
 refine gC _ _ _ (by decide) ?_
 refine gC _ _ _ (by decide) ?_
 refine gC _ _ _ (by decide) ?_
 refine gC _ _ _ (by decide) ?_
 refine gC _ _ _ (by decide) ?_
 refine gC _ _ _ (by decide) ?_
 refine gC _ _ _ (by decide) ?_
 exact gC _ _ _ (by decide) (by decide)
theorem aF0(s:ByteArray):Fit (nmd s).2/\(nmd s).2.length<=4:=by
 have h:=bJ9 s
 unfold okL at h
 simp only [Bool.and_eq_true,decide_eq_true_eq,List.all_eq_true] at h
 refine⟨fun r hr=>?_,h.1⟩
 have:=h.2 r hr
 omega
def aR1(x:Bool × List (Int × Int)):Bool:=!x.1 || decide (0 < x.2.length)
theorem eJ(c:Bool)(a b:Bool × List (Int × Int))(ha:aR1 a=true)(hb:aR1 b=true):aR1 (if c then a else b)=true:=by cases c <;> assumption
theorem bC0(s:ByteArray)(h:(nmd s).1=true):0 < (nmd s).2.length:=by
 have k:aR1 (nmd s)=true:=by
  unfold nmd
  refine eJ _ _ _ (by decide) ?_
  refine eJ _ _ _ (by decide) ?_
  refine eJ _ _ _ (by decide) ?_
  refine eJ _ _ _ (by decide) ?_
  refine eJ _ _ _ (by decide) ?_
  refine eJ _ _ _ (by decide) ?_
  refine eJ _ _ _ (by decide) ?_
  refine eJ _ _ _ (by decide) ?_
  refine eJ _ _ _ (by decide) ?_
  refine eJ _ _ _ (by decide) ?_
  refine eJ _ _ _ (by decide) ?_
  exact eJ _ _ _ (by decide) (by decide)
 unfold aR1 at k
 rw [h] at k
 simpa using k
section
attribute [local go_sem] aV
def isL(base:Nat)(w:World)(v:Value)(L:List (Int × Int)):Prop:=RR base w v L/\Fit L/\0 < L.length/\L.length<=4
def cR(base:Nat)(w:World)(v:Value)(t:Tk):Prop:=∃ rv C,v=tkV t 0 0 rv/\RR base w rv C/\IsC C t.q
theorem aT7:IsC [] (fun _=>False):=⟨pE,eK,fun c=>⟨fun h=>eU c h,fun h=>h.elim⟩⟩
theorem bR(base:Nat)(w:World){t:Tk}(ht:t.q=fun _=>False):cR base w (tkV t 0 0 (.slice none 0 0)) t:=⟨_,[],rfl,RR.nil _ _,by rw [ht];exact aT7⟩
abbrev cE:Obj:=.cells #[.int .i64 0,.int .i64 0,.int .i64 0,.int .i64 0,.int .i64 0,.int .i64 0,.slice none 0 0] 116
def TZ(w:World)(g:Nat):Prop:=w.heap[g]?=some cE
theorem TZ.all{w:World}{g:Nat}(h:TZ w g):w.cell? ⟨g,0,none⟩=some (.int .i64 0)/\w.cell? ⟨g,1,none⟩=some (.int .i64 0)/\w.cell? ⟨g,2,none⟩=some (.int .i64 0)/\w.cell? ⟨g,3,none⟩=some (.int .i64 0)/\w.cell? ⟨g,4,none⟩=some (.int .i64 0)/\w.cell? ⟨g,5,none⟩=some (.int .i64 0)/\w.cell? ⟨g,6,none⟩=some (.slice none 0 0) /\
  w.frozen? ⟨g,0,none⟩=false/\w.frozen? ⟨g,1,none⟩=false/\w.frozen? ⟨g,2,none⟩=false/\w.frozen? ⟨g,3,none⟩=false/\w.frozen? ⟨g,4,none⟩=false/\w.frozen? ⟨g,5,none⟩=false/\w.frozen? ⟨g,6,none⟩=false:=
 ⟨aB h (i:=0) rfl,aB h (i:=1) rfl,aB h (i:=2) rfl,aB h (i:=3) rfl,aB h (i:=4) rfl,aB h (i:=5) rfl,aB h (i:=6) rfl,aQ h 0,aQ h 1,aQ h 2,aQ h 3,aQ h 4,aQ h 5,aQ h 6⟩
theorem TZ.kept{w w':World}{g n:Nat}(h:TZ w g)(hb:Below n w w')(hn:g < n):TZ w' g:=(hb.block g hn).trans h
theorem TZ.fr{w w':World}{g:Nat}{S:Nat->Prop}(h:TZ w g)(hb:Fr S w w')(hn:¬ S g):TZ w' g:=(hb.block g (aA h) hn).trans h
theorem TZ.new(w:World):TZ (w.alloc cE) w.heap.size:=aE _ _
abbrev pW(w:World)(g:Nat)(a b c d e f x:Value):World:=((((((w.setCell ⟨g,0,none⟩ a).setCell ⟨g,1,none⟩ b).setCell ⟨g,2,none⟩ c).setCell ⟨g,3,none⟩ d).setCell ⟨g,4,none⟩ e).setCell ⟨g,5,none⟩ f).setCell ⟨g,6,none⟩ x
theorem aJ5{w:World}{g:Nat}(h:TZ w g)(a b c d e f x:Value):(pW w g a b c d e f x).heap[g]?=some (.cells #[a,b,c,d,e,f,x] 116 (0,0)):=
 aL (aL (aL (aL (aL (aL (aL h 0 a) 1 b) 2 c) 3 d) 4 e) 5 f) 6 x
theorem aR{w:World}{g:Nat}(h:TZ w g)(a b c d e f x:Value):(pW w g a b c d e f x).cell? ⟨g,0,none⟩=some a/\(pW w g a b c d e f x).cell? ⟨g,1,none⟩=some b/\(pW w g a b c d e f x).cell? ⟨g,2,none⟩=some c/\(pW w g a b c d e f x).cell? ⟨g,3,none⟩=some d/\(pW w g a b c d e f x).cell? ⟨g,4,none⟩=some e/\(pW w g a b c d e f x).cell? ⟨g,5,none⟩=some f/\(pW w g a b c d e f x).cell? ⟨g,6,none⟩=some x:=by
 have k:=aJ5 h a b c d e f x
 exact⟨aB k (i:=0) rfl,aB k (i:=1) rfl,aB k (i:=2) rfl,aB k (i:=3) rfl,aB k (i:=4) rfl,aB k (i:=5) rfl,aB k (i:=6) rfl⟩
theorem fr7{S:Nat->Prop}{a w:World}{g:Nat}(h:Fr S a w)(hg:S g\/a.heap.size<=g)(x0 x1 x2 x3 x4 x5 x6:Value):Fr S a (pW w g x0 x1 x2 x3 x4 x5 x6):=by
 rcases hg with hg | hg
 ·exact((((((h.setCell (p:=⟨g,0,none⟩) hg _).setCell (p:=⟨g,1,none⟩) hg _).setCell (p:=⟨g,2,none⟩) hg _).setCell (p:=⟨g,3,none⟩) hg _).setCell (p:=⟨g,4,none⟩) hg _).setCell (p:=⟨g,5,none⟩) hg _).setCell (p:=⟨g,6,none⟩) hg _
 ·exact((((((h.setNew (p:=⟨g,0,none⟩) hg _).setNew (p:=⟨g,1,none⟩) hg _).setNew (p:=⟨g,2,none⟩) hg _).setNew (p:=⟨g,3,none⟩) hg _).setNew (p:=⟨g,4,none⟩) hg _).setNew (p:=⟨g,5,none⟩) hg _).setNew (p:=⟨g,6,none⟩) hg _
theorem uR{w w':World}{g:Nat}(h:Below w.heap.size w w')(hg:w.heap.size<=g)(x0 x1 x2 x3 x4 x5 x6:Value):Below w.heap.size w (pW w' g x0 x1 x2 x3 x4 x5 x6):=
 (fr7 (S:=fun _=>False) (Fr.of_below h) (.inr hg) x0 x1 x2 x3 x4 x5 x6).below lz9 (fun _ h=>h.elim)
theorem rr7{base:Nat}{w:World}{v:Value}{C:List (Int × Int)}{g:Nat}(h:RR base w v C)(hg:g < base)(x0 x1 x2 x3 x4 x5 x6:Value):RR base (pW w g x0 x1 x2 x3 x4 x5 x6) v C:=
 h.fr (S:=fun k=>k=g) (fr7 (S:=fun k=>k=g) (Fr.refl _ w) (.inl rfl) x0 x1 x2 x3 x4 x5 x6) fun k hk e=>by have:=(aG h hk).1;omega
theorem iA{w:World}{b:Nat}{s:ByteArray}{m:Md}{p:Nat}{tv:Value}(h:RD w b s m p tv){v:Value}{L:List (Int × Int)}(ha:ArgR w v L)(hF:Fit L)(hl:L.length<=100000)(t:Bool) :
  Calls Tryz.prog 111 #[.pointer (some ⟨b,0,none⟩),v,.bool t] w fun e w'=>∃ v',e=.returned v'/\cR w.heap.size w' v' (bJ m L t)/\Below w.heap.size w w':=by
 obtain⟨mc,mf⟩:=m
 have W1:Below w.heap.size w (w.alloc (.cells #[.int .i64 0,.int .i64 0,.int .i64 0,.int .i64 0,.int .i64 0,.int .i64 0,.slice none 0 0] 116)):=bz9
 have lb:=h.lt
 have c1:=(h.kept W1).c1
 have c2:=(h.kept W1).c2
 obtain⟨q0,k0,rfl,-,-,-⟩:=ha.slice
 have H:Hid (RD w b s ⟨mc,mf⟩ p tv/\ArgR w (.slice q0 L.length k0) L/\Fit L):=⟨h,ha,hF⟩
 clear h ha hF
 simp only at c1 c2
 have GN:Hid (∀ W v' L',Below w.heap.size w W->ArgR W v' L'->Fit L'->L'.length<=300002->Calls Tryz.prog 87 #[v',.bool mc] W (rS W (fun c=>In L' c/\aU mc c) (L'.length+2))):=fun W v' L' _ h1 h2 h3=>aR4 h1 h2 (by omega)
 have GT:Hid (∀ W v' L',Below w.heap.size w W->ArgR W v' L'->Fit L'->L'.length<=300002->Calls Tryz.prog 88 #[v',.bool mc] W (rS W (fun c=>aU mc c/\¬ In L' c) (L'.length+3))):=fun W v' L' _ h1 h2 h3=>bH2 h1 h2 (by omega)
 have GF:Hid (∀ W,Below w.heap.size w W->Calls Tryz.prog 143 #[.slice q0 L.length k0] W (rS W (qL L) (3 * L.length+2))):=fun W hW=>aU3 (H.out.2.1.kept hW) H.out.2.2 (by omega)
 have HW1:Hid (Below w.heap.size w (w.alloc cE)):=W1
 clear W1
 cases mf with
 | true=>
  cases t with
  | true=>
   go_enter Tryz.func111,Tryz.ntmps111
   go_wp2_with first
    |(go_at_call 143;(with_reducible refine(GF.out _ HW1.out).mono ?_);rintro e w5 ⟨v5,C5,rfl,h1,h2,h3,h4⟩;obtain⟨q5,k5,rfl⟩:=h1.shape;have X5:Hid (ArgR w5 (.slice q5 C5.length k5) C5/\IsC C5 (qL L)/\C5.length<=3 * L.length+2/\Below w.heap.size w w5/\TZ w5 w.heap.size):=⟨h1.arg,h2,h3,aD HW1.out h4 lz9,(TZ.new w).kept h4 (by simp)⟩;have d1:=(H.out.1.kept X5.out.2.2.2.1).c1;clear h1 h2 h3 h4)
    |(go_at_call 88;(with_reducible refine(GT.out _ _ _ X5.out.2.2.2.1 X5.out.1 X5.out.2.1.fit (by have:=X5.out.2.2.1;omega)).mono ?_);rintro e w6 ⟨v6,C6,rfl,h1,h2,h3,h4⟩;obtain⟨q6,k6,rfl⟩:=h1.shape;have X6:Hid (RR w5.heap.size w6 (.slice q6 C6.length k6) C6/\IsC C6 (fun c=>aU mc c/\¬ In C5 c)/\Below w.heap.size w w6/\w.heap.size < w5.heap.size/\TZ w6 w.heap.size):=⟨h1,h2,aD X5.out.2.2.2.1 h4 lz9,aA X5.out.2.2.2.2,X5.out.2.2.2.2.kept h4 (aA X5.out.2.2.2.2)⟩;obtain⟨z0,z1,z2,z3,z4,z5,z6,y0,y1,y2,y3,y4,y5,y6⟩:=(X5.out.2.2.2.2.kept h4 (aA X5.out.2.2.2.2)).all;clear h1 h2 h3 h4)
   refine bodyPost_ret (v:=tkV (bJ ⟨mc,true⟩ L true) 0 0 (.slice q6 C6.length k6)) (by obtain⟨e0,e1,e2,e3,e4,e5,e6⟩:=aR X6.out.2.2.2.2 (.int .i64 1) (.int .i64 0) (.int .i64 0) (.int .i64 0) (.int .i64 0) (.int .i64 0) (.slice q6 C6.length k6);simp [results,Tryz.results111,go_sem,tkV,bJ,e0,e1,e2,e3,e4,e5,e6]) rfl ⟨_,rfl,⟨_,C6,rfl,RR.mono (rr7 X6.out.1 X6.out.2.2.2.1 _ _ _ _ _ _ _) (Nat.le_of_lt X6.out.2.2.2.1),X6.out.2.1.to fun c=>?_⟩,uR X6.out.2.2.1 lz9 _ _ _ _ _ _ _⟩
   simp only [bJ,eN,if_true]
   rw [X5.out.2.1.mem]
   exact Iff.rfl
  | false=>
   go_enter Tryz.func111,Tryz.ntmps111
   go_wp2_with first
    |(go_at_call 143;(with_reducible refine(GF.out _ HW1.out).mono ?_);rintro e w5 ⟨v5,C5,rfl,h1,h2,h3,h4⟩;obtain⟨q5,k5,rfl⟩:=h1.shape;have X5:Hid (ArgR w5 (.slice q5 C5.length k5) C5/\IsC C5 (qL L)/\C5.length<=3 * L.length+2/\Below w.heap.size w w5/\TZ w5 w.heap.size):=⟨h1.arg,h2,h3,aD HW1.out h4 lz9,(TZ.new w).kept h4 (by simp)⟩;have d1:=(H.out.1.kept X5.out.2.2.2.1).c1;clear h1 h2 h3 h4)
    |(go_at_call 87;(with_reducible refine(GN.out _ _ _ X5.out.2.2.2.1 X5.out.1 X5.out.2.1.fit (by have:=X5.out.2.2.1;omega)).mono ?_);rintro e w6 ⟨v6,C6,rfl,h1,h2,h3,h4⟩;obtain⟨q6,k6,rfl⟩:=h1.shape;have X6:Hid (RR w5.heap.size w6 (.slice q6 C6.length k6) C6/\IsC C6 (fun c=>In C5 c/\aU mc c)/\Below w.heap.size w w6/\w.heap.size < w5.heap.size/\TZ w6 w.heap.size):=⟨h1,h2,aD X5.out.2.2.2.1 h4 lz9,aA X5.out.2.2.2.2,X5.out.2.2.2.2.kept h4 (aA X5.out.2.2.2.2)⟩;obtain⟨z0,z1,z2,z3,z4,z5,z6,y0,y1,y2,y3,y4,y5,y6⟩:=(X5.out.2.2.2.2.kept h4 (aA X5.out.2.2.2.2)).all;clear h1 h2 h3 h4)
   refine bodyPost_ret (v:=tkV (bJ ⟨mc,true⟩ L false) 0 0 (.slice q6 C6.length k6)) (by obtain⟨e0,e1,e2,e3,e4,e5,e6⟩:=aR X6.out.2.2.2.2 (.int .i64 1) (.int .i64 0) (.int .i64 0) (.int .i64 0) (.int .i64 0) (.int .i64 0) (.slice q6 C6.length k6);simp [results,Tryz.results111,go_sem,tkV,bJ,e0,e1,e2,e3,e4,e5,e6]) rfl ⟨_,rfl,⟨_,C6,rfl,RR.mono (rr7 X6.out.1 X6.out.2.2.2.1 _ _ _ _ _ _ _) (Nat.le_of_lt X6.out.2.2.2.1),X6.out.2.1.to fun c=>?_⟩,uR X6.out.2.2.1 lz9 _ _ _ _ _ _ _⟩
   simp only [bJ,eN,if_true,Bool.false_eq_true,if_false]
   rw [X5.out.2.1.mem]
   exact And.comm
 | false=>
  cases t with
  | true=>
   go_enter Tryz.func111,Tryz.ntmps111
   go_wp2_with first
    |(go_at_call 88;(with_reducible refine(GT.out _ _ _ HW1.out (H.out.2.1.kept HW1.out) H.out.2.2 (by omega)).mono ?_);rintro e w6 ⟨v6,C6,rfl,h1,h2,h3,h4⟩;obtain⟨q6,k6,rfl⟩:=h1.shape;have X6:Hid (RR (w.alloc cE).heap.size w6 (.slice q6 C6.length k6) C6/\IsC C6 (fun c=>aU mc c/\¬ In L c)/\Below w.heap.size w w6/\w.heap.size < (w.alloc cE).heap.size/\TZ w6 w.heap.size):=⟨h1,h2,aD HW1.out h4 lz9,aA (TZ.new w),(TZ.new w).kept h4 (aA (TZ.new w))⟩;obtain⟨z0,z1,z2,z3,z4,z5,z6,y0,y1,y2,y3,y4,y5,y6⟩:=((TZ.new w).kept h4 (aA (TZ.new w))).all;clear h1 h2 h3 h4)
   refine bodyPost_ret (v:=tkV (bJ ⟨mc,false⟩ L true) 0 0 (.slice q6 C6.length k6)) (by obtain⟨e0,e1,e2,e3,e4,e5,e6⟩:=aR X6.out.2.2.2.2 (.int .i64 1) (.int .i64 0) (.int .i64 0) (.int .i64 0) (.int .i64 0) (.int .i64 0) (.slice q6 C6.length k6);simp [results,Tryz.results111,go_sem,tkV,bJ,e0,e1,e2,e3,e4,e5,e6]) rfl ⟨_,rfl,⟨_,C6,rfl,RR.mono (rr7 X6.out.1 X6.out.2.2.2.1 _ _ _ _ _ _ _) (Nat.le_of_lt X6.out.2.2.2.1),X6.out.2.1.to fun c=>?_⟩,uR X6.out.2.2.1 lz9 _ _ _ _ _ _ _⟩
   simp [bJ,eN]
  | false=>
   go_enter Tryz.func111,Tryz.ntmps111
   go_wp2_with first
    |(go_at_call 87;(with_reducible refine(GN.out _ _ _ HW1.out (H.out.2.1.kept HW1.out) H.out.2.2 (by omega)).mono ?_);rintro e w6 ⟨v6,C6,rfl,h1,h2,h3,h4⟩;obtain⟨q6,k6,rfl⟩:=h1.shape;have X6:Hid (RR (w.alloc cE).heap.size w6 (.slice q6 C6.length k6) C6/\IsC C6 (fun c=>In L c/\aU mc c)/\Below w.heap.size w w6/\w.heap.size < (w.alloc cE).heap.size/\TZ w6 w.heap.size):=⟨h1,h2,aD HW1.out h4 lz9,aA (TZ.new w),(TZ.new w).kept h4 (aA (TZ.new w))⟩;obtain⟨z0,z1,z2,z3,z4,z5,z6,y0,y1,y2,y3,y4,y5,y6⟩:=((TZ.new w).kept h4 (aA (TZ.new w))).all;clear h1 h2 h3 h4)
   refine bodyPost_ret (v:=tkV (bJ ⟨mc,false⟩ L false) 0 0 (.slice q6 C6.length k6)) (by obtain⟨e0,e1,e2,e3,e4,e5,e6⟩:=aR X6.out.2.2.2.2 (.int .i64 1) (.int .i64 0) (.int .i64 0) (.int .i64 0) (.int .i64 0) (.int .i64 0) (.slice q6 C6.length k6);simp [results,Tryz.results111,go_sem,tkV,bJ,e0,e1,e2,e3,e4,e5,e6]) rfl ⟨_,rfl,⟨_,C6,rfl,RR.mono (rr7 X6.out.1 X6.out.2.2.2.1 _ _ _ _ _ _ _) (Nat.le_of_lt X6.out.2.2.2.1),X6.out.2.1.to fun c=>?_⟩,uR X6.out.2.2.1 lz9 _ _ _ _ _ _ _⟩
   simp only [bJ,eN,Bool.false_eq_true,if_false]
   exact And.comm
end
section
attribute [local go_sem] aV
theorem aH0{m:Md}{s:ByteArray}{o p:Nat}{c:Int}{q:Nat}(h:qQ m s o p=.ok (c,q)):0<=c/\c<=1114111:=by
 unfold qQ at h
 split at h
 ·cases h
 ·rename_i e _
  split at h
  ·cases h
  ·rename_i k
   have:=bG7 m (s.extract (p+2) e) 0
   cases h
   omega
theorem qU{m:Md}{s:ByteArray}{p:Nat}{c:Int}{q:Nat}(h:chr m s p=.ok (c,q)):0<=c/\c<=1114111:=by
 unfold chr at h
 have:=bG7 m s p
 split at h
 ·cases h
 ·cases h;omega
theorem aG9{m:Md}{s:ByteArray}{o p:Nat}{c:Int}{q:Nat}(h:oX m s o p=.ok (c,q)):0<=c/\c<=1114111:=by
 unfold oX at h
 split at h
 ·cases h
 split at h
 ·exact aH0 h
 ·exact qU h
theorem cS{a b:Int}(h:0<=a/\a<=1114111)(k:0<=b/\b<=1114111):Fit [(a,b)]:=fun r hr=>by simp at hr;subst hr;simp only;omega
theorem fE{w w':World}{b:Nat}(h:Glb w)(hf:Fr (At b) w w')(hb:3 < b):Glb w':=h.fr hf (fun k hk=>by rw [hk];exact hb)
theorem aF3{w:World}{b:Nat}{s:ByteArray}{m:Md}{p o:Nat}{tv:Value}(hG:Glb w)(h:RD w b s m p tv)(hp:p+1 < s.size)(hs:s.size<=2000) :
  Calls Tryz.prog 166 #[.pointer (some ⟨b,0,none⟩),.int .i64 (o:Int)] w (Outs w b s m tv (isL w.heap.size) (nam s o p)):=by
 have c3:=h.c3
 have lb:=h.lt
 have hc:=vA (o:=o) (k:=0) hG h hp hs (by omega)
 clear h hG
 unfold aN4 at hc
 unfold nam
 cases hw:wit s o p 0 with
 | error e=>
  rw [hw] at hc
  go_enter Tryz.func166,Tryz.ntmps166
  go_wp2_with (go_at_call 186;refine hc.mono ?_;rintro e5 w5 ⟨h1,g,h2,rfl,h4⟩)
  exact⟨rfl,.err h1 h2 h4⟩
 | ok e=>
  rw [hw] at hc
  simp only at hc
  simp only
  have hn:Hid (∀ W,Calls Tryz.prog 185 #[.string (s.extract (p+2) e)] W (aY4 W (nmd (s.extract (p+2) e)).1 (nmd (s.extract (p+2) e)).2)):=fun W=>aS0 _ W
  have hf:Hid (Fit (nmd (s.extract (p+2) e)).2/\(nmd (s.extract (p+2) e)).2.length<=4/\((nmd (s.extract (p+2) e)).1=true->0 < (nmd (s.extract (p+2) e)).2.length)):=⟨(aF0 _).1,(aF0 _).2,bC0 _⟩
  generalize (nmd (s.extract (p+2) e)).2=D at *
  generalize (nmd (s.extract (p+2) e)).1=y at *
  generalize s.extract (p+2) e=t at *
  cases y with
  | true=>
   rw [if_pos rfl]
   go_enter Tryz.func166,Tryz.ntmps166
   go_wp2_with first
    |(go_at_call 186;refine hc.mono ?_;rintro e5 w5 ⟨h1,v5,rfl,h2,rfl⟩;have X5:Hid (Fr (At b) w w5/\RD w5 b s m (e+2) tv):=⟨h1,h2⟩;clear h1 h2)
    |(go_at_call 185;(with_reducible refine(hn.out _).mono ?_);rintro e6 w6 ⟨v6,rfl,h6,h7⟩;have X6:Hid (RR w5.heap.size w6 v6 D/\Below w5.heap.size w5 w6):=⟨h6,h7⟩;clear h6 h7)
   go_ret
   exact .is (X5.out.1.then X6.out.2) (X5.out.2.kept X6.out.2) ⟨X6.out.1.mono X5.out.1.size,hf.out.1,(hf.out.2.2 (by trivial)),hf.out.2.1⟩
  | false=>
   rw [if_neg (by simp)]
   go_enter Tryz.func166,Tryz.ntmps166
   go_wp2_with first
    |(go_at_call 186;refine hc.mono ?_;rintro e5 w5 ⟨h1,v5,rfl,h2,rfl⟩;have X5:Hid (Fr (At b) w w5/\RD w5 b s m (e+2) tv):=⟨h1,h2⟩;clear h1 h2)
    |(go_at_call 185;(with_reducible refine(hn.out _).mono ?_);rintro e6 w6 ⟨v6,rfl,h6,h7⟩;have X6:Hid (Below w5.heap.size w5 w6):=h7;clear h6 h7)
    |(go_at_call 65;refine(bX 35 p _).mono ?_;rintro e w8 ⟨rfl,h6,h7⟩;have X8:Hid (bI w8 w6.heap.size 35 p/\Below w6.heap.size w6 w8):=⟨h6,h7⟩;clear h6 h7)
   exact⟨rfl,.err (X5.out.1.then (aD X6.out X8.out.2 lz9)) (Nat.le_trans X5.out.1.size X6.out.size) X8.out.1⟩
theorem aP1{w:World}{b:Nat}{s:ByteArray}{m:Md}{p o:Nat}{tv:Value}(hG:Glb w)(h:RD w b s m p tv)(hb:3 < b)(hp:p<=s.size)(hs:s.size<=2000)(ho:o<=s.size) :
  Calls Tryz.prog 168 #[.pointer (some ⟨b,0,none⟩),.int .i64 (o:Int)] w (Outs w b s m tv (isL w.heap.size) (spn m s o p)):=by
 have c3:=h.c3
 have lb:=h.lt
 have H:Hid (Glb w/\RD w b s m p tv):=⟨hG,h⟩
 have hrng:=qP m s o p ho hp
 clear h hG
 unfold spn
 cases he:oX m s o p with
 | error x=>
  go_enter Tryz.func168,Tryz.ntmps168
  go_wp2_with (go_at_call 187;have hih:=kI (o:=o) H.out.1 H.out.2 hb hp hs;rw [he] at hih;refine hih.mono ?_;rintro e5 w5 ⟨h1,g,h2,rfl,h4⟩)
  exact⟨rfl,.err h1 h2 h4⟩
 | ok x=>
  obtain⟨lo,q⟩:=x
  rw [he] at hrng
  have hq:q<=s.size:=hrng.2
  have hlo:=aG9 he
  clear hrng
  simp only
  have SN:Hid (∀ W t,RD W b s m q tv->Calls Tryz.prog 105 #[.pointer (some ⟨b,0,none⟩),.string t] W fun e w'=>e=.returned (.bool (aJ s q t.data.toList))/\Below W.heap.size W w'):=fun W t hW=>aT hW hq t
  by_cases h1:aJ s q [45,93]=true
  ·have SA:Hid (∀ W,RD W b s m q tv->Calls Tryz.prog 105 #[.pointer (some ⟨b,0,none⟩),.string ⟨#[45,93]⟩] W fun e w'=>e=.returned (.bool true)/\Below W.heap.size W w'):=fun W hW=>by have:=SN.out W ⟨#[45,93]⟩ hW;rw [show aJ s q (ByteArray.data ⟨#[45,93]⟩).toList=true from h1] at this;exact this
   rw [if_pos (by simp [h1])]
   go_enter Tryz.func168,Tryz.ntmps168
   go_wp2_with first
    |(go_at_call 187;have hih:=kI (o:=o) H.out.1 H.out.2 hb hp hs;rw [he] at hih;(with_reducible refine hih.mono ?_);clear hih;rintro e5 w5 ⟨h1,v5,rfl,h2,rfl⟩;have X5:Hid (Fr (At b) w w5/\RD w5 b s m q tv/\Glb w5):=⟨h1,h2,fE H.out.1 h1 hb⟩;clear h1 h2)
    |(go_at_call 105;(with_reducible refine(SA.out _ X5.out.2.1).mono ?_);rintro e6 w6 ⟨rfl,h6⟩;have X6:Hid (Below w5.heap.size w5 w6):=h6;clear h6)
    |(go_at_call 113;refine(eT lo _).mono ?_;rintro e7 w7 ⟨v7,rfl,h6,h7⟩;have X7:Hid (RR w6.heap.size w7 v7 [(lo,lo)]/\Below w5.heap.size w5 w7):=⟨h6,aD X6.out h7 lz9⟩;clear h6 h7)
   go_ret
   exact .is (X5.out.1.then X7.out.2) (X5.out.2.1.kept X7.out.2) ⟨X7.out.1.mono (Nat.le_trans X5.out.1.size X6.out.size),cS hlo hlo,by simp⟩
  ·have h1f:aJ s q [45,93]=false:=by simpa using h1
   have SA:Hid (∀ W,RD W b s m q tv->Calls Tryz.prog 105 #[.pointer (some ⟨b,0,none⟩),.string ⟨#[45,93]⟩] W fun e w'=>e=.returned (.bool false)/\Below W.heap.size W w'):=fun W hW=>by have:=SN.out W ⟨#[45,93]⟩ hW;rw [show aJ s q (ByteArray.data ⟨#[45,93]⟩).toList=false from h1f] at this;exact this
   by_cases h2:aJ s q [45]=true
   ·rw [if_neg (by simp [h1f,h2])]
    have hq1:q+1<=s.size:=by have:=fB h2 (by simp);simpa using this
    have KA:Hid (∀ W,RD W b s m q tv->Calls Tryz.prog 145 #[.pointer (some ⟨b,0,none⟩),.string ⟨#[45]⟩] W fun e w'=>e=.returned (.bool true)/\RD w' b s m (q+1) tv/\Fr (At b) W w'):=fun W hW=>gK hW hq hs ⟨#[45]⟩ (by simp [ByteArray.size]) h2
    have SN1:Hid (∀ W t,RD W b s m (q+1) tv->Calls Tryz.prog 105 #[.pointer (some ⟨b,0,none⟩),.string t] W fun e w'=>e=.returned (.bool (aJ s (q+1) t.data.toList))/\Below W.heap.size W w'):=fun W t hW=>aT hW hq1 t
    by_cases h3:aJ s (q+1) [91,58]=true
    ·have SB:Hid (∀ W,RD W b s m (q+1) tv->Calls Tryz.prog 105 #[.pointer (some ⟨b,0,none⟩),.string ⟨#[91,58]⟩] W fun e w'=>e=.returned (.bool true)/\Below W.heap.size W w'):=fun W hW=>by have:=SN1.out W ⟨#[91,58]⟩ hW;rw [show aJ s (q+1) (ByteArray.data ⟨#[91,58]⟩).toList=true from h3] at this;exact this
     rw [if_pos (by simp [h3])]
     go_enter Tryz.func168,Tryz.ntmps168
     go_wp2_with first
      |(go_at_call 187;have hih:=kI (o:=o) H.out.1 H.out.2 hb hp hs;rw [he] at hih;(with_reducible refine hih.mono ?_);clear hih;rintro e5 w5 ⟨h1,v5,rfl,h2,rfl⟩;have X5:Hid (Fr (At b) w w5/\RD w5 b s m q tv/\Glb w5):=⟨h1,h2,fE H.out.1 h1 hb⟩;clear h1 h2)
      |(go_at_call 105;(with_reducible refine(SA.out _ X5.out.2.1).mono ?_);rintro e6 w6 ⟨rfl,h6⟩;have X6:Hid (Below w5.heap.size w5 w6):=h6;clear h6)
      |(go_at_call 145;(with_reducible refine(KA.out _ (X5.out.2.1.kept X6.out)).mono ?_);rintro e7 w7 ⟨rfl,h6,h7⟩;have X7:Hid (RD w7 b s m (q+1) tv/\Fr (At b) w w7):=⟨h6,(X5.out.1.then X6.out).trans h7⟩;clear h6 h7)
      |(go_at_call 105;(with_reducible refine(SB.out _ X7.out.1).mono ?_);rintro e8 w8 ⟨rfl,h6⟩;have X8:Hid (Below w7.heap.size w7 w8):=h6;clear h6)
      |(go_at_call 65;refine(bX 34 p _).mono ?_;rintro e w9 ⟨rfl,h6,h7⟩;have X9:Hid (bI w9 w8.heap.size 34 p/\Below w8.heap.size w8 w9):=⟨h6,h7⟩;clear h6 h7)
     exact⟨rfl,.err (X7.out.2.then (aD X8.out X9.out.2 lz9)) (Nat.le_trans X7.out.2.size X8.out.size) X9.out.1⟩
    ·have h3f:aJ s (q+1) [91,58]=false:=by simpa using h3
     have SB:Hid (∀ W,RD W b s m (q+1) tv->Calls Tryz.prog 105 #[.pointer (some ⟨b,0,none⟩),.string ⟨#[91,58]⟩] W fun e w'=>e=.returned (.bool false)/\Below W.heap.size W w'):=fun W hW=>by have:=SN1.out W ⟨#[91,58]⟩ hW;rw [show aJ s (q+1) (ByteArray.data ⟨#[91,58]⟩).toList=false from h3f] at this;exact this
     by_cases h4:aJ s (q+1) [91,61]=true
     ·have SC:Hid (∀ W,RD W b s m (q+1) tv->Calls Tryz.prog 105 #[.pointer (some ⟨b,0,none⟩),.string ⟨#[91,61]⟩] W fun e w'=>e=.returned (.bool true)/\Below W.heap.size W w'):=fun W hW=>by have:=SN1.out W ⟨#[91,61]⟩ hW;rw [show aJ s (q+1) (ByteArray.data ⟨#[91,61]⟩).toList=true from h4] at this;exact this
      rw [if_pos (by simp [h4])]
      go_enter Tryz.func168,Tryz.ntmps168
      go_wp2_with first
       |(go_at_call 187;have hih:=kI (o:=o) H.out.1 H.out.2 hb hp hs;rw [he] at hih;(with_reducible refine hih.mono ?_);clear hih;rintro e5 w5 ⟨h1,v5,rfl,h2,rfl⟩;have X5:Hid (Fr (At b) w w5/\RD w5 b s m q tv/\Glb w5):=⟨h1,h2,fE H.out.1 h1 hb⟩;clear h1 h2)
       |(go_at_call 105;(with_reducible refine(SA.out _ X5.out.2.1).mono ?_);rintro e6 w6 ⟨rfl,h6⟩;have X6:Hid (Below w5.heap.size w5 w6):=h6;clear h6)
       |(go_at_call 145;(with_reducible refine(KA.out _ (X5.out.2.1.kept X6.out)).mono ?_);rintro e7 w7 ⟨rfl,h6,h7⟩;have X7:Hid (RD w7 b s m (q+1) tv/\Fr (At b) w w7):=⟨h6,(X5.out.1.then X6.out).trans h7⟩;clear h6 h7)
       |(go_at_call 105;(with_reducible refine(SB.out _ X7.out.1).mono ?_);rintro e8 w8 ⟨rfl,h6⟩;have X8:Hid (Below w7.heap.size w7 w8):=h6;clear h6)
       |(go_at_call 105;(with_reducible refine(SC.out _ (X7.out.1.kept X8.out)).mono ?_);rintro e9 w9 ⟨rfl,h6⟩;have X9:Hid (Below w7.heap.size w7 w9):=aD X8.out h6 lz9;clear h6)
       |(go_at_call 65;refine(bX 34 p _).mono ?_;rintro e w10 ⟨rfl,h6,h7⟩;have X10:Hid (bI w10 w9.heap.size 34 p/\Below w9.heap.size w9 w10):=⟨h6,h7⟩;clear h6 h7)
      exact⟨rfl,.err (X7.out.2.then (aD X9.out X10.out.2 lz9)) (Nat.le_trans X7.out.2.size X9.out.size) X10.out.1⟩
     ·have h4f:aJ s (q+1) [91,61]=false:=by simpa using h4
      have SC:Hid (∀ W,RD W b s m (q+1) tv->Calls Tryz.prog 105 #[.pointer (some ⟨b,0,none⟩),.string ⟨#[91,61]⟩] W fun e w'=>e=.returned (.bool false)/\Below W.heap.size W w'):=fun W hW=>by have:=SN1.out W ⟨#[91,61]⟩ hW;rw [show aJ s (q+1) (ByteArray.data ⟨#[91,61]⟩).toList=false from h4f] at this;exact this
      rw [if_neg (by simp [h3f,h4f])]
      clear h1 h2 h3 h4 h1f h3f h4f
      cases hf:oX m s o (q+1) with
      | error x=>
       go_enter Tryz.func168,Tryz.ntmps168
       go_wp2_with first
        |(go_at_call 187;have hx:=X9.out;clear hx;have hih:=kI (o:=o) X9.out.2.2 X9.out.1 hb hq1 hs;rw [hf] at hih;(with_reducible refine hih.mono ?_);rintro e5 w10 ⟨h1,g,h2,rfl,h4⟩)
        |(go_at_call 187;have hih:=kI (o:=o) H.out.1 H.out.2 hb hp hs;rw [he] at hih;(with_reducible refine hih.mono ?_);clear hih;rintro e5 w5 ⟨h1,v5,rfl,h2,rfl⟩;have X5:Hid (Fr (At b) w w5/\RD w5 b s m q tv/\Glb w5):=⟨h1,h2,fE H.out.1 h1 hb⟩;clear h1 h2)
        |(go_at_call 105;(with_reducible refine(SA.out _ X5.out.2.1).mono ?_);rintro e6 w6 ⟨rfl,h6⟩;have X6:Hid (Below w5.heap.size w5 w6):=h6;clear h6)
        |(go_at_call 145;(with_reducible refine(KA.out _ (X5.out.2.1.kept X6.out)).mono ?_);rintro e7 w7 ⟨rfl,h6,h7⟩;have X7:Hid (RD w7 b s m (q+1) tv/\Fr (At b) w w7):=⟨h6,(X5.out.1.then X6.out).trans h7⟩;clear h6 h7)
        |(go_at_call 105;(with_reducible refine(SB.out _ X7.out.1).mono ?_);rintro e8 w8 ⟨rfl,h6⟩;have X8:Hid (Below w7.heap.size w7 w8):=h6;clear h6)
        |(go_at_call 105;(with_reducible refine(SC.out _ (X7.out.1.kept X8.out)).mono ?_);rintro e9 w9 ⟨rfl,h6⟩;have X9:Hid (RD w9 b s m (q+1) tv/\Fr (At b) w w9/\Glb w9):=⟨X7.out.1.kept (aD X8.out h6 lz9),X7.out.2.then (aD X8.out h6 lz9),fE H.out.1 (X7.out.2.then (aD X8.out h6 lz9)) hb⟩;clear h6)
       exact⟨rfl,.err (X9.out.2.1.trans h1) (Nat.le_trans X9.out.2.1.size h2) h4⟩
      | ok x=>
       obtain⟨hi,r⟩:=x
       simp only
       have hhi:=aG9 hf
       by_cases hlt:hi < lo
       ·rw [if_pos hlt]
        have dlt:decide (hi < lo)=true:=decide_eq_true hlt
        go_enter Tryz.func168,Tryz.ntmps168
        go_wp2_with first
         |(go_at_call 187;have hx:=X9.out;clear hx;have hih:=kI (o:=o) X9.out.2.2 X9.out.1 hb hq1 hs;rw [hf] at hih;(with_reducible refine hih.mono ?_);clear hih;rintro e5 w10 ⟨h1,v10,rfl,h2,rfl⟩;have X10:Hid (Fr (At b) w w10/\RD w10 b s m r tv):=⟨X9.out.2.1.trans h1,h2⟩;clear h1 h2)
         |(go_at_call 187;have hih:=kI (o:=o) H.out.1 H.out.2 hb hp hs;rw [he] at hih;(with_reducible refine hih.mono ?_);clear hih;rintro e5 w5 ⟨h1,v5,rfl,h2,rfl⟩;have X5:Hid (Fr (At b) w w5/\RD w5 b s m q tv/\Glb w5):=⟨h1,h2,fE H.out.1 h1 hb⟩;clear h1 h2)
         |(go_at_call 105;(with_reducible refine(SA.out _ X5.out.2.1).mono ?_);rintro e6 w6 ⟨rfl,h6⟩;have X6:Hid (Below w5.heap.size w5 w6):=h6;clear h6)
         |(go_at_call 145;(with_reducible refine(KA.out _ (X5.out.2.1.kept X6.out)).mono ?_);rintro e7 w7 ⟨rfl,h6,h7⟩;have X7:Hid (RD w7 b s m (q+1) tv/\Fr (At b) w w7):=⟨h6,(X5.out.1.then X6.out).trans h7⟩;clear h6 h7)
         |(go_at_call 105;(with_reducible refine(SB.out _ X7.out.1).mono ?_);rintro e8 w8 ⟨rfl,h6⟩;have X8:Hid (Below w7.heap.size w7 w8):=h6;clear h6)
         |(go_at_call 105;(with_reducible refine(SC.out _ (X7.out.1.kept X8.out)).mono ?_);rintro e9 w9 ⟨rfl,h6⟩;have X9:Hid (RD w9 b s m (q+1) tv/\Fr (At b) w w9/\Glb w9):=⟨X7.out.1.kept (aD X8.out h6 lz9),X7.out.2.then (aD X8.out h6 lz9),fE H.out.1 (X7.out.2.then (aD X8.out h6 lz9)) hb⟩;clear h6)
         |(go_at_call 65;refine(bX 34 p _).mono ?_;rintro e w11 ⟨rfl,h6,h7⟩;have X11:Hid (bI w11 w10.heap.size 34 p/\Below w10.heap.size w10 w11):=⟨h6,h7⟩;clear h6 h7)
        exact⟨rfl,.err (X10.out.1.then X11.out.2) X10.out.1.size X11.out.1⟩
       ·rw [if_neg hlt]
        go_enter Tryz.func168,Tryz.ntmps168
        go_wp2_with first
         |(go_at_call 187;have hx:=X9.out;clear hx;have hih:=kI (o:=o) X9.out.2.2 X9.out.1 hb hq1 hs;rw [hf] at hih;(with_reducible refine hih.mono ?_);clear hih;rintro e5 w10 ⟨h1,v10,rfl,h2,rfl⟩;have X10:Hid (Fr (At b) w w10/\RD w10 b s m r tv):=⟨X9.out.2.1.trans h1,h2⟩;clear h1 h2)
         |(go_at_call 187;have hih:=kI (o:=o) H.out.1 H.out.2 hb hp hs;rw [he] at hih;(with_reducible refine hih.mono ?_);clear hih;rintro e5 w5 ⟨h1,v5,rfl,h2,rfl⟩;have X5:Hid (Fr (At b) w w5/\RD w5 b s m q tv/\Glb w5):=⟨h1,h2,fE H.out.1 h1 hb⟩;clear h1 h2)
         |(go_at_call 105;(with_reducible refine(SA.out _ X5.out.2.1).mono ?_);rintro e6 w6 ⟨rfl,h6⟩;have X6:Hid (Below w5.heap.size w5 w6):=h6;clear h6)
         |(go_at_call 145;(with_reducible refine(KA.out _ (X5.out.2.1.kept X6.out)).mono ?_);rintro e7 w7 ⟨rfl,h6,h7⟩;have X7:Hid (RD w7 b s m (q+1) tv/\Fr (At b) w w7):=⟨h6,(X5.out.1.then X6.out).trans h7⟩;clear h6 h7)
         |(go_at_call 105;(with_reducible refine(SB.out _ X7.out.1).mono ?_);rintro e8 w8 ⟨rfl,h6⟩;have X8:Hid (Below w7.heap.size w7 w8):=h6;clear h6)
         |(go_at_call 105;(with_reducible refine(SC.out _ (X7.out.1.kept X8.out)).mono ?_);rintro e9 w9 ⟨rfl,h6⟩;have X9:Hid (RD w9 b s m (q+1) tv/\Fr (At b) w w9/\Glb w9):=⟨X7.out.1.kept (aD X8.out h6 lz9),X7.out.2.then (aD X8.out h6 lz9),fE H.out.1 (X7.out.2.then (aD X8.out h6 lz9)) hb⟩;clear h6)
        go_ret
        exact .is (X10.out.1.then (bz9)) (X10.out.2.kept (bz9)) ⟨RR.mono (World.ownsRow_lit w10 #[.int .i64 lo,.int .i64 hi] 1 lz9 (by unfold maxLen;omega) rfl) X10.out.1.size,cS hlo hhi,by simp⟩
   ·have h2f:aJ s q [45]=false:=by simpa using h2
    have KA:Hid (∀ W,RD W b s m q tv->Calls Tryz.prog 145 #[.pointer (some ⟨b,0,none⟩),.string ⟨#[45]⟩] W fun e w'=>e=.returned (.bool false)/\Below W.heap.size W w'):=fun W hW=>iL hW hq ⟨#[45]⟩ h2f
    rw [if_pos (by simp [h2f])]
    go_enter Tryz.func168,Tryz.ntmps168
    go_wp2_with first
     |(go_at_call 187;have hih:=kI (o:=o) H.out.1 H.out.2 hb hp hs;rw [he] at hih;(with_reducible refine hih.mono ?_);clear hih;rintro e5 w5 ⟨h1,v5,rfl,h2,rfl⟩;have X5:Hid (Fr (At b) w w5/\RD w5 b s m q tv/\Glb w5):=⟨h1,h2,fE H.out.1 h1 hb⟩;clear h1 h2)
     |(go_at_call 105;(with_reducible refine(SA.out _ X5.out.2.1).mono ?_);rintro e6 w6 ⟨rfl,h6⟩;have X6:Hid (Below w5.heap.size w5 w6):=h6;clear h6)
     |(go_at_call 145;(with_reducible refine(KA.out _ (X5.out.2.1.kept X6.out)).mono ?_);rintro e7 w7 ⟨rfl,h6⟩;have X7:Hid (Below w5.heap.size w5 w7):=aD X6.out h6 lz9;clear h6)
     |(go_at_call 113;refine(eT lo _).mono ?_;rintro e8 w8 ⟨v8,rfl,h6,h7⟩;have X8:Hid (RR w7.heap.size w8 v8 [(lo,lo)]/\Below w5.heap.size w5 w8):=⟨h6,aD X7.out h7 lz9⟩;clear h6 h7)
    go_ret
    exact .is (X5.out.1.then X8.out.2) (X5.out.2.1.kept X8.out.2) ⟨X8.out.1.mono (Nat.le_trans X5.out.1.size X7.out.size),cS hlo hlo,by simp⟩
end
section
attribute [local go_sem] aV
theorem mX{a b:Nat}{w:World}{v:Value}{L:List (Int × Int)}(h:isL b w v L)(hab:a<=b):isL a w v L:=⟨h.1.mono hab,h.2.1,h.2.2⟩
theorem iM{w:World}{b:Nat}{s:ByteArray}{m:Md}{p o:Nat}{tv:Value}(hG:Glb w)(h:RD w b s m p tv)(hb:3 < b)(hp:p<=s.size)(hs:s.size<=2000)(ho:o<=s.size) :
  Calls Tryz.prog 146 #[.pointer (some ⟨b,0,none⟩),.int .i64 (o:Int)] w (Outs w b s m tv (isL w.heap.size) (sgl m s o p)):=by
 have H:Hid (Glb w/\RD w b s m p tv):=⟨hG,h⟩
 clear h hG
 unfold sgl
 by_cases h1:aJ s p [91,58]=true
 ·have SA:Hid (∀ W,RD W b s m p tv->Calls Tryz.prog 105 #[.pointer (some ⟨b,0,none⟩),.string ⟨#[91,58]⟩] W fun e w'=>e=.returned (.bool true)/\Below W.heap.size W w'):=fun W hW=>by have:=aT hW hp ⟨#[91,58]⟩;rw [show aJ s p (ByteArray.data ⟨#[91,58]⟩).toList=true from h1] at this;exact this
  rw [if_pos h1]
  have hp1:p+1 < s.size:=(eE.1 h1).1
  cases hr:nam s o p with
  | error x=>
   go_enter Tryz.func146,Tryz.ntmps146
   go_wp2_with first
    |(go_at_call 105;(with_reducible refine(SA.out _ (H.out.2)).mono ?_);rintro e5 w5 ⟨rfl,h6⟩;have X5:Hid (Below w.heap.size w w5):=h6;clear h6)
    |(go_at_call 166;have hih:=aF3 (o:=o) (H.out.1.kept X5.out) (H.out.2.kept X5.out) hp1 hs;rw [hr] at hih;(with_reducible refine hih.mono ?_);rintro e w8 ⟨h1,g,h2,rfl,h4⟩)
   exact⟨rfl,.err ((Fr.of_below X5.out).trans h1) (Nat.le_trans X5.out.size h2) h4⟩
  | ok x=>
   obtain⟨L,r⟩:=x
   go_enter Tryz.func146,Tryz.ntmps146
   go_wp2_with first
    |(go_at_call 105;(with_reducible refine(SA.out _ (H.out.2)).mono ?_);rintro e5 w5 ⟨rfl,h6⟩;have X5:Hid (Below w.heap.size w w5):=h6;clear h6)
    |(go_at_call 166;have hih:=aF3 (o:=o) (H.out.1.kept X5.out) (H.out.2.kept X5.out) hp1 hs;rw [hr] at hih;(with_reducible refine hih.mono ?_);clear hih;rintro e w8 ⟨h1,v8,rfl,h2,h3⟩;obtain⟨q8,k8,rfl⟩:=h3.1.shape;have X8:Hid (Fr (At b) w w8/\RD w8 b s m r tv/\isL w.heap.size w8 (.slice q8 L.length k8) L):=⟨(Fr.of_below X5.out).trans h1,h2,mX h3 X5.out.size⟩;clear h1 h2 h3)
   go_ret
   exact .is X8.out.1 X8.out.2.1 X8.out.2.2
 ·have h1f:aJ s p [91,58]=false:=by simpa using h1
  have SA:Hid (∀ W,RD W b s m p tv->Calls Tryz.prog 105 #[.pointer (some ⟨b,0,none⟩),.string ⟨#[91,58]⟩] W fun e w'=>e=.returned (.bool false)/\Below W.heap.size W w'):=fun W hW=>by have:=aT hW hp ⟨#[91,58]⟩;rw [show aJ s p (ByteArray.data ⟨#[91,58]⟩).toList=false from h1f] at this;exact this
  rw [if_neg h1]
  by_cases h2:aJ s p [91,61]=true
  ·have SB:Hid (∀ W,RD W b s m p tv->Calls Tryz.prog 105 #[.pointer (some ⟨b,0,none⟩),.string ⟨#[91,61]⟩] W fun e w'=>e=.returned (.bool true)/\Below W.heap.size W w'):=fun W hW=>by have:=aT hW hp ⟨#[91,61]⟩;rw [show aJ s p (ByteArray.data ⟨#[91,61]⟩).toList=true from h2] at this;exact this
   rw [if_pos h2]
   have hp1:p+1 < s.size:=(eE.1 h2).1
   cases hr:qQ m s o p with
   | error x=>
    go_enter Tryz.func146,Tryz.ntmps146
    go_wp2_with first
     |(go_at_call 105;(with_reducible refine(SA.out _ (H.out.2)).mono ?_);rintro e5 w5 ⟨rfl,h6⟩;have X5:Hid (Below w.heap.size w w5):=h6;clear h6)
     |(go_at_call 105;(with_reducible refine(SB.out _ (H.out.2.kept X5.out)).mono ?_);rintro e6 w6 ⟨rfl,h6⟩;have X6:Hid (Below w.heap.size w w6):=aD X5.out h6 lz9;clear h6)
     |(go_at_call 167;have hih:=kZ (o:=o) (H.out.1.kept X6.out) (H.out.2.kept X6.out) hb hp1 hs;rw [hr] at hih;(with_reducible refine hih.mono ?_);rintro e w8 ⟨h1,g,h2,rfl,h4⟩)
    exact⟨rfl,.err ((Fr.of_below X6.out).trans h1) (Nat.le_trans X6.out.size h2) h4⟩
   | ok x=>
    obtain⟨c,r⟩:=x
    have hlo:=aH0 hr
    simp only
    go_enter Tryz.func146,Tryz.ntmps146
    go_wp2_with first
     |(go_at_call 105;(with_reducible refine(SA.out _ (H.out.2)).mono ?_);rintro e5 w5 ⟨rfl,h6⟩;have X5:Hid (Below w.heap.size w w5):=h6;clear h6)
     |(go_at_call 105;(with_reducible refine(SB.out _ (H.out.2.kept X5.out)).mono ?_);rintro e6 w6 ⟨rfl,h6⟩;have X6:Hid (Below w.heap.size w w6):=aD X5.out h6 lz9;clear h6)
     |(go_at_call 167;have hih:=kZ (o:=o) (H.out.1.kept X6.out) (H.out.2.kept X6.out) hb hp1 hs;rw [hr] at hih;(with_reducible refine hih.mono ?_);clear hih;rintro e w8 ⟨h1,v8,rfl,h2,rfl⟩;have X8:Hid (Fr (At b) w w8/\RD w8 b s m r tv):=⟨(Fr.of_below X6.out).trans h1,h2⟩;clear h1 h2)
     |(go_at_call 113;refine(eT c _).mono ?_;rintro e9 w9 ⟨v9,rfl,h6,h7⟩;have X9:Hid (RR w8.heap.size w9 v9 [(c,c)]/\Below w8.heap.size w8 w9):=⟨h6,h7⟩;clear h6 h7)
    go_ret
    exact .is (X8.out.1.then X9.out.2) (X8.out.2.kept X9.out.2) ⟨X9.out.1.mono X8.out.1.size,cS hlo hlo,by simp⟩
  ·have h2f:aJ s p [91,61]=false:=by simpa using h2
   have SB:Hid (∀ W,RD W b s m p tv->Calls Tryz.prog 105 #[.pointer (some ⟨b,0,none⟩),.string ⟨#[91,61]⟩] W fun e w'=>e=.returned (.bool false)/\Below W.heap.size W w'):=fun W hW=>by have:=aT hW hp ⟨#[91,61]⟩;rw [show aJ s p (ByteArray.data ⟨#[91,61]⟩).toList=false from h2f] at this;exact this
   rw [if_neg h2]
   cases hr:spn m s o p with
   | error x=>
    go_enter Tryz.func146,Tryz.ntmps146
    go_wp2_with first
     |(go_at_call 105;(with_reducible refine(SA.out _ (H.out.2)).mono ?_);rintro e5 w5 ⟨rfl,h6⟩;have X5:Hid (Below w.heap.size w w5):=h6;clear h6)
     |(go_at_call 105;(with_reducible refine(SB.out _ (H.out.2.kept X5.out)).mono ?_);rintro e6 w6 ⟨rfl,h6⟩;have X6:Hid (Below w.heap.size w w6):=aD X5.out h6 lz9;clear h6)
     |(go_at_call 168;have hih:=aP1 (o:=o) (H.out.1.kept X6.out) (H.out.2.kept X6.out) hb hp hs ho;rw [hr] at hih;(with_reducible refine hih.mono ?_);rintro e w8 ⟨h1,g,h2,rfl,h4⟩)
    exact⟨rfl,.err ((Fr.of_below X6.out).trans h1) (Nat.le_trans X6.out.size h2) h4⟩
   | ok x=>
    obtain⟨L,r⟩:=x
    go_enter Tryz.func146,Tryz.ntmps146
    go_wp2_with first
     |(go_at_call 105;(with_reducible refine(SA.out _ (H.out.2)).mono ?_);rintro e5 w5 ⟨rfl,h6⟩;have X5:Hid (Below w.heap.size w w5):=h6;clear h6)
     |(go_at_call 105;(with_reducible refine(SB.out _ (H.out.2.kept X5.out)).mono ?_);rintro e6 w6 ⟨rfl,h6⟩;have X6:Hid (Below w.heap.size w w6):=aD X5.out h6 lz9;clear h6)
     |(go_at_call 168;have hih:=aP1 (o:=o) (H.out.1.kept X6.out) (H.out.2.kept X6.out) hb hp hs ho;rw [hr] at hih;(with_reducible refine hih.mono ?_);clear hih;rintro e w8 ⟨h1,v8,rfl,h2,h3⟩;obtain⟨q8,k8,rfl⟩:=h3.1.shape;have X8:Hid (Fr (At b) w w8/\RD w8 b s m r tv/\isL w.heap.size w8 (.slice q8 L.length k8) L):=⟨(Fr.of_below X6.out).trans h1,h2,mX h3 X6.out.size⟩;clear h1 h2 h3)
    go_ret
    exact .is X8.out.1 X8.out.2.1 X8.out.2.2
theorem aT6{w:World}{b:Nat}{s:ByteArray}{m:Md}{p o:Nat}{tv:Value}(hG:Glb w)(h:RD w b s m p tv)(hb:3 < b)(hp:p<=s.size)(hs:s.size<=2000)(ho:o<=s.size) :
  Calls Tryz.prog 147 #[.pointer (some ⟨b,0,none⟩),.int .i64 (o:Int)] w (Outs w b s m tv (isL w.heap.size) (itm m s o p)):=by
 have H:Hid (Glb w/\RD w b s m p tv):=⟨hG,h⟩
 have w1:IntKind.wrap .i64 ((p:Int)+1)=(p:Int)+1:=wrap_small _ (by omega) (by omega)
 clear h hG
 unfold itm
 by_cases h1:aJ s p [45]=true
 ·have SA:Hid (∀ W,RD W b s m p tv->Calls Tryz.prog 105 #[.pointer (some ⟨b,0,none⟩),.string ⟨#[45]⟩] W fun e w'=>e=.returned (.bool true)/\Below W.heap.size W w'):=fun W hW=>by have:=aT hW hp ⟨#[45]⟩;rw [show aJ s p (ByteArray.data ⟨#[45]⟩).toList=true from h1] at this;exact this
  by_cases h2:aJ s p [45,93]=true
  ·have SB:Hid (∀ W,RD W b s m p tv->Calls Tryz.prog 105 #[.pointer (some ⟨b,0,none⟩),.string ⟨#[45,93]⟩] W fun e w'=>e=.returned (.bool true)/\Below W.heap.size W w'):=fun W hW=>by have:=aT hW hp ⟨#[45,93]⟩;rw [show aJ s p (ByteArray.data ⟨#[45,93]⟩).toList=true from h2] at this;exact this
   rw [if_pos (by simp [h2])]
   cases hr:sgl m s o p with
   | error x=>
    go_enter Tryz.func147,Tryz.ntmps147
    go_wp2_with first
     |(go_at_call 105;(with_reducible refine(SA.out _ (H.out.2)).mono ?_);rintro e5 w5 ⟨rfl,h6⟩;have X5:Hid (Below w.heap.size w w5):=h6;clear h6)
     |(go_at_call 105;(with_reducible refine(SB.out _ (H.out.2.kept X5.out)).mono ?_);rintro e6 w6 ⟨rfl,h6⟩;have X6:Hid (Below w.heap.size w w6):=aD X5.out h6 lz9;clear h6)
     |(go_at_call 146;have hih:=iM (o:=o) (H.out.1.kept X6.out) (H.out.2.kept X6.out) hb hp hs ho;rw [hr] at hih;(with_reducible refine hih.mono ?_);rintro e w8 ⟨h1,g,h2,rfl,h4⟩)
    exact⟨rfl,.err ((Fr.of_below X6.out).trans h1) (Nat.le_trans X6.out.size h2) h4⟩
   | ok x=>
    obtain⟨L,r⟩:=x
    go_enter Tryz.func147,Tryz.ntmps147
    go_wp2_with first
     |(go_at_call 105;(with_reducible refine(SA.out _ (H.out.2)).mono ?_);rintro e5 w5 ⟨rfl,h6⟩;have X5:Hid (Below w.heap.size w w5):=h6;clear h6)
     |(go_at_call 105;(with_reducible refine(SB.out _ (H.out.2.kept X5.out)).mono ?_);rintro e6 w6 ⟨rfl,h6⟩;have X6:Hid (Below w.heap.size w w6):=aD X5.out h6 lz9;clear h6)
     |(go_at_call 146;have hih:=iM (o:=o) (H.out.1.kept X6.out) (H.out.2.kept X6.out) hb hp hs ho;rw [hr] at hih;(with_reducible refine hih.mono ?_);clear hih;rintro e w8 ⟨h1,v8,rfl,h2,h3⟩;obtain⟨q8,k8,rfl⟩:=h3.1.shape;have X8:Hid (Fr (At b) w w8/\RD w8 b s m r tv/\isL w.heap.size w8 (.slice q8 L.length k8) L):=⟨(Fr.of_below X6.out).trans h1,h2,mX h3 X6.out.size⟩;clear h1 h2 h3)
    go_ret
    exact .is X8.out.1 X8.out.2.1 X8.out.2.2
  ·have h2f:aJ s p [45,93]=false:=by simpa using h2
   have SB:Hid (∀ W,RD W b s m p tv->Calls Tryz.prog 105 #[.pointer (some ⟨b,0,none⟩),.string ⟨#[45,93]⟩] W fun e w'=>e=.returned (.bool false)/\Below W.heap.size W w'):=fun W hW=>by have:=aT hW hp ⟨#[45,93]⟩;rw [show aJ s p (ByteArray.data ⟨#[45,93]⟩).toList=false from h2f] at this;exact this
   rw [if_neg (by simp [h1,h2f])]
   by_cases h3:p+1=s.size
   ·rw [if_pos h3]
    have d3:((p:Int)+1==(s.size:Int))=true:=by simp;omega
    clear h3 h1 h2 h2f
    go_enter Tryz.func147,Tryz.ntmps147
    go_wp2_with first
     |(go_at_call 105;(with_reducible refine(SA.out _ (H.out.2)).mono ?_);rintro e5 w5 ⟨rfl,h6⟩;have X5:Hid (Below w.heap.size w w5):=h6;clear h6)
     |(go_at_call 105;(with_reducible refine(SB.out _ (H.out.2.kept X5.out)).mono ?_);rintro e6 w6 ⟨rfl,h6⟩;have X6:Hid (Below w.heap.size w w6):=aD X5.out h6 lz9;clear h6)
    have c0:=(H.out.2.kept X6.out).c0
    have c3:=(H.out.2.kept X6.out).c3
    have l6:=(H.out.2.kept X6.out).lt
    refine wx9 ?_
    repeat (go_big_quiet_step (first | exact rfl))
    refine wpQuiet_nil ?_
    intro w7 hw7
    have X7:Hid (Below w.heap.size w w7):=aD X6.out (aO hw7) lz9
    clear hw7
    go_wp2_with (go_at_call 65;refine(bX 33 o _).mono ?_;rintro e w8 ⟨rfl,h6,h7⟩;have X8:Hid (bI w8 w7.heap.size 33 o/\Below w7.heap.size w7 w8):=⟨h6,h7⟩;clear h6 h7)
    exact⟨rfl,.err (Fr.of_below (aD X7.out X8.out.2 lz9)) X7.out.size X8.out.1⟩
   ·rw [if_neg h3]
    have d3:((p:Int)+1==(s.size:Int))=false:=by simp;omega
    clear h3 h1 h2 h2f
    go_enter Tryz.func147,Tryz.ntmps147
    go_wp2_with first
     |(go_at_call 105;(with_reducible refine(SA.out _ (H.out.2)).mono ?_);rintro e5 w5 ⟨rfl,h6⟩;have X5:Hid (Below w.heap.size w w5):=h6;clear h6)
     |(go_at_call 105;(with_reducible refine(SB.out _ (H.out.2.kept X5.out)).mono ?_);rintro e6 w6 ⟨rfl,h6⟩;have X6:Hid (Below w.heap.size w w6):=aD X5.out h6 lz9;clear h6)
    have c0:=(H.out.2.kept X6.out).c0
    have c3:=(H.out.2.kept X6.out).c3
    have l6:=(H.out.2.kept X6.out).lt
    refine wx9 ?_
    repeat (go_big_quiet_step (first | exact rfl))
    refine wpQuiet_nil ?_
    intro w7 hw7
    have X7:Hid (Below w.heap.size w w7):=aD X6.out (aO hw7) lz9
    have k3:=(H.out.2.kept X7.out).c3
    clear hw7
    go_wp2_with (go_at_call 65;refine(bX 34 p _).mono ?_;rintro e w8 ⟨rfl,h6,h7⟩;have X8:Hid (bI w8 w7.heap.size 34 p/\Below w7.heap.size w7 w8):=⟨h6,h7⟩;clear h6 h7)
    exact⟨rfl,.err (Fr.of_below (aD X7.out X8.out.2 lz9)) X7.out.size X8.out.1⟩
 ·have h1f:aJ s p [45]=false:=by simpa using h1
  have SA:Hid (∀ W,RD W b s m p tv->Calls Tryz.prog 105 #[.pointer (some ⟨b,0,none⟩),.string ⟨#[45]⟩] W fun e w'=>e=.returned (.bool false)/\Below W.heap.size W w'):=fun W hW=>by have:=aT hW hp ⟨#[45]⟩;rw [show aJ s p (ByteArray.data ⟨#[45]⟩).toList=false from h1f] at this;exact this
  rw [if_pos (by simp [h1f])]
  cases hr:sgl m s o p with
  | error x=>
   go_enter Tryz.func147,Tryz.ntmps147
   go_wp2_with first
    |(go_at_call 105;(with_reducible refine(SA.out _ (H.out.2)).mono ?_);rintro e5 w5 ⟨rfl,h6⟩;have X5:Hid (Below w.heap.size w w5):=h6;clear h6)
    |(go_at_call 146;have hih:=iM (o:=o) (H.out.1.kept X5.out) (H.out.2.kept X5.out) hb hp hs ho;rw [hr] at hih;(with_reducible refine hih.mono ?_);rintro e w8 ⟨h1,g,h2,rfl,h4⟩)
   exact⟨rfl,.err ((Fr.of_below X5.out).trans h1) (Nat.le_trans X5.out.size h2) h4⟩
  | ok x=>
   obtain⟨L,r⟩:=x
   go_enter Tryz.func147,Tryz.ntmps147
   go_wp2_with first
    |(go_at_call 105;(with_reducible refine(SA.out _ (H.out.2)).mono ?_);rintro e5 w5 ⟨rfl,h6⟩;have X5:Hid (Below w.heap.size w w5):=h6;clear h6)
    |(go_at_call 146;have hih:=iM (o:=o) (H.out.1.kept X5.out) (H.out.2.kept X5.out) hb hp hs ho;rw [hr] at hih;(with_reducible refine hih.mono ?_);clear hih;rintro e w8 ⟨h1,v8,rfl,h2,h3⟩;obtain⟨q8,k8,rfl⟩:=h3.1.shape;have X8:Hid (Fr (At b) w w8/\RD w8 b s m r tv/\isL w.heap.size w8 (.slice q8 L.length k8) L):=⟨(Fr.of_below X5.out).trans h1,h2,mX h3 X5.out.size⟩;clear h1 h2 h3)
   go_ret
   exact .is X8.out.1 X8.out.2.1 X8.out.2.2
end
section
attribute [local go_sem] aV
def oI(w:World)(b:Nat):Nat:=match w.cell? ⟨b,3,none⟩ with | some (.int _ x)=>x.toNat | _=>0
theorem RD.pos{w:World}{b:Nat}{s:ByteArray}{m:Md}{p:Nat}{tv:Value}(h:RD w b s m p tv):oI w b=p:=by simp [oI,h.c3]
theorem Fr.comp{S T:Nat->Prop}{a w w':World}(h:Fr S a w)(k:Fr T w w')(hST:∀ j,T j->S j\/a.heap.size<=j):Fr S a w':=
 ⟨k.os.trans h.os,k.tape.trans h.tape,k.output.trans h.output,Nat.le_trans h.size k.size,fun i hi hs=>(k.block i (Nat.lt_of_lt_of_le hi h.size) (fun q=>(hST i q).elim hs (fun g=>by omega))).trans (h.block i hi hs)⟩
theorem RD.fr{w w':World}{b:Nat}{s:ByteArray}{m:Md}{p:Nat}{tv:Value}{S:Nat->Prop}(h:RD w b s m p tv)(hf:Fr S w w')(hs:¬ S b):RD w' b s m p tv:=(hf.block b h.lt hs).trans h
theorem RR.at{base:Nat}{w w':World}{v:Value}{L:List (Int × Int)}{b:Nat}{s:ByteArray}{m:Md}{p:Nat}{tv:Value}(h:RR base w v L)(hr:RD w b s m p tv)(hf:Fr (At b) w w'):RR base w' v L:=
 h.fr hf fun k hk e=>aK h hr (by decide) (by rw [hk,show k=b from e])
def bP6(m:Md)(t:Bool)(r:Rs (List (Int × Int) × Nat)):Rs (Tk × Nat):=match r with
 | .error e=>.error e
 | .ok (l2,r2)=>.ok (bJ m l2 t,r2)
theorem dJ(m:Md)(L:List (Int × Int))(t:Bool)(rv:Value):tkV (bJ m L t) 0 0 rv=.agg #[.int .i64 1,.int .i64 0,.int .i64 0,.int .i64 0,.int .i64 0,.int .i64 0,rv]:=rfl
theorem qY{w:World}{b:Nat}{s:ByteArray}{m:Md}{p:Nat}{tv:Value}(hG:Glb w)(h:RD w b s m p tv)(hb:3 < b)(hp:p < s.size)(hs:s.size<=2000) :
  Calls Tryz.prog 112 #[.pointer (some ⟨b,0,none⟩)] w (Outs w b s m tv (cR w.heap.size) (brk m s p)):=by
 have lb:=h.lt
 have W1:Below w.heap.size w (w.alloc cE):=bz9
 have c3:=(h.kept W1).c3
 have f3:=(h.kept W1).frz 3
 have w1:IntKind.wrap .i64 ((p:Int)+1)=(p:Int)+1:=wrap_small _ (by omega) (by omega)
 have hz:(w.setCell ⟨b,3,none⟩ (.int .i64 ((p:Int)+1))).heap.size=w.heap.size:=by simp
 have R1:Hid (RD ((w.setCell ⟨b,3,none⟩ (.int .i64 ((p:Int)+1))).alloc cE) b s m (p+1) tv):=RD.kept (h.to (p+1) (by omega)) (bz9)
 have F1:Hid (Fr (At b) w ((w.setCell ⟨b,3,none⟩ (.int .i64 ((p:Int)+1))).alloc cE)):=Fr.alloc (Fr.setCell (S:=At b) (Fr.refl _ _) (p:=⟨b,3,none⟩) rfl _) _
 have Z1:Hid (TZ ((w.setCell ⟨b,3,none⟩ (.int .i64 ((p:Int)+1))).alloc cE) w.heap.size):=by
  have:=TZ.new (w.setCell ⟨b,3,none⟩ (.int .i64 ((p:Int)+1)))
  rw [hz] at this
  exact this
 clear hz
 have H:Hid (Glb w):=hG
 clear h hG W1
 unfold brk
 obtain⟨t,q0,KT,hq0,et,eq⟩:∃ (t:Bool) (q0:Nat),Hid (∀ W,RD W b s m (p+1) tv->Calls Tryz.prog 145 #[.pointer (some ⟨b,0,none⟩),.string ⟨#[94]⟩] W fun e w'=>e=.returned (.bool t)/\RD w' b s m q0 tv/\Fr (At b) W w')/\q0<=s.size/\aJ s (p+1) [94]=t/\(if aJ s (p+1) [94] then p+2 else p+1)=q0:=by
  cases hx:aJ s (p+1) [94] with
  | true=>
   have:=fB hx (by simp)
   simp at this
   exact⟨true,p+2,fun W hW=>gK hW (by omega) hs ⟨#[94]⟩ (by simp [ByteArray.size]) hx,by omega,rfl,rfl⟩
  | false=>exact⟨false,p+1,fun W hW=>(iL hW (by omega) ⟨#[94]⟩ hx).mono fun e w' ⟨h1,h2⟩=>⟨h1,hW.kept h2,Fr.of_below h2⟩,by omega,rfl,rfl⟩
 rw [eq,et]
 clear eq et
 have hrng:=tN m s p q0 (by omega) hq0
 cases hr:sgl m s p q0 with
 | error x=>
  go_enter Tryz.func112,Tryz.ntmps112
  go_wp2_with first
   |(go_at_call 145;(with_reducible refine(KT.out _ R1.out).mono ?_);rintro e w5 ⟨rfl,h1,h2⟩;have X5:Hid (RD w5 b s m q0 tv/\Fr (At b) w w5):=⟨h1,F1.out.trans h2⟩;clear h1 h2)
   |(go_at_call 146;have hih:=iM (o:=p) (fE H.out X5.out.2 hb) X5.out.1 hb hq0 hs (by omega);rw [hr] at hih;(with_reducible refine hih.mono ?_);rintro e w8 ⟨h1,g,h2,rfl,h4⟩)
  exact⟨rfl,.err (X5.out.2.trans h1) (Nat.le_trans X5.out.2.size h2) h4⟩
 | ok x=>
  obtain⟨l,r⟩:=x
  rw [hr] at hrng
  have hr1:r<=s.size:=hrng.2
  have hr2:q0 < r:=hrng.1
  clear hrng
  simp only
  obtain⟨RES,hRES⟩:∃ RES,its m s p (s.size+1) r l=RES:=⟨_,rfl⟩
  rw [hRES]
  change Calls Tryz.prog 112 #[.pointer (some ⟨b,0,none⟩)] w (Outs w b s m tv (cR w.heap.size) (bP6 m t RES))
  go_enter Tryz.func112,Tryz.ntmps112
  go_wp2_with first
   |(go_at_call 145;(with_reducible refine(KT.out _ R1.out).mono ?_);rintro e w5 ⟨rfl,h1,h2⟩;have X5:Hid (RD w5 b s m q0 tv/\Fr (At b) w w5/\TZ w5 w.heap.size):=⟨h1,F1.out.trans h2,Z1.out.fr h2 (by intro q;have:w.heap.size=b:=q;omega)⟩;clear h1 h2)
   |(go_at_call 146;have hih:=iM (o:=p) (fE H.out X5.out.2.1 hb) X5.out.1 hb hq0 hs (by omega);rw [hr] at hih;(with_reducible refine hih.mono ?_);clear hih;rintro e w6 ⟨h1,v6,rfl,h2,h3⟩;have X6:Hid (RD w6 b s m r tv/\Fr (At b) w w6/\TZ w6 w.heap.size/\RR w.heap.size w6 v6 l/\Fit l/\l.length<=4):=⟨h2,X5.out.2.1.trans h1,X5.out.2.2.fr h1 (by intro q;have:w.heap.size=b:=q;omega),h3.1.mono X5.out.2.1.size,h3.2.1,h3.2.2.2⟩;clear h1 h2 h3)
  go_loopw [5] (fun v wr=>∃ (L:List (Int × Int)) (pos f:Nat),RR w.heap.size wr v L/\Fit L/\L.length<=4 * pos/\RD wr b s m pos tv/\Fr (At b) w wr/\TZ wr w.heap.size/\pos<=s.size/\s.size < f+pos/\its m s p f pos L=RES) (fun _ wr=>s.size+1 - oI wr b)
  case atStart=>exact⟨l,r,s.size+1,X6.out.2.2.2.1,X6.out.2.2.2.2.1,by have:=X6.out.2.2.2.2.2;omega,X6.out.1,X6.out.2.1,X6.out.2.2.1,hr1,by omega,hRES⟩
  case round=>
   obtain⟨L,pos,f,g1,g2,g3,g4,g5,g6,g7,g8,g9⟩:=hrel
   obtain⟨ql,kl,rfl⟩:=g1.shape
   have PO:Hid (oI wr b=pos):=g4.pos
   have G:Hid (RR w.heap.size wr (.slice ql L.length kl) L/\Fit L/\L.length<=4 * pos/\RD wr b s m pos tv/\Fr (At b) w wr/\TZ wr w.heap.size):=⟨g1,g2,g3,g4,g5,g6⟩
   clear g1 g2 g4 g5 g6
   obtain⟨f,rfl⟩:∃ f',f=f'+1:=⟨f - 1,by omega⟩
   rw [its] at g9
   by_cases h1:aJ s pos [93]=true
   ·rw [if_pos h1] at g9
    have KA:Hid (∀ W,RD W b s m pos tv->Calls Tryz.prog 145 #[.pointer (some ⟨b,0,none⟩),.string ⟨#[93]⟩] W fun e w'=>e=.returned (.bool true)/\RD w' b s m (pos+1) tv/\Fr (At b) W w'):=fun W hW=>gK hW g7 hs ⟨#[93]⟩ (by simp [ByteArray.size]) h1
    have E:Hid (RES=.ok (L,pos+1)):=g9.symm
    clear g9
    go_wp2_with first
     |(go_at_call 145;(with_reducible refine(KA.out _ G.out.2.2.2.1).mono ?_);rintro e w7 ⟨rfl,h1,h2⟩;have X7:Hid (RD w7 b s m (pos+1) tv/\Fr (At b) w w7/\TZ w7 w.heap.size/\RR w.heap.size w7 (.slice ql L.length kl) L):=⟨h1,G.out.2.2.2.2.1.trans h2,G.out.2.2.2.2.2.fr h2 (by intro q;have:w.heap.size=b:=q;omega),G.out.1.at G.out.2.2.2.1 h2⟩;clear h1 h2)
     |(go_at_call 111;refine(iA X7.out.1 X7.out.2.2.2.arg G.out.2.1 (by omega) t).mono ?_;rintro e w8 ⟨v8,he,⟨rv,C,hv,h2,h3⟩,h4⟩;obtain⟨q8,k8,hsh⟩:=h2.shape;rw [dJ] at hv;subst hsh;subst hv;subst he;have X8:Hid (RR w7.heap.size w8 (.slice q8 C.length k8) C/\IsC C (eN m L t)/\Below w7.heap.size w7 w8/\TZ w8 w.heap.size):=⟨h2,h3,h4,X7.out.2.2.1.kept h4 (aA X7.out.2.2.1)⟩;obtain⟨z0,z1,z2,z3,z4,z5,z6,y0,y1,y2,y3,y4,y5,y6⟩:=X8.out.2.2.2.all;clear h2 h3 h4)
    refine bodyPost_ret (v:=tkV (bJ m L t) 0 0 (.slice q8 C.length k8)) (by obtain⟨e0,e1,e2,e3,e4,e5,e6⟩:=aR X8.out.2.2.2 (.int .i64 1) (.int .i64 0) (.int .i64 0) (.int .i64 0) (.int .i64 0) (.int .i64 0) (.slice q8 C.length k8);simp [results,Tryz.results112,go_sem,tkV,bJ,e0,e1,e2,e3,e4,e5,e6]) rfl ?_
    rw [E.out]
    show Outs w b s m tv (cR w.heap.size) (.ok (bJ m L t,pos+1)) _ _
    refine .is (fr7 (X7.out.2.1.then X8.out.2.2.1) (.inr lz9) _ _ _ _ _ _ _) (RD.fr (S:=fun k=>k=w.heap.size) (X7.out.1.kept X8.out.2.2.1) (fr7 (S:=fun k=>k=w.heap.size) (Fr.refl _ _) (.inl rfl) _ _ _ _ _ _ _) (by omega)) ⟨_,C,rfl,RR.mono (rr7 X8.out.1 (aA X7.out.2.2.1) _ _ _ _ _ _ _) X7.out.2.1.size,X8.out.2.1⟩
   ·have h1f:aJ s pos [93]=false:=by simpa using h1
    have KA:Hid (∀ W,RD W b s m pos tv->Calls Tryz.prog 145 #[.pointer (some ⟨b,0,none⟩),.string ⟨#[93]⟩] W fun e w'=>e=.returned (.bool false)/\Below W.heap.size W w'):=fun W hW=>iL hW g7 ⟨#[93]⟩ h1f
    rw [if_neg h1] at g9
    clear h1 h1f
    have hrng:=aF9 m s p pos (by omega) g7
    cases hi:itm m s p pos with
    | error x=>
     rw [hi] at g9
     have E:Hid (RES=.error x):=g9.symm
     clear g9
     go_wp2_with first
      |(go_at_call 145;(with_reducible refine(KA.out _ G.out.2.2.2.1).mono ?_);rintro e w7 ⟨rfl,h2⟩;have X7:Hid (RD w7 b s m pos tv/\Fr (At b) w w7):=⟨G.out.2.2.2.1.kept h2,G.out.2.2.2.2.1.then h2⟩;clear h2)
      |(go_at_call 147;have hih:=aT6 (o:=p) (fE H.out X7.out.2 hb) X7.out.1 hb g7 hs (by omega);rw [hi] at hih;(with_reducible refine hih.mono ?_);rintro e w8 ⟨h1,g,h2,rfl,h4⟩)
     refine⟨rfl,?_⟩
     rw [E.out]
     obtain⟨xc,xa⟩:=x
     show Outs w b s m tv (cR w.heap.size) (.error (xc,xa)) _ _
     exact .err (X7.out.2.trans h1) (Nat.le_trans X7.out.2.size h2) h4
    | ok x=>
     obtain⟨l',q'⟩:=x
     rw [hi] at g9 hrng
     simp only at g9
     have hq1:q'<=s.size:=hrng.2
     have hq2:pos < q':=hrng.1
     have E:Hid (its m s p f q' (L ++ l')=RES):=g9
     clear g9 hrng
     obtain⟨t0,ti,hz0,hz1,hz2⟩:=aP bF
     go_wp2_with first
      |(go_at_call 145;(with_reducible refine(KA.out _ G.out.2.2.2.1).mono ?_);rintro e w7 ⟨rfl,h2⟩;have X7:Hid (RD w7 b s m pos tv/\Fr (At b) w w7/\TZ w7 w.heap.size/\RR w.heap.size w7 (.slice ql L.length kl) L):=⟨G.out.2.2.2.1.kept h2,G.out.2.2.2.2.1.then h2,G.out.2.2.2.2.2.kept h2 (aA G.out.2.2.2.2.2),G.out.1.kept h2⟩;clear h2)
      |(go_at_call 147;have hih:=aT6 (o:=p) (fE H.out X7.out.2.1 hb) X7.out.1 hb g7 hs (by omega);rw [hi] at hih;(with_reducible refine hih.mono ?_);clear hih;rintro e w8 ⟨h1,v8,rfl,h2,h3⟩;obtain⟨g8,k8,rfl⟩:=aH h3.1 h3.2.2.1;have X8:Hid (RD w8 b s m q' tv/\Fr (At b) w w8/\TZ w8 w.heap.size/\RR w.heap.size w8 (.slice ql L.length kl) L/\ArgR w8 (.slice (some ⟨g8,0,none⟩) l'.length k8) l'/\Fit l'/\l'.length<=4):=⟨h2,X7.out.2.1.trans h1,X7.out.2.2.1.fr h1 (by intro q;have:w.heap.size=b:=q;omega),X7.out.2.2.2.at X7.out.1 h1,h3.1.arg,h3.2.1,h3.2.2.2⟩;have hl4:=h3.2.2.2;have hs8:=X8.out.2.1.size;clear h1 h2 h3)
      |(at_builtin;refine wpList_append_own_at _ rfl _ _ 22 rfl w.heap.size 48 t0 (.agg #[.int .i64 0,.int .i64 0]) 2 16 aS ti hz0 hz1 hz2 rfl (by decide) (.slice ql L.length kl) L.length (aM L) rfl X8.out.2.2.2.1 ⟨g8,0,none⟩ l'.length k8 (aM l') rfl (dF l') X8.out.2.2.2.2.1.news (gW l') (by unfold maxLen;omega) (by omega) hs8 ?_;intro v' w9 hown' hgrow _ hblk;have X9:Hid (RR w.heap.size w9 v' (L ++ l')/\Fr (fun k=>(Value.slice ql L.length kl).ownBlock=some k) w8 w9):=⟨aE2 hown',Fr.grown (Fr.refl _ _) hgrow (fun k hk=>hk)⟩;clear hown' hgrow hblk)
     have nb:¬ (Value.slice ql L.length kl).ownBlock=some b:=aK X8.out.2.2.2.1 X8.out.1 (by decide)
     have nz:¬ (Value.slice ql L.length kl).ownBlock=some w.heap.size:=aK X8.out.2.2.2.1 X8.out.2.2.1 (by decide)
     have R9:=X8.out.1.fr X9.out.2 nb
     go_roundw
     case rel=>exact⟨L ++ l',q',f,X9.out.1,eV G.out.2.1 X8.out.2.2.2.2.2.1,by rw [List.length_append];omega,R9,X8.out.2.1.comp X9.out.2 (fun j hj=>.inr (aG X8.out.2.2.2.1 hj).1),X8.out.2.2.1.fr X9.out.2 nz,hq1,by omega,E.out⟩
     case measure=>rw [R9.pos,PO.out];omega
end
section
attribute [local go_sem] aV
theorem lF{p:UInt8->Bool}:∀ (l:List UInt8) (k:Nat) (x:UInt8),(l.takeWhile p)[k]?=some x->l[k]?=some x/\p x=true
 | [],k,x,h=>by simp at h
 | a :: l,k,x,h=>by
  rw [List.takeWhile_cons] at h
  split at h
  ·rename_i ha
   cases k with
   | zero=>simp at h;subst h;exact⟨rfl,ha⟩
   | succ k=>simp at h ⊢;exact lF l k x h
  ·simp at h
theorem lG{p:UInt8->Bool}:∀ (l:List UInt8) (x:UInt8),l[(l.takeWhile p).length]?=some x->p x=false
 | [],x,h=>by simp at h
 | a :: l,x,h=>by
  rw [List.takeWhile_cons] at h
  split at h
  ·simp at h;exact lG l x h
  ·rename_i ha;simp at h;subst h;simpa using ha
theorem aV9{s:ByteArray}{p k:Nat}{x:UInt8}(h:(cH s p)[k]?=some x):s.data.toList[p+k]?=some x/\48<=x.toNat/\x.toNat<=57:=by
 obtain⟨h1,h2⟩:=lF _ _ _ h
 rw [List.getElem?_drop] at h1
 refine⟨h1,?_⟩
 unfold dig at h2
 simp only [Bool.and_eq_true,decide_eq_true_eq] at h2
 exact⟨UInt8.le_iff_toNat_le.1 h2.1,UInt8.le_iff_toNat_le.1 h2.2⟩
theorem aW0{s:ByteArray}{p:Nat}{x:UInt8}(h:s.data.toList[p+(cH s p).length]?=some x):x.toNat < 48\/57 < x.toNat:=by
 rw [<- List.getElem?_drop] at h
 have:=lG _ _ h
 unfold dig at this
 simp only [Bool.and_eq_false_iff,decide_eq_false_iff_not] at this
 rw [UInt8.le_iff_toNat_le,UInt8.le_iff_toNat_le] at this
 have e1:(48:UInt8).toNat=48:=rfl
 have e2:(57:UInt8).toNat=57:=rfl
 omega
theorem sJ(l:List UInt8)(x:UInt8):fJ (l ++ [x])=min (10 * fJ l+(x.toNat - 48)) 256:=by
 unfold fJ
 rw [List.foldl_append]
 rfl
theorem tY(l:List UInt8):fJ l<=256:=by
 rcases List.eq_nil_or_concat l with rfl | ⟨l',x,rfl⟩
 ·simp [fJ]
 ·rw [List.concat_eq_append,sJ];omega
theorem wH{w:World}{b:Nat}{s:ByteArray}{m:Md}{p:Nat}{tv:Value}(h:RD w b s m p tv)(hp:p<=s.size)(hs:s.size<=2000) :
  Calls Tryz.prog 183 #[.pointer (some ⟨b,0,none⟩)] w fun e w'=>e=.returned (.tuple #[.int .i64 (fJ (cH s p):Int),.bool (decide (0 < (cH s p).length))])/\RD w' b s m (p+(cH s p).length) tv/\Fr (At b) w w':=by
 have c3:=h.c3
 have lb:=h.lt
 have hlen:=uK s p hp
 have H:Hid (RD w b s m p tv):=h
 clear h
 go_enter Tryz.func183,Tryz.ntmps183
 go_wp2
 go_loopw [5] (fun v wr=>∃ k:Nat,k<=(cH s p).length/\v=.int .i64 (fJ ((cH s p).take k):Int)/\RD wr b s m (p+k) tv/\Fr (At b) w wr) (fun _ wr=>s.size+1 - oI wr b)
 case atStart=>exact⟨0,Nat.zero_le _,rfl,H.out,Fr.refl _ _⟩
 case round=>
  obtain⟨k,hk,rfl,g1,g2⟩:=hrel
  obtain⟨pos,hpos⟩:∃ pos,pos=p+k:=⟨_,rfl⟩
  rw [<- hpos] at g1
  have PO:Hid (oI wr b=pos):=g1.pos
  have G:Hid (RD wr b s m pos tv/\Fr (At b) w wr):=⟨g1,g2⟩
  have q0:=g1.c0
  have q3:=g1.c3
  have ql:=g1.lt
  clear g1 g2
  obtain⟨n,hn⟩:∃ n,n=fJ ((cH s p).take k):=⟨_,rfl⟩
  have hn2:n<=256:=by rw [hn];exact tY _
  rw [<- hn]
  rcases Nat.lt_or_ge k (cH s p).length with hlt | hge
  ·obtain⟨x,hx⟩:∃ x,(cH s p)[k]?=some x:=⟨_,List.getElem?_eq_getElem hlt⟩
   obtain⟨hx1,hx2,hx3⟩:=aV9 hx
   have htk:fJ ((cH s p).take (k+1))=min (10 * n+(x.toNat - 48)) 256:=by
    rw [List.take_add_one,hx,hn]
    exact sJ _ _
   rw [<- hpos] at hx1
   obtain⟨hpl,hbx⟩:=fL.1 hx1
   have hxv:s[pos]'hpl=x:=by
    have:=mF s pos hpl
    exact UInt8.toNat_inj.1 (by omega)
   obtain⟨d,hd⟩:∃ d,d=x.toNat - 48:=⟨_,rfl⟩
   obtain⟨n',hn'⟩:∃ n',n'=min (10 * n+d) 256:=⟨_,rfl⟩
   have j1:(48:Int)<=(x.toNat:Int):=by omega
   have j2:(x.toNat:Int)<=57:=by omega
   have hw1:IntKind.wrap .u8 ((x.toNat:Int) - 48)=(d:Int):=by rw [IntKind.wrap_u8];omega
   have hw2:IntKind.wrap .i64 (10 * (n:Int))=10 * (n:Int):=wrap_small _ (by omega) (by omega)
   have hw3:IntKind.wrap .i64 (10 * (n:Int)+(d:Int))=10 * (n:Int)+(d:Int):=wrap_small _ (by omega) (by omega)
   have hw4:IntKind.wrap .i64 ((pos:Int)+1)=(pos:Int)+1:=wrap_small _ (by omega) (by omega)
   have hw5:IntKind.wrap .i64 (d:Int)=(d:Int):=wrap_small _ (by omega) (by omega)
   have hmin:∀ (t:Array TypeId) (ty:TypeId) (W:World),(Builtin.min_ t ty #[.int .i64 (10 * (n:Int)+(d:Int)),.int .i64 256]).run Tryz.prog W=.ok (.int .i64 (n':Int)) W:=fun t ty W=>by
    rw [uD,hn']
    congr 2
    omega
   have F:Hid (pos=p+k/\n'=fJ ((cH s p).take (k+1))/\d<=9):=⟨hpos,by rw [htk,hn',hd],by omega⟩
   clear hpos hn hx htk hx1 hbx hd hn'
   go_wp2
   refine wx9 ?_
   repeat (go_big_quiet_step (first | exact rfl))
   refine wpQuiet_nil ?_
   intro w5 hw5
   have X5:Hid (RD w5 b s m pos tv/\Fr (At b) w w5):=⟨G.out.1.kept (aO hw5),G.out.2.then (aO hw5)⟩
   have r0:=X5.out.1.c0
   have r3:=X5.out.1.c3
   have rl:=X5.out.1.lt
   clear hw5
   go_wp2
   refine wx9 ?_
   repeat (go_big_quiet_step (first | exact rfl))
   refine wpQuiet_nil ?_
   intro w6 hw6
   have X6:Hid (RD w6 b s m pos tv/\Fr (At b) w w6):=⟨X5.out.1.kept (aO hw6),X5.out.2.then (aO hw6)⟩
   have v3:=X6.out.1.c3
   have vf:=X6.out.1.frz 3
   clear hw6
   go_wp2
   have R9:=X6.out.1.to (pos+1) (x:=(pos:Int)+1) (by omega)
   go_roundw
   case rel=>exact⟨k+1,by omega,by rw [<- F.out.2.1],by rw [<- Nat.add_assoc,<- F.out.1];exact R9,Fr.setCell (S:=At b) X6.out.2 (p:=⟨b,3,none⟩) rfl _⟩
   case measure=>rw [R9.pos,PO.out];omega
  ·have hkl:k=(cH s p).length:=by omega
   have hend:pos=s.size\/∃ x:UInt8,∃ hpl:pos < s.size,s[pos]'hpl=x/\(x.toNat < 48\/57 < x.toNat):=by
    rcases Nat.lt_or_ge pos s.size with g | g
    ·refine .inr ⟨_,g,rfl,?_⟩
     refine aW0 (s:=s) (p:=p) ?_
     rw [<- hkl,<- hpos]
     exact List.getElem?_eq_getElem (by rw [bH];exact g)
    ·exact .inl (by omega)
   have F:Hid (pos=p+(cH s p).length/\n=fJ (cH s p)):=⟨by omega,by rw [hn,hkl,List.take_length]⟩
   have DG:Hid (decide (p < pos)=decide (0 < (cH s p).length)):=decide_eq_decide.2 (by omega)
   clear hpos hn hkl hge hk hlen
   rcases hend with hpe | ⟨x,hpl,hxv,hx⟩
   ·have i1:¬ (pos:Int) < (s.size:Int):=by omega
    have i2:decide (pos < s.size)=false:=decide_eq_false (by omega)
    clear hpe
    go_wp2
    refine wx9 ?_
    repeat (go_big_quiet_step (first | exact rfl))
    refine wpQuiet_nil ?_
    intro w5 hw5
    have X5:Hid (RD w5 b s m pos tv/\Fr (At b) w w5):=⟨G.out.1.kept (aO hw5),G.out.2.then (aO hw5)⟩
    have r0:=X5.out.1.c0
    have r3:=X5.out.1.c3
    have rl:=X5.out.1.lt
    clear hw5
    go_wp2
    refine wx9 ?_
    repeat (go_big_quiet_step (first | exact rfl))
    refine wpQuiet_nil ?_
    intro w6 hw6
    have X6:Hid (RD w6 b s m pos tv/\Fr (At b) w w6):=⟨X5.out.1.kept (aO hw6),X5.out.2.then (aO hw6)⟩
    clear hw6
    go_wp2
    go_ret2
    exact⟨by rw [<- F.out.2,<- DG.out];rfl,by rw [<- F.out.1];exact X6.out.1,X6.out.2⟩
   ·have hx':x.toNat < 48\/48<=x.toNat/\57 < x.toNat:=by omega
    rcases hx' with j1 | ⟨j1,j2⟩
    ·have j1':¬ (48:Int)<=(x.toNat:Int):=by omega
     have j3:decide ((48:Int)<=(x.toNat:Int))=false:=decide_eq_false (by omega)
     clear hx
     go_wp2
     refine wx9 ?_
     repeat (go_big_quiet_step (first | exact rfl))
     refine wpQuiet_nil ?_
     intro w5 hw5
     have X5:Hid (RD w5 b s m pos tv/\Fr (At b) w w5):=⟨G.out.1.kept (aO hw5),G.out.2.then (aO hw5)⟩
     have r0:=X5.out.1.c0
     have r3:=X5.out.1.c3
     have rl:=X5.out.1.lt
     clear hw5
     go_wp2
     refine wx9 ?_
     repeat (go_big_quiet_step (first | exact rfl))
     refine wpQuiet_nil ?_
     intro w6 hw6
     have X6:Hid (RD w6 b s m pos tv/\Fr (At b) w w6):=⟨X5.out.1.kept (aO hw6),X5.out.2.then (aO hw6)⟩
     clear hw6
     go_wp2
     go_ret2
     exact⟨by rw [<- F.out.2,<- DG.out];rfl,by rw [<- F.out.1];exact X6.out.1,X6.out.2⟩
    ·have j1':(48:Int)<=(x.toNat:Int):=by omega
     have j2':¬ (x.toNat:Int)<=57:=by omega
     have j3:decide ((x.toNat:Int)<=57)=false:=decide_eq_false (by omega)
     clear hx
     go_wp2
     refine wx9 ?_
     repeat (go_big_quiet_step (first | exact rfl))
     refine wpQuiet_nil ?_
     intro w5 hw5
     have X5:Hid (RD w5 b s m pos tv/\Fr (At b) w w5):=⟨G.out.1.kept (aO hw5),G.out.2.then (aO hw5)⟩
     have r0:=X5.out.1.c0
     have r3:=X5.out.1.c3
     have rl:=X5.out.1.lt
     clear hw5
     go_wp2
     refine wx9 ?_
     repeat (go_big_quiet_step (first | exact rfl))
     refine wpQuiet_nil ?_
     intro w6 hw6
     have X6:Hid (RD w6 b s m pos tv/\Fr (At b) w w6):=⟨X5.out.1.kept (aO hw6),X5.out.2.then (aO hw6)⟩
     clear hw6
     go_wp2
     go_ret2
     exact⟨by rw [<- F.out.2,<- DG.out];rfl,by rw [<- F.out.1];exact X6.out.1,X6.out.2⟩
end
end Go.Proofs.YticfnglebbakkaaGreatDoor
