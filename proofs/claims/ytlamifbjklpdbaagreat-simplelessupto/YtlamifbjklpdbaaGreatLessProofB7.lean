/-
  Parts of the proof.
-/
import Derived.Test.YtlamifbjklpdbaaGreatLessProofA0
import Derived.Test.YtlamifbjklpdbaaGreatLessProofB6
set_option linter.unusedSimpArgs false
set_option maxRecDepth 100000
set_option maxHeartbeats 8000000
namespace Go.Proofs.YtlamifbjklpdbaaGreat
open Go Go.RowKit
attribute [local go_sem] bU
theorem kH{base:Nat}{w:World}{g n c:Nat}{D:List (Int×Int)}{x:Int×Int}(h:w.ownsRow base 53 2 (.slice (some ⟨g,0,none⟩) (n+1) c) (n+1) (aH (D++[x])))(hn:D.length=n)(M:Int) :
  (w.setCell ⟨g,n*2+1,none⟩ (.int .i64 M)).ownsRow base 53 2 (.slice (some ⟨g,0,none⟩) (n+1) c) (n+1) (aH (D++[(x.1,M)])):=by
 have:=(h.stored (n*2+1) (.int .i64 M)).1
 rw [lC (D++[x]) n x M (by subst hn;simp)] at this
 rwa [show (D++[x]).set n (x.1,M)=D++[(x.1,M)] from by subst hn;simp] at this
theorem aE0{base:Nat}{w:World}{g n c:Nat}{D:List (Int×Int)}{x r:Int×Int}(h:w.ownsRow base 53 2 (.slice (some ⟨g,0,none⟩) (n+1) c) (n+1) (aH (D++[x])))(hn:D.length=n)(hr:¬ r.2<r.1)(hf:¬ x.2+1<r.1)
  (hlo:-9223372036854775808<=x.2) (hm:r.1<=9223372036854775807) (hl:n+2<=8796093022208) :
  Calls Tryz.prog 101 #[.slice (some ⟨g,0,none⟩) (n+1) c,.agg #[.int .i64 r.1,.int .i64 r.2]] w fun e w'=>e=.returned (.slice (some ⟨g,0,none⟩) (n+1) c)/\w'.ownsRow base 53 2 (.slice (some ⟨g,0,none⟩) (n+1) c) (n+1) (aH (D++[(x.1,max x.2 r.2)]))/\Fr (blk (.slice (some ⟨g,0,none⟩) (n+1) c)) w w':=by
 have H:Hid (w.ownsRow base 53 2 (.slice (some ⟨g,0,none⟩) (n+1) c) (n+1) (aH (D++[x]))):=h
 have HN:Hid (D.length=n):=hn
 have glt:g<w.heap.size:=(aG h rfl).2.1
 have hcell:=(lR h hn).2
 clear h hn
 have e1:IntKind.wrap .i64 ((n:Int)+1-1)=(n:Int):=by rw [IntKind.wrap_i64];omega
 obtain⟨y,hy⟩:∃ y,x.2=y:=⟨_,rfl⟩
 have HY:Hid (x.2=y):=hy
 rw [hy] at hcell hf hlo
 clear hy
 have i0:¬ (n:Int)<0:=by omega
 have i1:(0:Int)<=(n:Int):=by omega
 have i2:(n:Int)<(n:Int)+1:=by omega
 have d0:decide ((n:Int)<0)=false:=j8 i0
 obtain⟨M,hM⟩:∃ M,max y r.2=M:=⟨_,rfl⟩
 have HM:Hid (max y r.2=M):=hM
 clear hM
 by_cases hq:y<r.1
 ·have e2:IntKind.wrap .i64 (y+1)=y+1:=by rw [IntKind.wrap_i64];omega
  have d1:decide (y<r.1)=true:=r9 (by omega)
  have d2:decide (y+1<r.1)=false:=j8 hf
  have hmx:∀ t ty w,(Builtin.max_ t ty #[.int .i64 y,.int .i64 r.2]).run Tryz.prog w=.ok (.int .i64 M) w:=fun t ty w=>by rw [kT,HM.out]
  go_enter Tryz.func101,Tryz.ntmps101
  go_wp2
  refine wx9 ?_
  repeat (go_big_quiet_step (first | exact rfl))
  refine wpQuiet_nil ?_
  intro w1 hw
  have B1:Hid (Below w.heap.size w w1):=aF (bz9) (aS hw) (by simp)
  have hb1:=aS hw
  have m0:w1.cell? ⟨w.heap.size,0,none⟩=some (.int .i64 r.1):=(hb1.cell (p:=⟨w.heap.size,0,none⟩) (by simp)).trans (aA (aD w _) (i:=0) rfl)
  have m1:w1.cell? ⟨w.heap.size,1,none⟩=some (.int .i64 r.2):=(hb1.cell (p:=⟨w.heap.size,1,none⟩) (by simp)).trans (aA (aD w _) (i:=1) rfl)
  have hsz:w.heap.size<w1.heap.size:=by have:=hb1.size;simp at this;omega
  have hc1:w1.cell? ⟨g,n*2+1,none⟩=some (.int .i64 y):=(B1.out.cell (p:=⟨g,n*2+1,none⟩) glt).trans hcell
  have gl1:g<w1.heap.size:=by omega
  clear hb1 hw hcell
  have O1:Hid (w1.drew.ownsRow base 53 2 (.slice (some ⟨g,0,none⟩) (n+1) c) (n+1) (aH (D++[x]))):=(aK (S:=fun _=>False) H.out (Fr.of_below B1.out) (fun _ _ q=>q)).drew
  have f1:w1.frozen? ⟨g,n*2+1,none⟩=false:=O1.out.frozenAt (n*2+1)
  go_wp2
  go_region_with fail
  all_goals go_wp2
  all_goals go_ret
  all_goals exact⟨rfl,by rw [HY.out,HM.out];exact kH O1.out HN.out M,((Fr.of_below B1.out).drew.setCell (S:=blk (.slice (some ⟨g,0,none⟩) (n+1) c)) (p:=⟨g,n*2+1,none⟩) rfl _)⟩
 ·have d1:decide (y<r.1)=false:=j8 hq
  have hmx:∀ t ty w,(Builtin.max_ t ty #[.int .i64 y,.int .i64 r.2]).run Tryz.prog w=.ok (.int .i64 M) w:=fun t ty w=>by rw [kT,HM.out]
  go_enter Tryz.func101,Tryz.ntmps101
  go_wp2
  refine wx9 ?_
  repeat (go_big_quiet_step (first | exact rfl))
  refine wpQuiet_nil ?_
  intro w1 hw
  have B1:Hid (Below w.heap.size w w1):=aF (bz9) (aS hw) (by simp)
  have hb1:=aS hw
  have m0:w1.cell? ⟨w.heap.size,0,none⟩=some (.int .i64 r.1):=(hb1.cell (p:=⟨w.heap.size,0,none⟩) (by simp)).trans (aA (aD w _) (i:=0) rfl)
  have m1:w1.cell? ⟨w.heap.size,1,none⟩=some (.int .i64 r.2):=(hb1.cell (p:=⟨w.heap.size,1,none⟩) (by simp)).trans (aA (aD w _) (i:=1) rfl)
  have hsz:w.heap.size<w1.heap.size:=by have:=hb1.size;simp at this;omega
  have hc1:w1.cell? ⟨g,n*2+1,none⟩=some (.int .i64 y):=(B1.out.cell (p:=⟨g,n*2+1,none⟩) glt).trans hcell
  have gl1:g<w1.heap.size:=by omega
  clear hb1 hw hcell
  have O1:Hid (w1.drew.ownsRow base 53 2 (.slice (some ⟨g,0,none⟩) (n+1) c) (n+1) (aH (D++[x]))):=(aK (S:=fun _=>False) H.out (Fr.of_below B1.out) (fun _ _ q=>q)).drew
  have f1:w1.frozen? ⟨g,n*2+1,none⟩=false:=O1.out.frozenAt (n*2+1)
  go_wp2
  go_region_with fail
  all_goals go_wp2
  all_goals go_ret
  all_goals exact⟨rfl,by rw [HY.out,HM.out];exact kH O1.out HN.out M,((Fr.of_below B1.out).drew.setCell (S:=blk (.slice (some ⟨g,0,none⟩) (n+1) c)) (p:=⟨g,n*2+1,none⟩) rfl _)⟩
theorem aN1{base:Nat}{w:World}{v:Value}{C:List (Int×Int)}{r:Int×Int}(h:RR base w v C)(hC:Fit C)(hr:Fit [r])(hbase:base<=w.heap.size)(hl:C.length+1<=8796093022208) :
  Calls Tryz.prog 101 #[v,.agg #[.int .i64 r.1,.int .i64 r.2]] w fun e w'=>∃ v',e=.returned v'/\RR base w' v' (bC C r)/\moved v v' w.heap.size/\Fr (blk v) w w':=by
 have fr:=hr r (by simp)
 by_cases he:r.2<r.1
 ·rw [fM he]
  exact(xR he).mono fun e w' ⟨h1,h2⟩=>⟨v,h1,h.kept h2,moved.refl _ _,Fr.of_below h2⟩
 ·rcases eO C with rfl | ⟨D,x,rfl⟩
  ·obtain⟨q,c,rfl⟩:=h.shape
   rw [gS he]
   exact aL4 h he hbase
  ·have fx:=hC x (by simp)
   have hl':D.length+2<=8796093022208:=by simp at hl;omega
   have hlen:(D++[x]).length=D.length+1:=by simp
   obtain⟨g,c,rfl⟩:=aN h (by omega)
   have h':=h
   unfold RR at h'
   rw [hlen] at h' ⊢
   by_cases hf:x.2+1<r.1
   ·rw [gT he hf]
    exact aL5 h' rfl he hbase hf (by omega) (by omega) hl'
   ·rw [fF he hf]
    refine(aE0 h' rfl he hf (by omega) (by omega) hl').mono fun e w' ⟨h1,h2,h3⟩=>⟨_,h1,?_,moved.refl _ _,h3⟩
    unfold RR
    rw [j3,v9]
    exact h2
end Go.Proofs.YtlamifbjklpdbaaGreat
