/-
  Parts of the proof.
-/
import Derived.Test.YtliflleaeimngaaLongestProofNA0
import Derived.Test.YtliflleaeimngaaLongestProofNB17
import Derived.Test.YtliflleaeimngaaLongestProofNB5
import Derived.Test.YtliflleaeimngaaLongestProofNB7
import Derived.Test.YtliflleaeimngaaLongestProofNB2
import Derived.Test.YtliflleaeimngaaLongestProofNB3
import Derived.WalkMore
import Derived.Deep.DeepCutAuto
import Derived.Deep.CutBlock
import Derived.Deep.LoopGhost
import Derived.Deep.RegionHeld
import Derived.Test.YtliflleaeimngaaRows
import Derived.ProofKit
import Derived.LaidMore
import Derived.OpenShut
import Derived.Stop.Joined
import Derived.Laws.IdiomArrays
import Derived.Lib.LaidU8
import Derived.Lib.LaidTab
import Derived.ChangeOld
import Derived.Deep.Slices
import Derived.ChangeSame
import Derived.SizedLaws
import Derived.SevenTiedAt
import Derived.Deep.CondSized
set_option linter.unusedSimpArgs false
set_option maxRecDepth 100000
set_option maxHeartbeats 8000000
namespace Go.Proofs.Ytliflleaeimngaa
open Go Go.RowKit
section
set_option linter.unusedSimpArgs false
attribute [local go_sem] Oper.semAt_some kY iD
abbrev tpA:Array Value:=#[.int .i64 2,.int .i64 1,.int .i64 3,.int .i64 0,.int .i64 0,.int .i64 0,.int .u64 0,.int .u64 0,.int .u64 0,.int .u64 0,.int .i64 1,.int .i64 0,.int .i64 0,.int .i64 0,.int .i64 0,.int .i64 0,.int .u64 0,.int .u64 8589934592,.int .u64 0,.int .u64 0,.int .i64 11,.int .i64 0,.int .i64 0,.int .i64 0,.int .i64 0,.int .i64 0,.int .u64 0,.int .u64 0,.int .u64 0,.int .u64 0,.int .i64 11,.int .i64 0,.int .i64 0,.int .i64 0,.int .i64 0,.int .i64 0,.int .u64 0,.int .u64 0,.int .u64 0,.int .u64 0]
theorem sK{w:World}{g:Nat}(h:w.heap[g]?=some (.cells tpA 47 (0,0))):LI w (some ⟨g,10,none⟩) twN:=gY h fun j i hi m v hm=>by
 have hj:j<2:=(f7.1 hi).1
 obtain⟨a0,a1,a2,a3⟩:=uR
 obtain⟨n0,n1,n2,n3⟩:=uM
 match j,hj,hi with
 | 0,_,hi=>cases hi;refine dQ (P:=fun m v=>tpA[10+0*10+m]?=some v) hm ?_ ?_ ?_ ?_ ?_ ?_ ?_ ?_ ?_ ?_ <;> simp [a0,a1,a2,a3,n0,n1,n2,n3]
 | 1,_,hi=>cases hi;refine dQ (P:=fun m v=>tpA[10+1*10+m]?=some v) hm ?_ ?_ ?_ ?_ ?_ ?_ ?_ ?_ ?_ ?_ <;> simp [a0,a1,a2,a3,n0,n1,n2,n3]
theorem qZ{w4:World}{g3 xb:Nat}(G:w4.heap[g3]?=some (.cells lpA 47 (0,0)))(X:w4.heap[xb]?=some (.cells #[.slice (some ⟨g3,0,none⟩) 4 4,.int .i64 0,.int .i64 0,.bool false] 24 (0,0)))(hne:g3≠xb) :
  ((((((((((((w4.setCell ⟨xb,0,none⟩ (.slice (some ⟨g3,10,none⟩) 1 3)).setCell ⟨g3,20,none⟩ (.int .i64 11)).setCell ⟨g3,21,none⟩ (.int .i64 0)).setCell ⟨g3,22,none⟩ (.int .i64 0)).setCell ⟨g3,23,none⟩ (.int .i64 0)).setCell ⟨g3,24,none⟩ (.int .i64 0)).setCell ⟨g3,25,none⟩ (.int .i64 0)).setCell ⟨g3,26,none⟩ (.int .u64 0)).setCell ⟨g3,27,none⟩ (.int .u64 0)).setCell ⟨g3,28,none⟩ (.int .u64 0)).setCell ⟨g3,29,none⟩ (.int .u64 0)).setCell ⟨xb,0,none⟩ (.slice (some ⟨g3,10,none⟩) 2 3)).heap[g3]?=some (.cells tpA 47 (0,0))/\((((((((((((w4.setCell ⟨xb,0,none⟩ (.slice (some ⟨g3,10,none⟩) 1 3)).setCell ⟨g3,20,none⟩ (.int .i64 11)).setCell ⟨g3,21,none⟩ (.int .i64 0)).setCell ⟨g3,22,none⟩ (.int .i64 0)).setCell ⟨g3,23,none⟩ (.int .i64 0)).setCell ⟨g3,24,none⟩ (.int .i64 0)).setCell ⟨g3,25,none⟩ (.int .i64 0)).setCell ⟨g3,26,none⟩ (.int .u64 0)).setCell ⟨g3,27,none⟩ (.int .u64 0)).setCell ⟨g3,28,none⟩ (.int .u64 0)).setCell ⟨g3,29,none⟩ (.int .u64 0)).setCell ⟨xb,0,none⟩ (.slice (some ⟨g3,10,none⟩) 2 3)).heap[xb]?=some (.cells #[.slice (some ⟨g3,10,none⟩) 2 3,.int .i64 0,.int .i64 0,.bool false] 24 (0,0))/\∀ (w:World) (n:Nat),Below n w w4->n<=g3->n<=xb->Below n w ((((((((((((w4.setCell ⟨xb,0,none⟩ (.slice (some ⟨g3,10,none⟩) 1 3)).setCell ⟨g3,20,none⟩ (.int .i64 11)).setCell ⟨g3,21,none⟩ (.int .i64 0)).setCell ⟨g3,22,none⟩ (.int .i64 0)).setCell ⟨g3,23,none⟩ (.int .i64 0)).setCell ⟨g3,24,none⟩ (.int .i64 0)).setCell ⟨g3,25,none⟩ (.int .i64 0)).setCell ⟨g3,26,none⟩ (.int .u64 0)).setCell ⟨g3,27,none⟩ (.int .u64 0)).setCell ⟨g3,28,none⟩ (.int .u64 0)).setCell ⟨g3,29,none⟩ (.int .u64 0)).setCell ⟨xb,0,none⟩ (.slice (some ⟨g3,10,none⟩) 2 3)):=by
 refine⟨(Below.heap_setCell _ _ _ _ hne).trans (aG (aG (aG (aG (aG (aG (aG (aG (aG (aG ((Below.heap_setCell _ _ _ _ hne).trans G) 20 _) 21 _) 22 _) 23 _) 24 _) 25 _) 26 _) 27 _) 28 _) 29 _),?_,fun w n h h1 h2=>?_⟩
 ·refine aG (cur:=#[.slice (some ⟨g3,10,none⟩) 1 3,.int .i64 0,.int .i64 0,.bool false]) ?_ 0 _
  repeat (refine(Below.heap_setCell _ _ _ _ (Ne.symm hne)).trans ?_)
  exact aG X 0 _
 ·exact(((((((((((((h.setCell (p:=⟨xb,0,none⟩) (by exact h2) _).setCell (p:=⟨g3,20,none⟩) (by exact h1) _).setCell (p:=⟨g3,21,none⟩) (by exact h1) _).setCell (p:=⟨g3,22,none⟩) (by exact h1) _).setCell (p:=⟨g3,23,none⟩) (by exact h1) _).setCell (p:=⟨g3,24,none⟩) (by exact h1) _).setCell (p:=⟨g3,25,none⟩) (by exact h1) _).setCell (p:=⟨g3,26,none⟩) (by exact h1) _).setCell (p:=⟨g3,27,none⟩) (by exact h1) _).setCell (p:=⟨g3,28,none⟩) (by exact h1) _).setCell (p:=⟨g3,29,none⟩) (by exact h1) _).setCell (p:=⟨xb,0,none⟩) (by exact h2) _))
theorem sB(w:World):Calls Try.prog 5 #[] w fun e w'=>e=.returned (.bool true)/\wBl w w':=by
 go_enter Try.func5,Try.ntmps5
 go_upto_region 2 with first
  |(go_at_call 14;(with_reducible refine(qB _).mono ?_);rintro e w1 ⟨g,rfl,h11,h12,h13⟩;have G1:=aD h11;have B1:=aD h13;have LC:Hid (Calls Try.prog 7 #[.agg #[.slice (some ⟨g,0,none⟩) 4 4,.int .i64 0,.int .i64 0,.bool false],.string ⟨#[97,97,98]⟩,.int .i64 0] w1 fun e w'=>(∃ n ok st,e=.returned (.tuple #[.int .i64 n,.bool ok,.int .i64 st,.int .i64 0])/\LgS smN [97,97,98] 0 n ok)/\wBl w1 w'):=kK (p:=⟨some ⟨g,0,none⟩,smN,4,0,0,false⟩) ⟨(by decide:(4:Nat)<=9223372036854775807),uN G1.o⟩ ⟨#[97,97,98]⟩ 0 (pF (by rw [sU]) (tN _ _) (by decide) (by decide)) (by decide);clear h11 h12 h13)
  |(go_at_call 7;(with_reducible refine(LC.o).mono ?_);rintro e w2 ⟨⟨n,ok,st,rfl,h21⟩,h22⟩;have B2:=aD (aF B1.o h22 lz9);have K2:=aD (uO h21);clear h21 h22)
 obtain⟨hn,hok⟩:=K2.o
 subst hn
 subst hok
 clear LC K2 G1
 go_upto_region 3 with (go_at_call 14;(with_reducible refine(qB _).mono ?_);rintro e w3 ⟨g3,rfl,h11,h12,h13⟩;have G3:=aD h11;have B3:=aD (aF B2.o h13 lz9);have hwg:=k6 B2.o.size h12;clear h11 h12 h13)
 have BA:wBl w3 (w3.alloc (.cells #[.slice (some ⟨g3,0,none⟩) 4 4,.int .i64 0,.int .i64 0,.bool false] 24)):=bz9
 have G4:=aD ((BA.block _ (aC G3.o)).trans G3.o)
 have X4:Hid ((w3.alloc (.cells #[.slice (some ⟨g3,0,none⟩) 4 4,.int .i64 0,.int .i64 0,.bool false] 24)).heap[w3.heap.size]?=some (.cells #[.slice (some ⟨g3,0,none⟩) 4 4,.int .i64 0,.int .i64 0,.bool false] 24 (0,0))):=aE w3 _
 have B4:=aD (aF B3.o BA lz9)
 have hgx:=aC G3.o
 have hwx:=B3.o.size
 clear BA B3 G3
 generalize (w3.alloc (.cells #[.slice (some ⟨g3,0,none⟩) 4 4,.int .i64 0,.int .i64 0,.bool false] 24))=w4 at G4 X4 B4 ⊢
 obtain⟨xb,hxb⟩:∃ xb,w3.heap.size=xb:=⟨_,rfl⟩
 rw [hxb] at X4 hgx hwx ⊢
 clear hxb
 have x0:=aA X4.o (i:=0) rfl
 have x1:=aA X4.o (i:=1) rfl
 have x2:=aA X4.o (i:=2) rfl
 have x3:=aA X4.o (i:=3) rfl
 have f0:=aH X4.o 0
 have hne:g3≠xb:=by omega
 have hne':xb≠g3:=by omega
 have lg4:=aC G4.o
 have lx4:=aC X4.o
 have d20:=aA G4.o (i:=20) rfl
 have e20:=aH G4.o 20
 have d21:=aA G4.o (i:=21) rfl
 have e21:=aH G4.o 21
 have d22:=aA G4.o (i:=22) rfl
 have e22:=aH G4.o 22
 have d23:=aA G4.o (i:=23) rfl
 have e23:=aH G4.o 23
 have d24:=aA G4.o (i:=24) rfl
 have e24:=aH G4.o 24
 have d25:=aA G4.o (i:=25) rfl
 have e25:=aH G4.o 25
 have d26:=aA G4.o (i:=26) rfl
 have e26:=aH G4.o 26
 have d27:=aA G4.o (i:=27) rfl
 have e27:=aH G4.o 27
 have d28:=aA G4.o (i:=28) rfl
 have e28:=aH G4.o 28
 have d29:=aA G4.o (i:=29) rfl
 have e29:=aH G4.o 29
 go_upto_region 5 with fail
 have TS:=aD (qZ G4.o X4.o hne)
 clear d20 d21 d22 d23 d24 d25 d26 d27 d28 d29 e20 e21 e22 e23 e24 e25 e26 e27 e28 e29 x0 x1 x2 x3 f0
 generalize ((((((((((((w4.setCell ⟨xb,0,none⟩ (.slice (some ⟨g3,10,none⟩) 1 3)).setCell ⟨g3,20,none⟩ (.int .i64 11)).setCell ⟨g3,21,none⟩ (.int .i64 0)).setCell ⟨g3,22,none⟩ (.int .i64 0)).setCell ⟨g3,23,none⟩ (.int .i64 0)).setCell ⟨g3,24,none⟩ (.int .i64 0)).setCell ⟨g3,25,none⟩ (.int .i64 0)).setCell ⟨g3,26,none⟩ (.int .u64 0)).setCell ⟨g3,27,none⟩ (.int .u64 0)).setCell ⟨g3,28,none⟩ (.int .u64 0)).setCell ⟨g3,29,none⟩ (.int .u64 0)).setCell ⟨xb,0,none⟩ (.slice (some ⟨g3,10,none⟩) 2 3))=V at TS ⊢
 have BZ:=aD (TS.o.2.2 w w.heap.size B4.o hwg hwx)
 have BA:wBl V (V.alloc (.cells #[.int .i64 11,.int .i64 0,.int .i64 0,.int .i64 0,.int .i64 0,.int .i64 0,.int .u64 0,.int .u64 0,.int .u64 0,.int .u64 0] 47)):=bz9
 have G5:=aD ((BA.block _ (aC TS.o.1)).trans TS.o.1)
 have X5:=aD ((BA.block _ (aC TS.o.2.1)).trans TS.o.2.1)
 have B5:=aD (aF BZ.o BA lz9)
 clear BA TS BZ B4 X4 G4 lg4 lx4
 generalize (V.alloc (.cells #[.int .i64 11,.int .i64 0,.int .i64 0,.int .i64 0,.int .i64 0,.int .i64 0,.int .u64 0,.int .u64 0,.int .u64 0,.int .u64 0] 47))=w5 at G5 X5 B5 ⊢
 have x0:=aA X5.o (i:=0) rfl
 have x1:=aA X5.o (i:=1) rfl
 have x2:=aA X5.o (i:=2) rfl
 have x3:=aA X5.o (i:=3) rfl
 have FC:Hid (Calls Try.prog 12 #[.agg #[.slice (some ⟨g3,10,none⟩) 2 3,.int .i64 0,.int .i64 0,.bool false],.string ⟨#[98,97,98]⟩,.int .i64 0] w5 fun e w'=>(∃ F T ok st,e=.returned (.tuple #[.agg #[.int .i64 F,.int .i64 T],.bool ok,.int .i64 st,.int .i64 0])/\dT twN [98,97,98] 0 3 ok F T)/\wBl w5 w'):=kW (p:=⟨some ⟨g3,10,none⟩,twN,3,0,0,false⟩) ⟨(by decide:(2:Nat)<=9223372036854775807),sK G5.o⟩ ⟨#[98,97,98]⟩ 0 (pF (by rw [pQ]) (qH _ _) (by decide) (by decide)) (by decide)
 go_upto_region 6 with (go_at_call 12;(with_reducible refine(FC.o).mono ?_);rintro e w6 ⟨⟨F,T,ok,st6,rfl,h61⟩,h62⟩;have K6:=aD (uP h61);have B6:=aD (aF B5.o h62 lz9);have G6:=aD ((h62.block _ (aC G5.o)).trans G5.o);have X6:=aD ((h62.block _ (aC X5.o)).trans X5.o);clear h61 h62)
 obtain⟨hF,hT,hok⟩:=K6.o
 subst hF
 subst hT
 subst hok
 clear K6 FC x0 x1 x2 x3
 have BA:wBl w6 (w6.alloc (.cells #[.int .i64 1,.int .i64 2] 37)):=bz9
 have G7:=aD ((BA.block _ (aC G6.o)).trans G6.o)
 have X7:=aD ((BA.block _ (aC X6.o)).trans X6.o)
 have S7:Hid ((w6.alloc (.cells #[.int .i64 1,.int .i64 2] 37)).heap[w6.heap.size]?=some (.cells #[.int .i64 1,.int .i64 2] 37 (0,0))):=aE w6 _
 have B7:=aD (aF B6.o BA lz9)
 clear BA G6 X6 B6
 generalize (w6.alloc (.cells #[.int .i64 1,.int .i64 2] 37))=w7 at G7 X7 S7 B7 ⊢
 have x0:=aA X7.o (i:=0) rfl
 have x1:=aA X7.o (i:=1) rfl
 have x2:=aA X7.o (i:=2) rfl
 have x3:=aA X7.o (i:=3) rfl
 have FC:Hid (Calls Try.prog 12 #[.agg #[.slice (some ⟨g3,10,none⟩) 2 3,.int .i64 0,.int .i64 0,.bool false],.string ⟨#[98,97,98]⟩,.int .i64 2] w7 fun e w'=>(∃ F T ok st,e=.returned (.tuple #[.agg #[.int .i64 F,.int .i64 T],.bool ok,.int .i64 st,.int .i64 0])/\dT twN [98,97,98] 2 3 ok F T)/\wBl w7 w'):=kW (p:=⟨some ⟨g3,10,none⟩,twN,3,0,0,false⟩) ⟨(by decide:(2:Nat)<=9223372036854775807),sK G7.o⟩ ⟨#[98,97,98]⟩ 2 (pF (by rw [pQ]) (qH _ _) (by decide) (by decide)) (by decide)
 go_upto_region 7 with (go_at_call 12;(with_reducible refine(FC.o).mono ?_);rintro e w8 ⟨⟨F,T,ok,st8,rfl,h61⟩,h62⟩;have K8:=aD (tO h61);have B8:=aD (aF B7.o h62 lz9);have S8:=aD ((h62.block _ (aC S7.o)).trans S7.o);clear h61 h62)
 obtain⟨hF,hT,hok⟩:=K8.o
 subst hF
 subst hT
 subst hok
 clear K8 FC x0 x1 x2 x3
 have s0:=aA S8.o (i:=0) rfl
 have s1:=aA S8.o (i:=1) rfl
 have ls:=aC S8.o
 go_wp2
 go_ret
 exact⟨rfl,B8.o.alloc (by exact B8.o.size) _⟩
end
section
set_option linter.unusedSimpArgs false
set_option linter.unusedVariables false
attribute [local go_sem] Oper.semAt_some kY iD
theorem uQ(p:Pg)(q:Option Addr)(c:Nat):∀ (L:List Ins) (k:Nat),fbI ⟨q,p.L,c,p.g,p.k,p.f⟩ k L=fbI p k L
 | [],k=>rfl
 | x :: r,k=>by
  unfold fbI
  have e:bL ⟨q,p.L,c,p.g,p.k,p.f⟩ k x=bL p k x:=by unfold bL;rfl
  rw [e,uQ p q c r (k+1)]
theorem uU(p:Pg)(q:Option Addr)(c:Nat):rtE ⟨q,p.L,c,p.g,p.k,p.f⟩=rtE p:=by
 unfold rtE
 dsimp only
 rw [uQ]
theorem tL(p:Pg)(q:Option Addr)(c:Nat):cB ⟨q,p.L,c,p.g,p.k,p.f⟩=cB p:=by unfold cB;rfl
theorem sN(p:Pg)(q:Option Addr)(c n:Nat)(pl:Int):wrM ⟨q,p.L,c,p.g,p.k,p.f⟩ n pl=wrM p n pl:=by
 unfold wrM
 rw [uU,tL]
theorem sI{a b:Int}(hb:0<b)(h:a*b<=4611686018427387904):tmM a b=a*b:=by
 unfold tmM
 split
 ·rename_i h1
  rcases h1 with rfl | rfl
  ·simp
  ·omega
 ·split
  ·rename_i h2
   have:=(Int.le_ediv_iff_mul_le hb).2 h
   omega
  ·rfl
theorem tW{m a n:Nat}{st:Int}(h:SB m a (n+1) n st)(hm:m<=40000)(h0:0<m)(hn:n<=100000000)(ha:a<=n):0<=st/\st<=tmM (tmM 4 m) ((n:Int)-a+1):=by
 obtain⟨h1,h2⟩:=h (by omega) hm
 have e:((n+1-a:Nat):Int)=(n:Int)-a+1:=by omega
 rw [e] at h2
 have hb:(m:Int)*((n:Int)-a+1)<=40000*100000001:=Int.mul_le_mul (by omega) (by omega) (by omega) (by omega)
 have hp:0<=(m:Int)*((n:Int)-a+1):=Int.mul_nonneg (by omega) (by omega)
 rw [sI (a:=4) (by omega) (by omega),sI (by omega) (by rw [Int.mul_assoc];omega),Int.mul_assoc]
 exact⟨h1,by omega⟩
end
section
theorem qA{w:World}{b o p room:Nat}{L:List Int}(h:MAt w b o p room L):∀ x∈L,0<=x/\x<room:=fun x hx=>by
 obtain⟨pl,_,hl,hp⟩:=h.hp
 obtain⟨i,hi⟩:=List.mem_iff_getElem?.1 hx
 obtain⟨h0,h1⟩:=hp i x hi
 have:=(f7.1 h1).1
 omega
theorem pZ{w:World}{b o p room:Nat}{L:List Int}(h:MAt w b o p room L):L.Nodup:=by
 obtain⟨pl,_,hl,hp⟩:=h.hp
 rw [List.Nodup,List.pairwise_iff_getElem]
 intro i j hi hj hij e
 obtain⟨_,h1⟩:=hp i _ (j4 hi)
 obtain⟨_,h2⟩:=hp j _ (j4 hj)
 rw [e,h2] at h1
 injection h1 with h1
 omega
noncomputable def dL (P:List Ins) (s:List UInt8) (f pl:Nat):Nat:=((List.range P.length).filter fun (a:Nat)=>@decide (Rc P s f pl (a:Int)) (Classical.propDecidable _)).length
noncomputable def stN (P:List Ins) (s:List UInt8) (f:Nat):Nat->Int
 | 0=>0
 | d+1=>if dL P s f (f+d)=0 then stN P s f d else IntKind.wrap .i64 (stN P s f d+(dL P s f (f+d):Int))
def SD(P:List Ins)(s:List UInt8)(f last pl:Nat)(st:Int):Prop:=f=last->st=stN P s f (pl-f)
section
variable {P:List Ins} {s:List UInt8} {f last pl:Nat} {X:List Int} {g:Int->Int} {fd:Bool} {F T st:Int}
theorem pM:SD P s f last f 0:=fun _=>by rw [Nat.sub_self];rfl
theorem tP(hn:X.Nodup)(hb:∀ x∈X,0<=x/\x<P.length)(hX:∀ a,a∈X↔(Rc P s f pl a/\0<=a/\a<P.length)):X.length=dL P s f pl:=by
 have h1:(X.map Int.toNat).Nodup:=by
  rw [List.Nodup,List.pairwise_map]
  refine List.Pairwise.imp_of_mem (fun {a b} ha hb' q e=>q ?_) hn
  have:=hb a ha
  have:=hb b hb'
  omega
 have h2:((List.range P.length).filter fun (a:Nat)=>@decide (Rc P s f pl (a:Int)) (Classical.propDecidable _)).Nodup:=List.Pairwise.filter _ List.nodup_range
 have h3:=(List.perm_ext_iff_of_nodup h1 h2).2 (fun a=>by
  rw [List.mem_map,List.mem_filter,List.mem_range]
  constructor
  ·rintro ⟨x,hx,rfl⟩
   obtain⟨q1,q2,q3⟩:=(hX x).1 hx
   refine⟨by omega,?_⟩
   rw [Int.toNat_of_nonneg q2]
   exact @j6 _ (Classical.propDecidable _) q1
  ·rintro ⟨q1,q2⟩
   exact⟨(a:Int),(hX a).2 ⟨@of_decide_eq_true _ (Classical.propDecidable _) q2,by omega,by omega⟩,by simp⟩)
 have:=h3.length_eq
 rw [List.length_map] at this
 exact this
theorem kU(hD:Fd P s f last pl fd F T)(hC:Cw P s f last pl (pl+1) X g fd F)(e:f=last)(hp:f<=pl):∀ a,a∈X↔Rc P s f pl a:=fun a=>by
 constructor
 ·intro h
  obtain⟨b,_,h1,h2,_,h3⟩:=hC.snd a h
  obtain rfl:b=f:=by omega
  exact h3
 ·intro h
  refine(hC.cmp f a lz9 (by omega) (by omega) (fun q=>?_) h).1
  obtain⟨b,_,h1,_,h2,_⟩:=hD.yes q
  omega
theorem kR(h:SD P s f last pl st)(hp:f<=pl)(hC:Cw P s f last pl (pl+1) X g fd F)(hD:Fd P s f last pl fd F T)(hn:X.Nodup)(hb:∀ x∈X,0<=x/\x<P.length)(hl:X.length≠0):SD P s f last (pl+1) (IntKind.wrap .i64 (st+(X.length:Int))):=fun e=>by
 have hm:=kU hD hC e hp
 have hc:=tP (P:=P) (s:=s) (f:=f) (pl:=pl) hn hb (fun a=>⟨fun q=>⟨(hm a).1 q,hb a q⟩,fun q=>(hm a).2 q.1⟩)
 rw [show pl+1-f=(pl-f)+1 by omega]
 show _=(if dL P s f (f+(pl-f))=0 then stN P s f (pl-f) else IntKind.wrap .i64 (stN P s f (pl-f)+(dL P s f (f+(pl-f)):Int)))
 rw [show f+(pl-f)=pl by omega,<- hc,if_neg hl,h e]
theorem qN(h:∀ x,¬ Rc P s f pl x){k:Nat}(hf:f<=pl)(hk:pl<=k):dL P s f k=0:=by
 unfold dL
 rw [List.length_eq_zero_iff,List.filter_eq_nil_iff]
 intro a _ q
 obtain⟨x,hx⟩:=(@of_decide_eq_true (Rc P s f k (a:Int)) (Classical.propDecidable _) q).mid pl hf hk
 exact h x hx
theorem gI(h:∀ x,¬ Rc P s f pl x)(hf:f<=pl):∀ d,stN P s f (pl-f+d)=stN P s f (pl-f)
 | 0=>rfl
 | d+1=>by
  show (if dL P s f (f+(pl-f+d))=0 then stN P s f (pl-f+d) else _)=_
  rw [if_pos (qN h hf (by omega)),gI h hf d]
theorem pN{n:Nat}(h:SD P s f last pl st)(hp:f<=pl)(hC:Cw P s f last pl (pl+1) [] g fd F)(hD:Fd P s f last pl fd F T)(hn:pl<=n+1):SD P s f last (n+1) st:=fun e=>by
 have hm:=kU hD hC e hp
 have hz:=gI (P:=P) (s:=s) (f:=f) (pl:=pl) (fun x q=>by have:=(hm x).2 q;cases this) hp (n+1-pl)
 rw [show pl-f+(n+1-pl)=n+1-f by omega] at hz
 rw [hz,h e]
end
end
section
attribute [local go_sem] Oper.semAt_some
def uS(P:List Ins)(s:ByteArray)(first last:Nat)(rb:Nat)(w:World)(own:Nat->Prop)(p:Pg)(e:Ending)(w':World):Prop:=
 ∃ fd F T,e=.returned (.tuple #[.agg #[.int .i64 F,.int .i64 T],.bool fd])/\dT P (sL s) first last fd F T/\(∃ A B st,cW w' rb p s A B st/\SD P (sL s) first last (s.size+1) st)/\Fr own w w'
section
variable {w W0 wr w':World} {own:Nat->Prop} {rb pb ob first last:Nat} {p:Pg} {s:ByteArray} {A B A0 B0:Cr4} {st:Int} {X l Y m la lb:List Int} {F T:Int} {fd:Bool}
theorem fU(h:PlW W0 (fun k=>aK A0 k\/aK B0 k\/k=rb\/k=pb) rb pb p s A B st X l Y m F T wr)(hB:wBl w W0)(hob:w.heap.size=ob)(hpb:w.heap.size+1=pb)(hro:rb≠ob)(hf:dT p.L (sL s) first last fd F T)(hsb:SD p.L (sL s) first last (s.size+1) st) :
  uS p.L s first last rb w (fun k=>aK A0 k\/aK B0 k\/k=rb) p (.returned (.tuple #[.agg #[.int .i64 F,.int .i64 T],.bool fd])) ((wr.setCell ⟨ob,0,none⟩ (.int .i64 F)).setCell ⟨ob,1,none⟩ (.int .i64 T)):=by
 have hfr:Fr (fun k=>k=ob) wr ((wr.setCell ⟨ob,0,none⟩ (.int .i64 F)).setCell ⟨ob,1,none⟩ (.int .i64 T)):=((Fr.refl (fun k=>k=ob) _).setCell (p:=⟨ob,0,none⟩) rfl _).setCell (p:=⟨ob,1,none⟩) rfl _
 have h1:Fr (fun k=>aK A0 k\/aK B0 k\/k=rb) w wr:=⟨h.fr.os.trans hB.os,h.fr.tape.trans hB.tape,h.fr.output.trans hB.output,k6 hB.size h.fr.size,fun i hi hn=>(h.fr.block i (j9 hi hB.size) (fun q=>by
  rcases q with q | q | q | q
  ·exact hn (.inl q)
  ·exact hn (.inr (.inl q))
  ·exact hn (.inr (.inr q))
  ·omega)).trans (hB.block i hi)⟩
 refine⟨fd,F,T,rfl,hf,⟨A,B,st,(hfr.block _ (aC h.hr) hro).trans h.hr,hsb⟩,?_⟩
 exact(h1.setNew (p:=⟨ob,0,none⟩) (by show w.heap.size<=ob;omega) _).setNew (p:=⟨ob,1,none⟩) (by show w.heap.size<=ob;omega) _
end
theorem rR{w:World}{rb:Nat}{p:Pg}{s:ByteArray}{A B:Cr4}{la lb:List Int}{first last:Nat}(H:PlI w rb p s A B la lb)(hfl:first<=last)(hls:last<=s.size)(hsz:s.size<=4611686018427387904) :
  Calls Try.prog 17 #[.pointer (some ⟨rb,0,none⟩),.int .i64 (first:Int),.int .i64 (last:Int)] w (uS p.L s first last rb w (fun k=>aK A k\/aK B k\/k=rb) p):=by
 have HH:=aD H
 have hn:=H.gp.len
 have lrb:=aC H.hr
 have lA:=aD H.ha.lt
 have lB:=aD H.hb.lt
 clear H
 have B0:Hid (wBl w ((w.alloc (.cells #[.int .i64 0,.int .i64 0] 37)).alloc (.cells #[.int .i64 0,.int .i64 0] 37))):=(bz9).alloc (by simp) _
 have OB:Hid (((w.alloc (.cells #[.int .i64 0,.int .i64 0] 37)).alloc (.cells #[.int .i64 0,.int .i64 0] 37)).heap[w.heap.size]?=some (.cells #[.int .i64 0,.int .i64 0] 37 (0,0))):=(Below.heap_alloc _ _ _ (by simp)).trans (aE w _)
 have PB:Hid (((w.alloc (.cells #[.int .i64 0,.int .i64 0] 37)).alloc (.cells #[.int .i64 0,.int .i64 0] 37)).heap[w.heap.size+1]?=some (.cells #[.int .i64 0,.int .i64 0] 37 (0,0))):=(by
  have:=aE (w.alloc (.cells #[.int .i64 0,.int .i64 0] 37)) (.cells #[.int .i64 0,.int .i64 0] 37)
  rwa [o6] at this)
 go_enter Try.func17,Try.ntmps17
 go_upto_region 1 with fail
 go_step3
 go_upto_region 2 with fail
 generalize ((w.alloc (.cells #[.int .i64 0,.int .i64 0] 37)).alloc (.cells #[.int .i64 0,.int .i64 0] 37))=W0 at B0 OB PB ⊢
 obtain⟨pb,hpb⟩:∃ pb,w.heap.size+1=pb:=⟨_,rfl⟩
 obtain⟨ob,hob⟩:∃ ob,w.heap.size=ob:=⟨_,rfl⟩
 have P0:=aD (gT HH.o B0.o PB.o hpb)
 have HPB:=aD hpb
 have HOB:=aD hob
 have nob:Hid (¬ (aK A ob\/aK B ob\/ob=rb\/ob=pb)):=aD (fun q=>by
  rcases q with q | q | q | q
  ·have:=lA.o _ q;omega
  ·have:=lB.o _ q;omega
  ·omega
  ·omega)
 rw [hob] at OB ⊢
 rw [show ob+1=pb by omega]
 have hro:Hid (rb≠ob):=aD (by omega)
 clear hpb hob PB
 try go_step3
 go_wp2
 go_loopw [9,10] (fun f pv wr=>∃ (pl:Nat) (fd:Bool) (A' B':Cr4) (st:Int) (X l Y m:List Int) (F T:Int),f=.bool fd/\pv=.int .i64 (pl:Int)/\first<=pl/\pl<=s.size+1/\PlW W0 (fun k=>aK A k\/aK B k\/k=rb\/k=pb) rb pb p s A' B' st X l Y m F T wr/\Cw p.L (sL s) first last pl pl Y (bF m) fd F/\Fd p.L (sL s) first last pl fd F T/\SD p.L (sL s) first last pl st) (fun f pv _=>s.size+2-(intOf pv).toNat)
 case atStart=>exact⟨first,false,A,B,0,[],la,[],lb,0,0,rfl,rfl,k9 _,by omega,P0.o,iF,iA,pM⟩
 case round=>
  obtain⟨pl,fd,A',B',st,X,l,Y,m,F,T,rfl,rfl,hfp,hpl,hP,hC,hD,hSB⟩:=hrel
  have SB1:=aD hSB
  clear hSB
  have P1:=aD hP
  have C1:=aD hC
  have D1:=aD hD
  have y1:wr.cell? ⟨rb,1,none⟩=some (.string s):=aA hP.hr (i:=1) rfl
  clear hP hC hD P0
  by_cases hps:pl<=s.size
  case neg=>
   have i0:¬ (pl:Int)<=(s.size:Int):=by omega
   have OBW:=fD P1.o OB.o nob.o
   have o0:=aA OBW (i:=0) rfl
   have o1:=aA OBW (i:=1) rfl
   have g0:=aH OBW 0
   have g1:=aH OBW 1
   have q0:=aA P1.o.hp (i:=0) rfl
   have q1:=aA P1.o.hp (i:=1) rfl
   have FN:=aD (fU P1.o B0.o HOB.o HPB.o hro.o (kX D1.o (by rw [cJ];exact hls) (by rw [cJ];omega)) (by rw [show s.size+1=pl by omega];exact SB1.o))
   have hz:=aG (aG OBW 0 (.int .i64 F)) 1 (.int .i64 T)
   have k0:=aA hz (i:=0) rfl
   have k1:=aA hz (i:=1) rfl
   clear hz OBW
   go_wp2
   refine bodyPost_ret (v:=.tuple #[.agg #[.int .i64 F,.int .i64 T],.bool fd]) (by simp [results,Try.results17,go_sem,k0,k1]) rfl ?_
   exact FN.o
  case pos=>
   have i0:(pl:Int)<=(s.size:Int):=by omega
   have HFP:=aD hfp
   have HPS:=aD hps
   go_upto_region 5 with fail
   go_cut [35] (fun _ wx=>PlW W0 (fun k=>aK A k\/aK B k\/k=rb\/k=pb) rb pb p s B' A' st Y m X l F T wx)
   case first=>
    have RD:Hid (cW wr.drew rb p s A' B' st):=P1.o.hr
    have PD:Hid (PlW W0 (fun k=>aK A k\/aK B k\/k=rb\/k=pb) rb pb p s A' B' st X l Y m F T wr.drew):=aD (P1.o.below (Below.refl _ _).drew)
    refine wp_region_held_drew (S:=fun _=>True) (by kernel_rfl) trivial ?_
    intro hS0
    generalize wr.drew=V at RD PD ⊢
    have r2:=aA RD.o (i:=2) rfl
    have r3:=aA RD.o (i:=3) rfl
    have r4:=aA RD.o (i:=4) rfl
    have r5:=aA RD.o (i:=5) rfl
    have f2:=aH RD.o 2
    have f3:=aH RD.o 3
    have f4:=aH RD.o 4
    have f5:=aH RD.o 5
    refine wpAnyH_take (i:=0) (oi:=_) (v:=?_) rfl (by kernel_rfl) (by kernel_rfl) (by kernel_rfl) (fun _ _ _ h=>h) (Or.inl ⟨by rfl,?_⟩) (by assumption) ?_
    rotate_left
    ·intro wz hSw
     go_simp
     try with_reducible rfl
    dsimp only [Act.put,i8,g7,g9]
    simp only [f9,i9,j3]
    refine wpAnyH_take (i:=1) (oi:=_) (v:=?_) rfl (by kernel_rfl) (by kernel_rfl) (by kernel_rfl) (fun _ _ _ h=>h) (Or.inl ⟨by rfl,?_⟩) (by assumption) ?_
    rotate_left
    ·intro wz hSw
     go_simp
     try with_reducible rfl
    dsimp only [Act.put,i8,g7,g9]
    simp only [f9,i9,j3]
    refine wpAnyH_take (i:=2) (oi:=_) (v:=?_) rfl (by kernel_rfl) (by kernel_rfl) (by kernel_rfl) (fun _ _ _ h=>h) (Or.inl ⟨by rfl,?_⟩) (by assumption) ?_
    rotate_left
    ·intro wz hSw
     go_simp
     try with_reducible rfl
    dsimp only [Act.put,i8,g7,g9]
    simp only [f9,i9,j3]
    refine wpAnyH_take (i:=3) (oi:=_) (v:=?_) rfl (by kernel_rfl) (by kernel_rfl) (by kernel_rfl) (fun _ _ _ h=>h) (Or.inl ⟨by rfl,?_⟩) (by assumption) ?_
    rotate_left
    ·intro wz hSw
     go_simp
     try with_reducible rfl
    dsimp only [Act.put,i8,g7,g9]
    simp only [f9,i9,j3]
    refine wpAnyH_take (i:=4) (oi:=_) (v:=?_) rfl (by kernel_rfl) (by kernel_rfl) (by kernel_rfl) (fun _ _ _ h=>h) (Or.inl ⟨by rfl,?_⟩) (by assumption) ?_
    rotate_left
    ·intro wz hSw
     go_simp
     try with_reducible rfl
    dsimp only [Act.put,i8,g7,g9]
    simp only [f9,i9,j3]
    refine wpAnyH_take (i:=6) (oi:=_) (v:=?_) rfl (by kernel_rfl) (by kernel_rfl) (by kernel_rfl) (fun _ _ _ h=>h) (Or.inl ⟨by rfl,?_⟩) (by assumption) ?_
    rotate_left
    ·intro wz hSw
     go_simp
     try with_reducible rfl
    dsimp only [Act.put,i8,g7,g9]
    simp only [f9,i9,j3]
    refine wpAnyH_take (i:=7) (oi:=_) (v:=?_) rfl (by kernel_rfl) (by kernel_rfl) (by kernel_rfl) (fun _ _ _ h=>h) (Or.inl ⟨by rfl,?_⟩) (by assumption) ?_
    rotate_left
    ·intro wz hSw
     go_simp
     try with_reducible rfl
    dsimp only [Act.put,i8,g7,g9]
    simp only [f9,i9,j3]
    refine wpAnyH_take (i:=8) (oi:=_) (v:=?_) rfl (by kernel_rfl) (by kernel_rfl) (by kernel_rfl) (fun _ _ _ h=>h) (Or.inl ⟨by rfl,?_⟩) (by assumption) ?_
    rotate_left
    ·intro wz hSw
     go_simp
     try with_reducible rfl
    dsimp only [Act.put,i8,g7,g9]
    simp only [f9,i9,j3]
    refine wpAnyH_ready (rs:=[5,9]) (by kernel_rfl) (by simp) ?_
    refine AllReadyH.cons rfl (fun K hK=>?_) (AllReadyH.cons rfl (fun K hK=>?_) AllReadyH.nil)
    ·go_simp
     refine hK.out _ _ trivial (fun hSx=>?_)
     clear hK K hSx
     refine wpAnyH_ready (rs:=[9]) (by kernel_rfl) (by simp) ?_
     refine AllReadyH.cons rfl (fun K hK=>?_) AllReadyH.nil
     go_simp
     refine hK.out _ _ trivial (fun hSx=>?_)
     clear hK K hSx
     refine wpAnyH_ready (rs:=[10]) (by kernel_rfl) (by simp) ?_
     refine AllReadyH.cons rfl (fun K hK=>?_) AllReadyH.nil
     go_simp
     refine hK.out _ _ trivial (fun hSx=>?_)
     clear hK K hSx
     refine wpAnyH_ready (rs:=[11]) (by kernel_rfl) (by simp) ?_
     refine AllReadyH.cons rfl (fun K hK=>?_) AllReadyH.nil
     go_simp
     refine hK.out _ _ trivial (fun hSx=>?_)
     clear hK K hSx
     refine wpAnyH_ready (rs:=[12]) (by kernel_rfl) (by simp) ?_
     refine AllReadyH.cons rfl (fun K hK=>?_) AllReadyH.nil
     go_simp
     refine hK.out _ _ trivial (fun hSx=>?_)
     clear hK K hSx
     refine wpAnyH_ready (rs:=[13]) (by kernel_rfl) (by simp) ?_
     refine AllReadyH.cons rfl (fun K hK=>?_) AllReadyH.nil
     go_simp
     refine hK.out _ _ trivial (fun hSx=>?_)
     clear hK K hSx
     refine wpAnyH_ready (rs:=[14]) (by kernel_rfl) (by simp) ?_
     refine AllReadyH.cons rfl (fun K hK=>?_) AllReadyH.nil
     go_simp
     refine hK.out _ _ trivial (fun hSx=>?_)
     clear hK K hSx
     refine wpAnyH_ready (rs:=[15]) (by kernel_rfl) (by simp) ?_
     refine AllReadyH.cons rfl (fun K hK=>?_) AllReadyH.nil
     go_simp
     refine hK.out _ _ trivial (fun hSx=>?_)
     clear hK K hSx
     refine wpAnyH_done (by kernel_rfl) ?_ _
     have SW:=aD (PD.o.swap (eD V _ _ _ _) (dH RD.o))
     clear r2 r3 r4 r5 f2 f3 f4 f5
     go_wp2_with fail
     go_meet
     exact SW.o
    ·go_simp
     refine hK.out _ _ trivial (fun hSx=>?_)
     clear hK K hSx
     refine wpAnyH_ready (rs:=[5]) (by kernel_rfl) (by simp) ?_
     refine AllReadyH.cons rfl (fun K hK=>?_) AllReadyH.nil
     go_simp
     refine hK.out _ _ trivial (fun hSx=>?_)
     clear hK K hSx
     refine wpAnyH_ready (rs:=[10]) (by kernel_rfl) (by simp) ?_
     refine AllReadyH.cons rfl (fun K hK=>?_) AllReadyH.nil
     go_simp
     refine hK.out _ _ trivial (fun hSx=>?_)
     clear hK K hSx
     refine wpAnyH_ready (rs:=[11]) (by kernel_rfl) (by simp) ?_
     refine AllReadyH.cons rfl (fun K hK=>?_) AllReadyH.nil
     go_simp
     refine hK.out _ _ trivial (fun hSx=>?_)
     clear hK K hSx
     refine wpAnyH_ready (rs:=[12]) (by kernel_rfl) (by simp) ?_
     refine AllReadyH.cons rfl (fun K hK=>?_) AllReadyH.nil
     go_simp
     refine hK.out _ _ trivial (fun hSx=>?_)
     clear hK K hSx
     refine wpAnyH_ready (rs:=[13]) (by kernel_rfl) (by simp) ?_
     refine AllReadyH.cons rfl (fun K hK=>?_) AllReadyH.nil
     go_simp
     refine hK.out _ _ trivial (fun hSx=>?_)
     clear hK K hSx
     refine wpAnyH_ready (rs:=[14]) (by kernel_rfl) (by simp) ?_
     refine AllReadyH.cons rfl (fun K hK=>?_) AllReadyH.nil
     go_simp
     refine hK.out _ _ trivial (fun hSx=>?_)
     clear hK K hSx
     refine wpAnyH_ready (rs:=[15]) (by kernel_rfl) (by simp) ?_
     refine AllReadyH.cons rfl (fun K hK=>?_) AllReadyH.nil
     go_simp
     refine hK.out _ _ trivial (fun hSx=>?_)
     clear hK K hSx
     refine wpAnyH_done (by kernel_rfl) ?_ _
     have SW:=aD (PD.o.swap (eD V _ _ _ _) (dH RD.o))
     clear r2 r3 r4 r5 f2 f3 f4 f5
     go_wp2_with fail
     go_meet
     exact SW.o
   case rest=>
   have P2:=aD hcut
   clear hcut P1 y1
   have r4:=aA P2.o.hr (i:=4) rfl
   have CL:=aD (lC P2.o.hb.m)
   go_upto_region 7 with (go_at_call 26;(with_reducible refine(CL.o).mono ?_);rintro e w3 ⟨rfl,h1,h2⟩;have P3:=aD (P2.o.clearB h1 h2);clear h1 h2)
   clear r4 CL P2
   obtain⟨ge,hge⟩:∃ b:Bool,b=(decide (pl<=last) && !fd):=⟨_,rfl⟩
   have HGE:=aD hge
   clear hge
   go_cut [52] (fun v wx=>v=.bool ge/\wx=w3)
   case first=>
    by_cases hl:pl<=last
    ·have i1:(pl:Int)<=(last:Int):=by omega
     have HL:=aD hl
     clear hl
     cases fd
     ·have e:ge=true:=by rw [HGE.o,j6 HL.o];rfl
      subst e
      go_wp2_with fail
      go_meet
      exact⟨rfl,rfl⟩
     ·have e:ge=false:=by rw [HGE.o];simp
      subst e
      go_wp2_with fail
      go_meet
      exact⟨rfl,rfl⟩
    ·have i1:¬ (pl:Int)<=(last:Int):=by omega
     have e:ge=false:=by rw [HGE.o,j5 hl];rfl
     clear hl
     subst e
     go_wp2_with fail
     go_meet
     exact⟨rfl,rfl⟩
   case rest=>
   obtain⟨h52,hwx⟩:=hcut
   subst h52
   subst hwx
   go_upto_if 52 with fail
   go_cut [60] (fun _ wx=>∃ X' l',PlW W0 (fun k=>aK A k\/aK B k\/k=rb\/k=pb) rb pb p s B' A' st X' l' [] l F T wx/\Cw p.L (sL s) first last pl (pl+1) X' (bF l') fd F)
   case first=>
    have hlt:Hid (fd=true->F<pl):=aD (fun q=>by
     obtain⟨b,e,q1,q2,q3,q4,q5,q6,q7⟩:=D1.o.yes q
     have:=q6.ge
     omega)
    cases ge with
    | true=>
     have hh:pl<=last/\fd=false:=by have:=HGE.o;simpa using this.symm
     obtain⟨hl,hfd⟩:=hh
     subst hfd
     have HL:=aD hl
     clear hl hlt
     have r2:=aA P3.o.hr (i:=2) rfl
     have r3:=aA P3.o.hr (i:=3) rfl
     have EN:=aD (eE (b:=(pl:Int)) (pl:=pl) (P3.o.enA HH.o.gp (Int.le_refl 0) (by have:=HH.o.gp.pos;omega)) rfl)
     go_wp2_with (go_at_call 27;(with_reducible refine(EN.o).mono ?_);rintro e w4 ⟨N,l',rfl,h1,h2,h3,h4,h5⟩;have P4:=aD (P3.o.setA h1 h5);have C4:=aD (iG C1.o hfp HL.o rfl h2 h3 h4);clear h1 h2 h3 h4 h5)
     go_meet
     exact⟨_,_,P4.o,C4.o⟩
    | false=>
     have hh:Hid (last<pl\/fd=true):=aD (by
      have q:=HGE.o
      cases fd with
      | true=>exact .inr rfl
      | false=>
       left
       have:¬ pl<=last:=fun z=>by rw [j6 z] at q;cases q
       omega)
     have CS:=aD (kZ C1.o hh.o hlt.o)
     clear hlt hh
     go_wp2_with fail
     go_meet
     exact⟨_,_,P3.o,CS.o⟩
   case rest=>
   obtain⟨X',l',hP4,hC4⟩:=hcut
   have P4:=aD hP4
   have C4:=aD hC4
   clear hP4 hC4 P3 C1
   have r2:wc.cell? ⟨rb,2,none⟩=some (.pointer (some ⟨B'.mb,0,none⟩)):=aA P4.o.hr (i:=2) rfl
   have LN:=aD (dC P4.o.ha.m)
   by_cases hX:X'=[]
   ·subst hX
    have OBW:=fD P4.o OB.o nob.o
    have o0:=aA OBW (i:=0) rfl
    have o1:=aA OBW (i:=1) rfl
    have g0:=aH OBW 0
    have g1:=aH OBW 1
    have q0:=aA P4.o.hp (i:=0) rfl
    have q1:=aA P4.o.hp (i:=1) rfl
    have FN:=aD (fU P4.o B0.o HOB.o HPB.o hro.o (fH D1.o C4.o hfp) (pN SB1.o HFP.o C4.o D1.o (by have:=HPS.o;omega)))
    have hz:=aG (aG OBW 0 (.int .i64 F)) 1 (.int .i64 T)
    have k0:=aA hz (i:=0) rfl
    have k1:=aA hz (i:=1) rfl
    clear hz OBW
    go_wp2_with (go_at_call 28;(with_reducible refine(LN.o).mono ?_);rintro e w5 ⟨rfl,h5⟩;subst w5)
    refine bodyPost_ret (v:=.tuple #[.agg #[.int .i64 F,.int .i64 T],.bool fd]) (by simp [results,Try.results17,go_sem,k0,k1]) rfl ?_
    exact FN.o
   have hXl:X'.length≠0:=fun q=>hX (List.eq_nil_of_length_eq_zero q)
   have x0:((X'.length:Int)==0)=false:=by rw [f8];omega
   clear hX
   go_upto_region 10 with (go_at_call 28;(with_reducible refine(LN.o).mono ?_);rintro e w5 ⟨rfl,h5⟩;subst w5)
   clear x0 r2 LN
   go_cut [78] (fun _ wx=>∃ st',PlW W0 (fun k=>aK A k\/aK B k\/k=rb\/k=pb) rb pb p s B' A' st' X' l' [] l F T wx/\SD p.L (sL s) first last (pl+1) st')
   case first=>
    have PD:Hid (PlW W0 (fun k=>aK A k\/aK B k\/k=rb\/k=pb) rb pb p s B' A' st X' l' [] l F T wc.drew):=aD (P4.o.below (Below.refl _ _).drew)
    have Z2:Hid (wc.drew.cell? ⟨rb,2,none⟩=some (.pointer (some ⟨B'.mb,0,none⟩))):=aD (aA PD.o.hr (i:=2) rfl)
    refine wp_region_held_drew (S:=fun w'=>w'.cell? ⟨rb,2,none⟩=some (.pointer (some ⟨B'.mb,0,none⟩))) (by kernel_rfl) Z2.o ?_
    intro hS0
    generalize wc.drew=V at PD Z2 hS0 ⊢
    have r2:V.cell? ⟨rb,2,none⟩=some (.pointer (some ⟨B'.mb,0,none⟩)):=Z2.o
    have r6:=aA PD.o.hr (i:=6) rfl
    have f6:=aH PD.o.hr 6
    have LN:=aD (dC PD.o.ha.m)
    refine wpAnyH_take (i:=0) (oi:=_) (v:=?_) rfl (by kernel_rfl) (by kernel_rfl) (by kernel_rfl) (fun _ _ _ h=>h) (Or.inl ⟨by rfl,?_⟩) (by assumption) ?_
    rotate_left
    ·intro wz hSw
     have hs0:wz.cell? ⟨rb,2,none⟩=some (.pointer (some ⟨B'.mb,0,none⟩)):=hSw
     go_simp
     try with_reducible rfl
    dsimp only [Act.put,i8,g7,g9]
    simp only [f9,i9,j3]
    refine wpAnyH_take (i:=1) (oi:=_) (v:=?_) rfl (by kernel_rfl) (by kernel_rfl) (by kernel_rfl) (fun _ _ _ h=>h) (Or.inl ⟨by rfl,?_⟩) (by assumption) ?_
    rotate_left
    ·intro wz hSw
     have hs0:wz.cell? ⟨rb,2,none⟩=some (.pointer (some ⟨B'.mb,0,none⟩)):=hSw
     go_simp
     try with_reducible rfl
    dsimp only [Act.put,i8,g7,g9]
    simp only [f9,i9,j3]
    refine wpAnyH_take (i:=2) (oi:=_) (v:=?_) rfl (by kernel_rfl) (by kernel_rfl) (by kernel_rfl) (fun _ _ _ h=>h) (Or.inl ⟨by rfl,?_⟩) (by assumption) ?_
    rotate_left
    ·intro wz hSw
     have hs0:wz.cell? ⟨rb,2,none⟩=some (.pointer (some ⟨B'.mb,0,none⟩)):=hSw
     go_simp
     try with_reducible rfl
    dsimp only [Act.put,i8,g7,g9]
    simp only [f9,i9,j3]
    refine wpAnyH_take (i:=4) (oi:=_) (v:=?_) rfl (by kernel_rfl) (by kernel_rfl) (by kernel_rfl) (fun _ _ _ h=>h) (Or.inl ⟨by rfl,?_⟩) (by assumption) ?_
    rotate_left
    ·intro wz hSw
     have hs0:wz.cell? ⟨rb,2,none⟩=some (.pointer (some ⟨B'.mb,0,none⟩)):=hSw
     go_simp
     try with_reducible rfl
    dsimp only [Act.put,i8,g7,g9]
    simp only [f9,i9,j3]
    refine wpAnyH_take (i:=5) (oi:=_) (v:=?_) rfl (by kernel_rfl) (by kernel_rfl) (by kernel_rfl) (fun _ _ _ h=>h) (Or.inl ⟨by rfl,?_⟩) (by assumption) ?_
    rotate_left
    ·intro wz hSw
     have hs0:wz.cell? ⟨rb,2,none⟩=some (.pointer (some ⟨B'.mb,0,none⟩)):=hSw
     go_simp
     try with_reducible rfl
    dsimp only [Act.put,i8,g7,g9]
    simp only [f9,i9,j3]
    refine wpAnyH_take (i:=6) (oi:=_) (v:=?_) rfl (by kernel_rfl) (by kernel_rfl) (by kernel_rfl) (fun _ _ _ h=>h) (Or.inl ⟨by rfl,?_⟩) (by assumption) ?_
    rotate_left
    ·intro wz hSw
     have hs0:wz.cell? ⟨rb,2,none⟩=some (.pointer (some ⟨B'.mb,0,none⟩)):=hSw
     go_simp
     try with_reducible rfl
    dsimp only [Act.put,i8,g7,g9]
    simp only [f9,i9,j3]
    refine wpAnyH_take (i:=7) (oi:=_) (v:=?_) rfl (by kernel_rfl) (by kernel_rfl) (by kernel_rfl) (fun _ _ _ h=>h) (Or.inl ⟨by rfl,?_⟩) (by assumption) ?_
    rotate_left
    ·intro wz hSw
     have hs0:wz.cell? ⟨rb,2,none⟩=some (.pointer (some ⟨B'.mb,0,none⟩)):=hSw
     go_simp
     try with_reducible rfl
    dsimp only [Act.put,i8,g7,g9]
    simp only [f9,i9,j3]
    refine wpAnyH_take (i:=8) (oi:=_) (v:=?_) rfl (by kernel_rfl) (by kernel_rfl) (by kernel_rfl) (fun _ _ _ h=>h) (Or.inl ⟨by rfl,?_⟩) (by assumption) ?_
    rotate_left
    ·intro wz hSw
     have hs0:wz.cell? ⟨rb,2,none⟩=some (.pointer (some ⟨B'.mb,0,none⟩)):=hSw
     go_simp
     try with_reducible rfl
    dsimp only [Act.put,i8,g7,g9]
    simp only [f9,i9,j3]
    refine wpAnyH_ready (rs:=[3,9]) (by kernel_rfl) (by simp) ?_
    refine AllReadyH.cons rfl (fun K hK=>?_) (AllReadyH.cons rfl (fun K hK=>?_) AllReadyH.nil)
    ·go_simp
     refine hK.out _ _ Z2.o (fun hSx=>?_)
     clear hK K hSx
     refine wpAnyH_ready (rs:=[9]) (by kernel_rfl) (by simp) ?_
     refine AllReadyH.cons rfl (fun K hK=>?_) AllReadyH.nil
     go_simp
     go_at_call 28
     refine(LN.o).mono ?_
     rintro e w5 ⟨rfl,h5⟩
     subst w5
     refine hK.out _ _ Z2.o (fun hSx=>?_)
     clear hK K hSx
     refine wpAnyH_ready (rs:=[10]) (by kernel_rfl) (by simp) ?_
     refine AllReadyH.cons rfl (fun K hK=>?_) AllReadyH.nil
     go_simp
     refine hK.out _ _ Z2.o (fun hSx=>?_)
     clear hK K hSx
     refine wpAnyH_ready (rs:=[11]) (by kernel_rfl) (by simp) ?_
     refine AllReadyH.cons rfl (fun K hK=>?_) AllReadyH.nil
     go_simp
     refine hK.out _ _ Z2.o (fun hSx=>?_)
     clear hK K hSx
     refine wpAnyH_ready (rs:=[12]) (by kernel_rfl) (by simp) ?_
     refine AllReadyH.cons rfl (fun K hK=>?_) AllReadyH.nil
     go_simp
     refine hK.out _ _ Z2.o (fun hSx=>?_)
     clear hK K hSx
     refine wpAnyH_ready (rs:=[13]) (by kernel_rfl) (by simp) ?_
     refine AllReadyH.cons rfl (fun K hK=>?_) AllReadyH.nil
     go_simp
     refine hK.out _ _ (aA (aG PD.o.hr 6 _) (i:=2) rfl) (fun hSx=>?_)
     clear hK K hSx
     refine wpAnyH_done (by kernel_rfl) ?_ _
     have SW:=aD (fun x=>PD.o.run (st':=x) (((Fr.refl (fun k=>k=rb) _).setCell (p:=⟨rb,6,none⟩) rfl _)) (aG PD.o.hr 6 (.int .i64 x)))
     clear r2 r6 f6 LN
     go_wp2_with fail
     go_meet
     exact⟨_,SW.o _,kR SB1.o HFP.o C4.o D1.o (pZ PD.o.ha.m) (qA PD.o.ha.m) hXl⟩
    ·go_simp
     go_at_call 28
     refine(LN.o).mono ?_
     rintro e w5 ⟨rfl,h5⟩
     subst w5
     refine hK.out _ _ Z2.o (fun hSx=>?_)
     clear hK K hSx
     refine wpAnyH_ready (rs:=[3]) (by kernel_rfl) (by simp) ?_
     refine AllReadyH.cons rfl (fun K hK=>?_) AllReadyH.nil
     go_simp
     refine hK.out _ _ Z2.o (fun hSx=>?_)
     clear hK K hSx
     refine wpAnyH_ready (rs:=[10]) (by kernel_rfl) (by simp) ?_
     refine AllReadyH.cons rfl (fun K hK=>?_) AllReadyH.nil
     go_simp
     refine hK.out _ _ Z2.o (fun hSx=>?_)
     clear hK K hSx
     refine wpAnyH_ready (rs:=[11]) (by kernel_rfl) (by simp) ?_
     refine AllReadyH.cons rfl (fun K hK=>?_) AllReadyH.nil
     go_simp
     refine hK.out _ _ Z2.o (fun hSx=>?_)
     clear hK K hSx
     refine wpAnyH_ready (rs:=[12]) (by kernel_rfl) (by simp) ?_
     refine AllReadyH.cons rfl (fun K hK=>?_) AllReadyH.nil
     go_simp
     refine hK.out _ _ Z2.o (fun hSx=>?_)
     clear hK K hSx
     refine wpAnyH_ready (rs:=[13]) (by kernel_rfl) (by simp) ?_
     refine AllReadyH.cons rfl (fun K hK=>?_) AllReadyH.nil
     go_simp
     refine hK.out _ _ (aA (aG PD.o.hr 6 _) (i:=2) rfl) (fun hSx=>?_)
     clear hK K hSx
     refine wpAnyH_done (by kernel_rfl) ?_ _
     have SW:=aD (fun x=>PD.o.run (st':=x) (((Fr.refl (fun k=>k=rb) _).setCell (p:=⟨rb,6,none⟩) rfl _)) (aG PD.o.hr 6 (.int .i64 x)))
     clear r2 r6 f6 LN
     go_wp2_with fail
     go_meet
     exact⟨_,SW.o _,kR SB1.o HFP.o C4.o D1.o (pZ PD.o.ha.m) (qA PD.o.ha.m) hXl⟩
   case rest=>
   obtain⟨st',hP5,hS5⟩:=hcut
   have SB2:=aD hS5
   clear hS5
   have P5:=aD hP5
   clear hP5 P4
   have r2:=aA P5.o.hr (i:=2) rfl
   have LN:=aD (dC P5.o.ha.m)
   go_wp2_with (go_at_call 28;(with_reducible refine(LN.o).mono ?_);rintro e w5 ⟨rfl,h5⟩;subst w5)
   clear r2 LN
   go_loopw [9,87] (fun f kv wr=>∃ (k:Nat) (fd':Bool) (Y' m':List Int) (F' T':Int),f=.bool fd'/\kv=.int .i64 (k:Int)/\k<=X'.length/\PlW W0 (fun k=>aK A k\/aK B k\/k=rb\/k=pb) rb pb p s B' A' st' X' l' Y' m' F' T' wr/\Go2 p.L (sL s) first last pl X' (bF l') fd F T k Y' (bF m') fd' F' T') (fun f kv _=>X'.length-(intOf kv).toNat)
   case atStart=>exact⟨0,fd,[],l,F,T,rfl,rfl,o7 _,P5.o,kV⟩
   case round=>
    obtain⟨k,fd',Y',m',F',T',rfl,rfl,hk,hP6,hG6⟩:=hrel
    have P6:=aD hP6
    have G6:=aD hG6
    clear hP6 hG6 P5
    have hw1:IntKind.wrap .i64 ((pl:Int)+1)=(pl:Int)+1:=wrap_small _ (by omega) (by omega)
    by_cases hkx:k<X'.length
    case neg=>
     have i1:¬ (k:Int)<(X'.length:Int):=by omega
     have DN:=aD (dK D1.o C4.o G6.o (.inl (by omega)))
     go_wp2
     go_roundw
     case rel=>exact⟨pl+1,fd',B',A',st',X',l',Y',m',F',T',rfl,by go_num,Nat.le_succ_of_le HFP.o,Nat.succ_le_succ HPS.o,P6.o,DN.o.1,DN.o.2,SB2.o⟩
     case measure=>simp only [intOf];omega
    case pos=>
     have i1:(k:Int)<(X'.length:Int):=by omega
     obtain⟨x,hx⟩:∃ x,X'[k]?=some x:=⟨_,j4 hkx⟩
     obtain⟨hx0,hx1⟩:=P6.o.ha.m.inr (j8 hx)
     obtain⟨x,rfl⟩:∃ x':Nat,x=(x':Int):=⟨x.toNat,by omega⟩
     have hxl:x<p.L.length:=by omega
     have AT:Hid (Calls Try.prog 29 #[.pointer (some ⟨B'.mb,0,none⟩),.int .i64 (k:Int)] wr fun e w'=>e=.returned (.tuple #[.int .i64 (x:Int),.bool true])/\w'=wr):=by
      have:=sG P6.o.ha.m (k:Int)
      rw [show atV X' (k:Int)=(x:Int) by unfold atV;rw [if_pos ⟨by omega,by omega⟩,k4,hx];rfl,show atB X' (k:Int)=true from j6 ⟨by omega,by omega⟩] at this
      exact this
     obtain⟨i,hi⟩:∃ i,p.L[x]?=some i:=⟨_,j4 hxl⟩
     obtain⟨g,o,hq,hg,c0,c1,c2,c3,c4,c5,c6,c7,c8,c9⟩:=P6.o.li.ten hi
     clear c1 c2 c3 c4 c5 c6 c7 c8 c9
     have hi':Hid (p.L[((x:Int)).toNat]?=some i):=aD (by rw [k4];exact hi)
     have HX:=aD hx
     have HI:=aD hi
     have cg:=P6.o.ha.cell hxl
     have r0:wr.cell? ⟨rb,0,none⟩=some (.slice p.q p.L.length p.c):=aA P6.o.hr (i:=0) rfl
     rw [hq] at r0
     have r1:wr.cell? ⟨rb,1,none⟩=some (.string s):=aA P6.o.hr (i:=1) rfl
     have r2:=aA P6.o.hr (i:=2) rfl
     have r3:=aA P6.o.hr (i:=3) rfl
     have q0:=aA P6.o.hp (i:=0) rfl
     have j0:(x:Int)<(p.L.length:Int):=by omega
     have j1:(0:Int)<=(x:Int):=by omega
     have hw2:IntKind.wrap .i64 ((x:Int)+1)=(x:Int)+1:=wrap_small _ (by omega) (by omega)
     have hxr:=P6.o.ha.m.len
     have hw3:IntKind.wrap .i64 ((k:Int)+1)=(k:Int)+1:=wrap_small _ (by omega) (by omega)
     clear hx hi hx0 hx1
     go_upto_region 16 with (go_at_call 29;(with_reducible refine(AT.o).mono ?_);rintro e w5 ⟨rfl,h5⟩;subst w5)
     clear AT cg r2 r3
     go_cut [108] (fun v wx=>v=.bool (fd'&&decide (F'<bF l' (x:Int)))/\wx=wr)
     case first=>
      cases fd'
      all_goals go_wp2_with fail
      all_goals go_meet
      all_goals exact⟨rfl,rfl⟩
     case rest=>
     obtain⟨h108,hwx⟩:=hcut
     subst h108
     subst hwx
     by_cases hgb:(fd'&&decide (F'<bF l' (x:Int)))=true
     ·have hh:fd'=true/\F'<bF l' (x:Int):=by simpa using hgb
      have DN:=aD (dK D1.o C4.o G6.o (.inr ⟨hh.1,_,HX.o,hh.2⟩))
      rw [hgb]
      clear hgb hh
      go_wp2
      go_roundw
      case rel=>exact⟨pl+1,fd',B',A',st',X',l',Y',m',F',T',rfl,by go_num,Nat.le_succ_of_le HFP.o,Nat.succ_le_succ HPS.o,P6.o,DN.o.1,DN.o.2,SB2.o⟩
      case measure=>simp only [intOf];omega
     have hgF:Hid (fd'=true->bF l' (x:Int)<=F'):=aD (fun q=>by
      rw [q] at hgb
      simp only [Bool.true_and,decide_eq_true_eq] at hgb
      omega)
     rw [Bool.eq_false_iff.2 hgb]
     clear hgb
     by_cases ho:i.op=11
     ·rw [ho] at c0
      have HO:=aD ho
      have pf0:=aH P6.o.hp 0
      have pf1:=aH P6.o.hp 1
      have q1:=aA P6.o.hp (i:=1) rfl
      have P7:=aD (P6.o.part (bF l' (x:Int)) (pl:Int))
      clear ho
      go_upto_region 19 with fail
      clear pf0 pf1 q0 q1 c0 r0 r1
      generalize ((wc.setCell ⟨pb,0,none⟩ (.int .i64 (bF l' (x:Int)))).setCell ⟨pb,1,none⟩ (.int .i64 (pl:Int)))=V at P7 ⊢
      have r1:V.cell? ⟨rb,1,none⟩=some (.string s):=aA P7.o.hr (i:=1) rfl
      by_cases hpe:pl=s.size
      ·have e0:((pl:Int)==(s.size:Int))=true:=by rw [beq_iff_eq];omega
       have e1:(pl:Int)=(s.size:Int):=by omega
       have FL:=aD (hU D1.o C4.o G6.o HX.o hi'.o HO.o hgF.o (by rw [cJ];exact hls) (by rw [cJ];exact hpe))
       clear hpe
       have OBW:=fD P7.o OB.o nob.o
       have o0:=aA OBW (i:=0) rfl
       have o1:=aA OBW (i:=1) rfl
       have g0:=aH OBW 0
       have g1:=aH OBW 1
       have q0:=aA P7.o.hp (i:=0) rfl
       have q1:=aA P7.o.hp (i:=1) rfl
       have FN:=aD (fU P7.o B0.o HOB.o HPB.o hro.o FL.o (by rw [show s.size+1=pl+1 by omega];exact SB2.o))
       have hz:=aG (aG OBW 0 (.int .i64 (bF l' (x:Int)))) 1 (.int .i64 (pl:Int))
       have k0:=aA hz (i:=0) rfl
       have k1:=aA hz (i:=1) rfl
       clear hz OBW
       clear FL e1
       go_wp2
       refine bodyPost_ret (v:=.tuple #[.agg #[.int .i64 (bF l' (x:Int)),.int .i64 (pl:Int)],.bool true]) (by simp [results,Try.results17,go_sem,k0,k1]) rfl ?_
       exact FN.o
      ·have e0:((pl:Int)==(s.size:Int))=false:=by rw [f8];omega
       have GM:=aD (dR C4.o G6.o HX.o hi'.o HO.o hgF.o)
       clear hpe
       go_wp2
       go_roundw
       case rel=>exact⟨k+1,true,Y',m',bF l' (x:Int),(pl:Int),rfl,by go_num,Nat.succ_le_of_lt hkx,P7.o,GM.o⟩
       case measure=>simp only [intOf];omega
     ·obtain⟨oo,hoo⟩:∃ oo,i.op=oo:=⟨_,rfl⟩
      have HNO:Hid (i.op≠11):=aD ho
      have eo:(oo==11)=false:=by rw [f8,<- hoo];exact ho
      rw [hoo] at c0
      clear ho hoo
      have TK:=aD (kP (pl:=pl) P6.o.hr P6.o.li HI.o)
      obtain⟨tb,htb⟩:∃ tb,tkB i s pl=tb:=⟨_,rfl⟩
      rw [htb] at TK
      have HTB:=aD htb
      clear htb
      cases tb with
      | false=>
       have GS:=aD (hJ G6.o HX.o hi'.o HNO.o (fun c h1 h2=>by
        have:=HTB.o
        unfold tkB at this
        rw [h1,h2] at this
        simpa using this))
       go_wp2_with (go_at_call 30;(with_reducible refine(TK.o).mono ?_);rintro e w7 ⟨rfl,h7⟩;have P7:=aD (P6.o.below h7);clear h7)
       go_roundw
       case rel=>exact⟨k+1,fd',Y',m',F',T',rfl,by go_num,Nat.succ_le_of_lt hkx,P7.o,GS.o⟩
       case measure=>simp only [intOf];omega
      | true=>
       have hb:∃ c,i.op=1/\(sL s)[pl]?=some c/\aO i.s (c.toNat:Int)=true:=by
        have:=HTB.o
        unfold tkB at this
        cases hc:(sL s)[pl]? with
        | none=>rw [hc] at this;simp at this
        | some c=>rw [hc] at this;simp at this;exact⟨c,this.1,rfl,this.2⟩
       obtain⟨c,hc1,hc2,hc3⟩:=hb
       have HC:=aD (And.intro hc1 (And.intro hc2 hc3))
       have hnx:=HH.o.gp.nx x i HI.o hc1
       have hnx1:(x:Int)+1<(p.L.length:Int):=by omega
       clear hc1 hc2 hc3 hnx
       go_upto_region 21 with (go_at_call 30;(with_reducible refine(TK.o).mono ?_);rintro e w7 ⟨rfl,h7⟩;have P7:=aD (P6.o.below h7);clear h7)
       have r4:=aA P7.o.hr (i:=4) rfl
       have r5:=aA P7.o.hr (i:=5) rfl
       have EN:=aD (eE (b:=bF l' (x:Int)) (plI:=(pl:Int)+1) (pl:=pl+1) (P7.o.enB HH.o.gp (x:=(x:Int)+1) (by omega) hnx1) (by omega))
       clear q0 c0 r0 r1
       go_wp2_with (go_at_call 27;(with_reducible refine(EN.o).mono ?_);rintro e w8 ⟨N,l8,rfl,h1,h2,h3,h4,h5⟩;have P8:=aD (P7.o.setB h1 h5);have G8:=aD (hY C4.o G6.o HX.o hi'.o HC.o.1 HC.o.2.1 HC.o.2.2 h2 h3 h4);clear h1 h2 h3 h4 h5)
       go_roundw
       case rel=>exact⟨k+1,fd',_,_,F',T',rfl,by go_num,Nat.succ_le_of_lt hkx,P8.o,G8.o⟩
       case measure=>simp only [intOf];omega
end
section
attribute [local go_sem] Oper.semAt_some bI
theorem gV{w:World}{p:Pg}(h:PgI w p)(s:ByteArray)(a:Nat)(hz:wrM p s.size (a:Int)=0)(hsz:s.size<=4611686018427387904):Calls Try.prog 7 #[.agg #[.slice p.q p.L.length p.c,.int .i64 p.g,.int .i64 p.k,.bool p.f],.string s,.int .i64 (a:Int)] w fun e w'=>(∃ n ok st,e=.returned (.tuple #[.int .i64 n,.bool ok,.int .i64 st,.int .i64 0])/\LgS p.L (sL s) a n ok/\st=stN p.L (sL s) a (s.size+1-a))/\wBl w w':=by
 have B1:Hid (wBl w (w.alloc (.cells #[.slice p.q p.L.length p.c,.int .i64 p.g,.int .i64 p.k,.bool p.f] 24))):=bz9
 have X1:Hid ((w.alloc (.cells #[.slice p.q p.L.length p.c,.int .i64 p.g,.int .i64 p.k,.bool p.f] 24)).heap[w.heap.size]?=some (.cells #[.slice p.q p.L.length p.c,.int .i64 p.g,.int .i64 p.k,.bool p.f] 24 (0,0))):=aE w _
 have HW:=aD (eC (h.kept B1.o) s (a:Int))
 rw [hz] at HW
 obtain⟨hr,_,_,hal⟩:=fR hz
 have GG:=aD (fG hr)
 have hal:a<=s.size:=by omega
 have HH:=aD h
 have hn:=GG.o.len
 clear h hz hr
 go_enter Try.func7,Try.ntmps7
 go_upto_region 1 with fail
 generalize (w.alloc (.cells #[.slice p.q p.L.length p.c,.int .i64 p.g,.int .i64 p.k,.bool p.f] 24))=w1 at B1 X1 HW ⊢
 have p0:=aA X1.o (i:=0) rfl
 have p1:=aA X1.o (i:=1) rfl
 have p2:=aA X1.o (i:=2) rfl
 have p3:=aA X1.o (i:=3) rfl
 go_upto_region 4 with (go_at_call 15;(with_reducible refine(HW.o).mono ?_);rintro e w2 ⟨rfl,h2⟩;have B2:=aD (aF B1.o h2 lz9);have X2:=aD ((h2.block _ (aC X1.o)).trans X1.o);clear h2)
 clear p0 p1 p2 p3
 have p0:=aA X2.o (i:=0) rfl
 have p1:=aA X2.o (i:=1) rfl
 have p2:=aA X2.o (i:=2) rfl
 have p3:=aA X2.o (i:=3) rfl
 go_upto_region 5 with (go_at_call 16;(with_reducible refine(eN hn s).mono ?_);rintro e w3 ⟨rb,A,B,la,lb,rfl,h31,h32⟩;have R3:=aD h31;have B3:=aD (aF B2.o h32 lz9);have S3:=aD h32.size;clear h31 h32)
 clear p0 p1 p2 p3
 have PC:=aD (rR (first:=a) (last:=a) (kE HH.o GG.o B3.o R3.o B2.o.size) lz9 hal hsz)
 go_upto_region 6 with (go_at_call 17;(with_reducible refine(PC.o).mono ?_);rintro e w4 ⟨fd,F,T,rfl,h41,h42,h43⟩;have F4:=aD h41;have R4:=aD h42;have B4:=aD (B3.o.trans (h43.below B3.o.size (fun k hk=>by
  rcases hk with hk | hk | hk
  ·exact k6 B2.o.size (R3.o.na k hk)
  ·exact k6 B2.o.size (R3.o.nb k hk)
  ·have:=R3.o.nr.1;have:=B2.o.size;omega)));clear h41 h42 h43)
 obtain⟨A4,B4',st,hrun,hsd⟩:=R4.o
 have SD4:=aD (hsd rfl)
 clear hsd
 have BA:wBl w4 (w4.alloc (.cells #[.int .i64 F,.int .i64 T] 37)):=bz9
 have R5:=aD ((BA.block _ (aC hrun)).trans hrun)
 have P5:Hid ((w4.alloc (.cells #[.int .i64 F,.int .i64 T] 37)).heap[w4.heap.size]?=some (.cells #[.int .i64 F,.int .i64 T] 37 (0,0))):=aE w4 _
 have B5:=aD (aF B4.o BA lz9)
 clear BA hrun R4
 generalize (w4.alloc (.cells #[.int .i64 F,.int .i64 T] 37))=V at R5 P5 B5 ⊢
 have lr:=aC R5.o
 have lp:=aC P5.o
 have q1:V.cell? ⟨w4.heap.size,1,none⟩=some (.int .i64 T):=aA P5.o (i:=1) rfl
 have q6:V.cell? ⟨rb,6,none⟩=some (.int .i64 st):=aA R5.o (i:=6) rfl
 refine wx9 ?_
 repeat (go_big_quiet_step (first | exact rfl))
 refine wpQuiet_nil ?_
 rintro _ ⟨x,rfl⟩
 go_wp2
 refine bodyPost_ret (v:=.tuple #[.int .i64 T,.bool fd,.int .i64 st,.int .i64 0]) (by simp [results,Try.results7,go_sem]) rfl ?_
 exact⟨⟨_,_,_,rfl,qD F4.o,SD4.o⟩,B5.o.trans (x.2.mono B5.o.size)⟩
end
section
set_option linter.unusedSimpArgs false
set_option linter.unusedVariables false
attribute [local go_sem] Oper.semAt_some
theorem tQ{P:List Ins}{s:List UInt8}{f k:Nat}:dL P s f k<=P.length:=by
 unfold dL
 refine k6 (List.length_filter_le _ _) ?_
 rw [List.length_range]
 exact k9 _
theorem pI{P:List Ins}{s:List UInt8}{f:Nat}(hm:P.length<=40000):∀ d,d<=1000000001->0<=stN P s f d/\stN P s f d<=(P.length:Int)*(d:Int)
 | 0,_=>by simp [stN]
 | d+1,h=>by
  obtain⟨h1,h2⟩:=pI (s:=s) (f:=f) hm d (by omega)
  have hc:=tQ (P:=P) (s:=s) (f:=f) (k:=f+d)
  have q:(P.length:Int)*(d:Int)<=40000*1000000001:=Int.mul_le_mul (by omega) (by omega) (by omega) (by omega)
  have e:(P.length:Int)*((d+1:Nat):Int)=(P.length:Int)*(d:Int)+(P.length:Int):=by rw [Int.natCast_add,Int.mul_add];simp
  rw [e]
  show 0<=(if dL P s f (f+d)=0 then stN P s f d else IntKind.wrap .i64 (stN P s f d+(dL P s f (f+d):Int)))/\(if dL P s f (f+d)=0 then stN P s f d else IntKind.wrap .i64 (stN P s f d+(dL P s f (f+d):Int)))<=_
  split
  ·omega
  ·rw [wrap_small _ (by omega) (by omega)]
   omega
theorem tV{P:List Ins}{s:List UInt8}{a n:Nat}(hm:P.length<=40000)(hn:n<=100000000):SB P.length a (n+1) n (stN P s a (n+1-a)):=fun _ _=>pI hm _ (by omega)
theorem qC{P:List Ins}{s:List UInt8}{a:Nat}{n m:Int}{ok ok2:Bool}(h:LgS P s a n ok)(h2:LgS P s a m ok2):m=n/\ok2=ok:=by
 rcases h with⟨rfl,rfl,q⟩ | ⟨rfl,e,rfl,h1,q⟩
 ·rcases h2 with⟨rfl,rfl,_⟩ | ⟨_,E,_,h3,_⟩
  ·exact⟨rfl,rfl⟩
  ·exact absurd h3 (q E)
 ·rcases h2 with⟨_,_,q2⟩ | ⟨rfl,E,rfl,h3,q2⟩
  ·exact absurd h1 (q2 _)
  ·have:=q _ h3
   have:=q2 _ h1
   exact⟨by omega,rfl⟩
theorem tF{P:List Ins}{s:List UInt8}{a:Nat}{n v:Int}{ok:Bool}(h:LgS P s a n ok)(h2:LgE P s a v):(ok=false/\n=0/\v=-1)\/(ok=true/\n=v/\0<=v):=by
 rcases h with⟨rfl,rfl,q⟩ | ⟨rfl,e,rfl,h1,q⟩
 ·rcases h2 with⟨rfl,_⟩ | ⟨E,_,h3,_⟩
  ·exact .inl ⟨rfl,rfl,rfl⟩
  ·exact absurd h3 (q E)
 ·rcases h2 with⟨_,q2⟩ | ⟨E,rfl,h3,q2⟩
  ·exact absurd h1 (q2 _)
  ·have:=q _ h3
   have:=q2 _ h1
   exact .inr ⟨rfl,by omega,by omega⟩
theorem gW{w:World}{p:Pg}(h:PgI w p)(hb:p.L.length*80+160<=140737488355328)(hqc:p.q=none->p.c=0)(s:ByteArray)(hs:s.size<=100000000)(a:Int):Calls Try.prog 3 #[.agg #[.slice p.q p.L.length p.c,.int .i64 p.g,.int .i64 p.k,.bool p.f],.string s,.int .i64 a] w fun e w'=>e=.returned (.bool true)/\wBl w w':=by
 have B1:Hid (wBl w (w.alloc (.cells #[.slice p.q p.L.length p.c,.int .i64 p.g,.int .i64 p.k,.bool p.f] 24))):=bz9
 have X1:Hid ((w.alloc (.cells #[.slice p.q p.L.length p.c,.int .i64 p.g,.int .i64 p.k,.bool p.f] 24)).heap[w.heap.size]?=some (.cells #[.slice p.q p.L.length p.c,.int .i64 p.g,.int .i64 p.k,.bool p.f] 24 (0,0))):=aE w _
 have H:=aD h
 have LN:=aD (fun (V:World) (hV:wBl w V)=>rU (h.kept hV) hb hqc)
 have HB:=aD hb
 have HL:=aD h.len
 have HSZ:=aD hs
 clear h hb hqc hs
 go_enter Try.func3,Try.ntmps3
 go_upto_region 1 with fail
 generalize (w.alloc (.cells #[.slice p.q p.L.length p.c,.int .i64 p.g,.int .i64 p.k,.bool p.f] 24))=w1 at B1 X1 ⊢
 go_upto_region 2 with (go_at_call 5;(with_reducible refine(sB _).mono ?_);rintro e w2 ⟨rfl,h2⟩;have B2:=aD (aF B1.o h2 lz9);have X2:=aD ((h2.block _ (aC X1.o)).trans X1.o);clear h2)
 have p0:=aA X2.o (i:=0) rfl
 have p1:=aA X2.o (i:=1) rfl
 have p2:=aA X2.o (i:=2) rfl
 have p3:=aA X2.o (i:=3) rfl
 go_upto_region 3 with (go_at_call 6;(with_reducible refine(LN.o _ B2.o).mono ?_);rintro e w3 ⟨g,c,rfl,hO,h2⟩;have O3:=aD hO;have B3:=aD (aF B2.o h2 lz9);have X3:=aD ((h2.block _ (aC X2.o)).trans X2.o);clear h2 hO)
 clear p0 p1 p2 p3 LN X1 X2
 have BA:wBl w3 (w3.alloc (.cells #[.slice (some ⟨g,0,none⟩) p.L.length c,.int .i64 p.g,.int .i64 p.k,.bool p.f] 24)):=bz9
 have X4:=aD ((BA.block _ (aC X3.o)).trans X3.o)
 have Q4:Hid ((w3.alloc (.cells #[.slice (some ⟨g,0,none⟩) p.L.length c,.int .i64 p.g,.int .i64 p.k,.bool p.f] 24)).heap[w3.heap.size]?=some (.cells #[.slice (some ⟨g,0,none⟩) p.L.length c,.int .i64 p.g,.int .i64 p.k,.bool p.f] 24 (0,0))):=aE w3 _
 have O4:=aD (cD O3.o BA)
 have B4:=aD (aF B3.o BA lz9)
 clear BA O3 X3
 obtain⟨qb,hqb⟩:∃ qb,w3.heap.size=qb:=⟨_,rfl⟩
 rw [hqb] at Q4 ⊢
 clear hqb
 generalize (w3.alloc (.cells #[.slice (some ⟨g,0,none⟩) p.L.length c,.int .i64 p.g,.int .i64 p.k,.bool p.f] 24))=w4 at X4 Q4 O4 B4 ⊢
 have HQ:=aD (pX HL.o O4.o)
 have q0:=aA Q4.o (i:=0) rfl
 have q1:=aA Q4.o (i:=1) rfl
 have q2:=aA Q4.o (i:=2) rfl
 have q3:=aA Q4.o (i:=3) rfl
 by_cases hz:wrM p s.size a=0
 case neg=>
  have LB:Hid (∀ V:World,wBl w4 V->Calls Try.prog 7 #[.agg #[.slice (some ⟨g,0,none⟩) p.L.length c,.int .i64 p.g,.int .i64 p.k,.bool p.f],.string s,.int .i64 a] V fun e w'=>e=.returned (.tuple #[.int .i64 0,.bool false,.int .i64 0,.int .i64 (wrM p s.size a)])/\wBl V w'):=aD (fun V hV=>by
   have h:=gX (HQ.o.kept hV) s a (by rw [sN];exact hz)
   rw [sN] at h
   exact h)
  have RF:=aD (fun (V:World) (hV:wBl w V)=>fB (H.o.kept hV) s a)
  obtain⟨v,hv⟩:∃ v,wrM p s.size a=v:=⟨_,rfl⟩
  rw [hv] at LB RF hz
  have z0:(v != 0)=true:=by simp [hz]
  clear hv hz
  go_upto_region 4 with (go_at_call 7;(with_reducible refine(LB.o _ (Below.refl _ _)).mono ?_);rintro e w5 ⟨rfl,h2⟩;have O5:=aD (cD O4.o h2);have B5:=aD (aF B4.o h2 lz9);have X5:=aD ((h2.block _ (aC X4.o)).trans X4.o);have Q5:=aD ((h2.block _ (aC Q4.o)).trans Q4.o);have D5:=aD h2;clear h2)
  clear q0 q1 q2 q3
  have q0:=aA Q5.o (i:=0) rfl
  have q1:=aA Q5.o (i:=1) rfl
  have q2:=aA Q5.o (i:=2) rfl
  have q3:=aA Q5.o (i:=3) rfl
  go_upto_region 5 with (go_at_call 7;(with_reducible refine(LB.o _ D5.o).mono ?_);rintro e w6 ⟨rfl,h2⟩;have O6:=aD (cD O5.o h2);have B6:=aD (aF B5.o h2 lz9);have X6:=aD ((h2.block _ (aC X5.o)).trans X5.o);have Q6:=aD ((h2.block _ (aC Q5.o)).trans Q5.o);clear h2)
  clear q0 q1 q2 q3 LB HQ
  have p0:=aA X6.o (i:=0) rfl
  have p1:=aA X6.o (i:=1) rfl
  have p2:=aA X6.o (i:=2) rfl
  have p3:=aA X6.o (i:=3) rfl
  have q0:=aA Q6.o (i:=0) rfl
  have q1:=aA Q6.o (i:=1) rfl
  have q2:=aA Q6.o (i:=2) rfl
  have q3:=aA Q6.o (i:=3) rfl
  have BK:=aD (lE (H.o.kept B6.o) O6.o HB.o)
  go_upto_region 6 with (go_at_call 8;(with_reducible refine(BK.o).mono ?_);rintro e w7 ⟨rfl,h2⟩;have B7:=aD (aF B6.o h2 lz9);have X7:=aD ((h2.block _ (aC X6.o)).trans X6.o);clear h2)
  clear p0 p1 p2 p3 q0 q1 q2 q3 BK
  have p0:=aA X7.o (i:=0) rfl
  have p1:=aA X7.o (i:=1) rfl
  have p2:=aA X7.o (i:=2) rfl
  have p3:=aA X7.o (i:=3) rfl
  go_upto_region 9 with (go_at_call 9;(with_reducible refine(RF.o _ B7.o).mono ?_);rintro e w8 ⟨rfl,h2⟩;have B8:=aD (aF B7.o h2 lz9);have X8:=aD ((h2.block _ (aC X7.o)).trans X7.o);clear h2)
  clear p0 p1 p2 p3 RF
  go_wp2
  go_ret
  exact⟨rfl,B8.o⟩
 case pos=>
  obtain⟨hr,hf,ha0,ha1⟩:=fR hz
  obtain⟨a,rfl⟩:∃ b:Nat,a=(b:Int):=⟨a.toNat,by omega⟩
  have hal:a<=s.size:=by omega
  have GG:=aD (fG hr)
  have LO:Hid (∀ V:World,wBl w4 V->Calls Try.prog 7 #[.agg #[.slice (some ⟨g,0,none⟩) p.L.length c,.int .i64 p.g,.int .i64 p.k,.bool p.f],.string s,.int .i64 (a:Int)] V fun e w'=>(∃ n ok st,e=.returned (.tuple #[.int .i64 n,.bool ok,.int .i64 st,.int .i64 0])/\LgS p.L (sL s) a n ok/\st=stN p.L (sL s) a (s.size+1-a))/\wBl V w'):=aD (fun V hV=>gV (HQ.o.kept hV) s a (by rw [sN];exact hz) (by have:=HSZ.o;omega))
  have RF:=aD (fun (V:World) (hV:wBl w V)=>fB (H.o.kept hV) s (a:Int))
  rw [hz] at RF
  have DL:=aD (fun (V:World) (hV:wBl w V)=>kL (H.o.kept hV) hr hf s HSZ.o)
  have NB:=aD (fun (V:World)=>oU (w:=V) (p:=p) ((s.size:Int)-(a:Int)) (by omega) (by have:=HSZ.o;omega) GG.o.len)
  have hwn:IntKind.wrap .i64 ((s.size:Int)-(a:Int))=(s.size:Int)-(a:Int):=wrap_small _ (by omega) (by have:=HSZ.o;omega)
  obtain⟨n0,n1⟩:=tW (tV (s:=sL s) (a:=a) GG.o.len HSZ.o) GG.o.len GG.o.pos HSZ.o hal
  clear hz hr hf ha0 ha1
  obtain⟨S,hS⟩:∃ S,stN p.L (sL s) a (s.size+1-a)=S:=⟨_,rfl⟩
  rw [hS] at n0 n1 LO
  clear hS
  obtain⟨R,hR⟩:∃ R,tmM (tmM 4 (p.L.length:Int)) ((s.size:Int)-(a:Int)+1)=R:=⟨_,rfl⟩
  rw [hR] at n1 NB
  clear hR
  go_upto_region 4 with (go_at_call 7;(with_reducible refine(LO.o _ (Below.refl _ _)).mono ?_);rintro e w5 ⟨⟨n,ok,st,rfl,h1,rfl⟩,h2⟩;have S5:=aD h1;have O5:=aD (cD O4.o h2);have B5:=aD (aF B4.o h2 lz9);have X5:=aD ((h2.block _ (aC X4.o)).trans X4.o);have Q5:=aD ((h2.block _ (aC Q4.o)).trans Q4.o);have D5:=aD h2;clear h1 h2)
  clear q0 q1 q2 q3
  have q0:=aA Q5.o (i:=0) rfl
  have q1:=aA Q5.o (i:=1) rfl
  have q2:=aA Q5.o (i:=2) rfl
  have q3:=aA Q5.o (i:=3) rfl
  go_upto_region 5 with (go_at_call 7;(with_reducible refine(LO.o _ D5.o).mono ?_);rintro e w6 ⟨⟨m,ok2,st2,rfl,h1,rfl⟩,h2⟩;obtain⟨e1,e2⟩:=qC S5.o h1;subst e1;subst e2;have O6:=aD (cD O5.o h2);have B6:=aD (aF B5.o h2 lz9);have X6:=aD ((h2.block _ (aC X5.o)).trans X5.o);have Q6:=aD ((h2.block _ (aC Q5.o)).trans Q5.o);clear h1 h2)
  clear q0 q1 q2 q3 LO HQ D5
  have p0:=aA X6.o (i:=0) rfl
  have p1:=aA X6.o (i:=1) rfl
  have p2:=aA X6.o (i:=2) rfl
  have p3:=aA X6.o (i:=3) rfl
  have q0:=aA Q6.o (i:=0) rfl
  have q1:=aA Q6.o (i:=1) rfl
  have q2:=aA Q6.o (i:=2) rfl
  have q3:=aA Q6.o (i:=3) rfl
  have BK:=aD (lE (H.o.kept B6.o) O6.o HB.o)
  go_upto_region 6 with (go_at_call 8;(with_reducible refine(BK.o).mono ?_);rintro e w7 ⟨rfl,h2⟩;have B7:=aD (aF B6.o h2 lz9);have X7:=aD ((h2.block _ (aC X6.o)).trans X6.o);clear h2)
  clear p0 p1 p2 p3 q0 q1 q2 q3 BK
  have p0:=aA X7.o (i:=0) rfl
  have p1:=aA X7.o (i:=1) rfl
  have p2:=aA X7.o (i:=2) rfl
  have p3:=aA X7.o (i:=3) rfl
  go_upto_region 9 with (go_at_call 9;(with_reducible refine(RF.o _ B7.o).mono ?_);rintro e w8 ⟨rfl,h2⟩;have B8:=aD (aF B7.o h2 lz9);have X8:=aD ((h2.block _ (aC X7.o)).trans X7.o);clear h2)
  clear p0 p1 p2 p3 RF
  have p0:=aA X8.o (i:=0) rfl
  have p1:=aA X8.o (i:=1) rfl
  have p2:=aA X8.o (i:=2) rfl
  have p3:=aA X8.o (i:=3) rfl
  have j0:(0:Int)<=(a:Int):=by omega
  have j1:(a:Int)<(s.size:Int)+1:=by omega
  go_upto_region 12 with (go_at_call 10;(with_reducible refine(DL.o _ B8.o).mono ?_);rintro e w9 ⟨gl,L,rfl,h21,h22,h23,h24⟩;have B9:=aD (aF B8.o h21 lz9);have X9:=aD ((h21.block _ (aC X8.o)).trans X8.o);have cj:=aY h22 (k:=a) (by omega);have lg:=aC h22;have EJ:=tF S5.o (h24 a hal);obtain⟨v,hv⟩:∃ v,rwF L a=v:=⟨_,rfl⟩;rw [hv] at cj EJ;clear h21 h22 h23 h24 hv)
  clear p0 p1 p2 p3 DL
  have p0:=aA X9.o (i:=0) rfl
  have p1:=aA X9.o (i:=1) rfl
  have p2:=aA X9.o (i:=2) rfl
  have p3:=aA X9.o (i:=3) rfl
  rcases EJ with⟨rfl,rfl,rfl⟩ | ⟨rfl,rfl,hv⟩
  ·go_wp2_with (go_at_call 11;(with_reducible refine(NB.o _).mono ?_);rintro e wb ⟨rfl,h2⟩;have B11:=aD (aF B9.o h2 lz9);clear h2)
   go_ret
   exact⟨rfl,B11.o⟩
  ·go_wp2_with (go_at_call 11;(with_reducible refine(NB.o _).mono ?_);rintro e wb ⟨rfl,h2⟩;have B11:=aD (aF B9.o h2 lz9);clear h2)
   go_ret
   exact⟨rfl,B11.o⟩
end
section
open Go Go.ChangeShapes Go.WideShapes Go.ChangeAt Go.RowKit
theorem sJ:Try.prog.cellsOf 3=1:=by kernel_rfl
theorem tB:Try.prog.cellsOf 4=1:=by kernel_rfl
theorem uI:Try.prog.cellsOf 43=1:=by kernel_rfl
theorem uJ:Try.prog.cellsOf 45=4:=by kernel_rfl
theorem tA:Try.prog.cellsOf 47=10:=by kernel_rfl
theorem rS:Try.prog.cellsOf 22=1:=by kernel_rfl
theorem sZ:Try.prog.cellsOf 24=4:=by kernel_rfl
theorem tR:Try.prog.bytesOf 47=80:=by kernel_rfl
theorem tT:Try.prog.underlying 45=some (.array 4 43):=by kernel_rfl
theorem cZ{x:Int}(h:(Lit.int .u64 x).wf=true):0<=x/\x<18446744073709551616:=by
 simp [Lit.wf,IntKind.min,IntKind.max,IntKind.signed,IntKind.bits] at h
 omega
theorem qO{w:World}{g o:Nat}{v:Value}(h:w.cell? ⟨g,o,none⟩=some v):g<w.heap.size:=by
 rcases j7 g w.heap.size with h' | h'
 ·exact h'
 ·have:w.heap[g]?=none:=Array.getElem?_eq_none h'
  simp [World.cell?,this] at h
theorem oR{H:Type}{enc:TypeId×Value->H}{W:World}{fuel:Nat}{c0 c1 c2 c3:Value}{x:DataW H×List MemPlace}(hf:DataW.trod enc Try.prog W 0 (fun _=>true) true fuel 45 [c0,c1,c2,c3]=some x) :
  ∃ s:bH,c0=.int .u64 (aB s 0)/\c1=.int .u64 (aB s 1)/\c2=.int .u64 (aB s 2)/\c3=.int .u64 (aB s 3):=by
 obtain⟨y0,y1,y2,y3,m,hx,hy0,hy1,hy2,hy3⟩:=trod_array4 tT uI hf
 obtain⟨x0,e0,_,w0⟩:=DataW.trod_int Try.underlying43 hy0
 obtain⟨x1,e1,_,w1⟩:=DataW.trod_int Try.underlying43 hy1
 obtain⟨x2,e2,_,w2⟩:=DataW.trod_int Try.underlying43 hy2
 obtain⟨x3,e3,_,w3⟩:=DataW.trod_int Try.underlying43 hy3
 simp at e0 e1 e2 e3
 subst e0 e1 e2 e3
 have r0:=cZ w0
 have r1:=cZ w1
 have r2:=cZ w2
 have r3:=cZ w3
 obtain⟨s,g0,g1,g2,g3⟩:=pE x0 x1 x2 x3 r0.1 r0.2 r1.1 r1.2 r2.1 r2.2 r3.1 r3.2
 exact⟨s,by rw [g0],by rw [g1],by rw [g2],by rw [g3]⟩
theorem oT{H:Type}{enc:TypeId×Value->H}{W:World}{fuel:Nat}{cs:List Value}{x:DataW H×List MemPlace}(hl:cs.length=10)(hf:DataW.trod enc Try.prog W 0 (fun _=>true) true fuel 47 cs=some x):∃ i:Ins,cs=inC i:=by
 obtain⟨xs,k,hk,hxy,_,hxl,hf⟩:=DataW.trod_struct Try.underlying47 hf
 clear hxy
 match xs,hxl,cs,hl,hf with
 | [y0,y1,y2,y3,y4,y5,y6],_,[v0,v1,v2,v3,v4,v5,v6,v7,v8,v9],_,hf=>
  have F0:=hf 0 _ rfl
  have F1:=hf 1 _ rfl
  have F2:=hf 2 _ rfl
  have F3:=hf 3 _ rfl
  have F4:=hf 4 _ rfl
  have F5:=hf 5 _ rfl
  have F6:=hf 6 _ rfl
  simp [sJ,uJ] at F0 F1 F2 F3 F4 F5 F6
  obtain⟨x0,e0,_,w0⟩:=DataW.trod_int Try.underlying3 F0
  obtain⟨x1,e1,_,w1⟩:=DataW.trod_int Try.underlying3 F1
  obtain⟨x2,e2,_,w2⟩:=DataW.trod_int Try.underlying3 F2
  obtain⟨x3,e3,_,w3⟩:=DataW.trod_int Try.underlying3 F3
  obtain⟨x4,e4,_,w4⟩:=DataW.trod_int Try.underlying3 F4
  obtain⟨x5,e5,_,w5⟩:=DataW.trod_int Try.underlying3 F5
  obtain⟨s,g0,g1,g2,g3⟩:=oR F6
  cases e0;cases e1;cases e2;cases e3;cases e4;cases e5
  subst g0 g1 g2 g3
  exact⟨⟨x0,x1,x2,x3,x4,x5,s⟩,rfl⟩
theorem kH{H:Type}{enc:TypeId×Value->H}{W:World}{fuel:Nat}{v:Value}{d:DataW H}{p:List MemPlace}(hf:DataW.trod enc Try.prog W 0 (fun _=>true) true fuel 22 [v]=some (d,p))
  (hw:∀ n∈d.weights Try.prog 22,n<=reachBytes):∃ (q:Option Addr) (L:List Ins) (c:Nat),v=.slice q L.length c/\LI W q L/\L.length*80<=reachBytes/\L.length<=9223372036854775807/\(q=none->c=0):=by
 have hR:reachBytes=140737488351232:=by decide
 rcases Deep.open_slice Try.underlying22 hf with⟨h1,h2⟩ | ⟨a,len,cap,m,n,D,Pl,h1,_,hlc,hcap,hm,h2,hx⟩
 ·cases h1
  exact⟨none,[],0,rfl,fun j i h=>by simp at h,by simp,by simp,fun _=>rfl⟩
 ·cases h1
  rw [if_pos rfl] at hm
  subst hm
  have hde:d=.slice ((List.range len).map D) ((List.range (m-len)).map fun j=>D (len+j)):=(Prod.mk.inj h2).1
  have h3:=hw ((len+(m-len))*80) (by rw [hde];simp [DataW.weights,Try.underlying22,tR])
  have each:∀ i,i<len->∃ x:Ins,∀ j v,(inC x)[j]?=some v->W.cell? (a.add (i*10+j))=some v:=by
   intro i hi
   obtain⟨cs',g1,g2⟩:=hx i (by omega)
   rw [tA] at g1
   obtain⟨_,hlen,hcell⟩:=World.cells?_some g1
   obtain⟨x,rfl⟩:=oT hlen g2
   refine⟨x,fun j v hj=>?_⟩
   have hjl:j<10:=by have:=(f7.1 hj).1;rw [cL] at this;exact this
   have:=hcell j hjl
   rw [Deep.add_add] at this
   rw [this]
   exact hj
  by_cases hl:len=0
  ·subst hl
   exact⟨some a,[],m,rfl,fun j i h=>by simp at h,by simp,by simp,fun h=>by cases h⟩
  ·have:Inhabited Ins:=⟨⟨0,0,0,0,0,0,0⟩⟩
   obtain⟨q,hq⟩:=Deep.choose_lt each
   obtain⟨b,off,spot⟩:=a
   have c0:=hq 0 (by omega) 0 _ rfl
   have hs:spot=none:=by
    cases spot with
    | none=>rfl
    | some k=>
     exfalso
     unfold Addr.add World.cell? at c0
     simp at c0
     split at c0 <;> simp_all
   subst hs
   have hadd:∀ j,(⟨b,off,none⟩:Addr).add j=⟨b,off+j,none⟩:=fun j=>by unfold Addr.add;split <;> simp_all
   have hb:b<W.heap.size:=by
    rw [hadd] at c0
    exact qO c0
   refine⟨some ⟨b,off,none⟩,(List.range len).map q,m,by simp,fun j i hi=>⟨b,off,rfl,hb,?_⟩,by simp;omega,by simp;omega,fun h=>by cases h⟩
   have hil:j<len:=by have:=(f7.1 hi).1;simpa using this
   have hqi:q j=i:=by simpa [hil] using hi
   have hh:=hq j hil
   rw [hqi] at hh
   simp only [hadd] at hh
   simp only [<- Nat.add_assoc] at hh
   exact hh
theorem oS{H:Type}{enc:TypeId×Value->H}{W:World}{base:Nat}{v:Value}{d:DataW H}{p:List MemPlace}(hok:Value.okWide Try.prog W .any base 24 v)
  (h:DataW.Trod enc Try.prog W 0 (fun _=>true) true 24 v d p) (hw:∀ n∈d.weights Try.prog 24,n<=reachBytes):∃ x:Pg,v=.agg #[.slice x.q x.L.length x.c,.int .i64 x.g,.int .i64 x.k,.bool x.f]/\PgI W x/\x.L.length*80<=reachBytes/\(x.q=none->x.c=0):=by
 obtain⟨cs,rfl,hsz⟩:=okWide_struct Try.underlying24 hok
 rw [sZ] at hsz
 obtain⟨l⟩:=cs
 obtain⟨fuel,hf⟩:=h
 obtain⟨xs,k,hk,hxy,_,hxl,hf⟩:=DataW.trod_struct Try.underlying24 hf
 have hD:d=.agg (xs.map (·.1)):=(Prod.mk.inj hxy).1
 rw [hD] at hw
 simp only [DataW.weights,Try.underlying24] at hw
 clear hD hxy
 match xs,hxl,l,hsz,hf,hw with
 | [y0,y1,y2,y3],_,[v0,v1,v2,v3],_,hf,hw=>
  have F0:=hf 0 _ rfl
  have F1:=hf 1 _ rfl
  have F2:=hf 2 _ rfl
  have F3:=hf 3 _ rfl
  simp [Value.cells,sJ,tB,rS] at F0 F1 F2 F3
  obtain⟨x1,e1,_,w1⟩:=DataW.trod_int Try.underlying3 F1
  obtain⟨x2,e2,_,w2⟩:=DataW.trod_int Try.underlying3 F2
  obtain⟨b3,e3,_⟩:=DataW.trod_bool Try.underlying4 F3
  obtain⟨d0,p0⟩:=y0
  obtain⟨q,L,c,rfl,hL,hr,hm,hc⟩:=kH F0 (fun n hn=>hw n (DataW.weights_mem_each (j:=0) (t:=22) rfl rfl n hn))
  cases e1;cases e2;cases e3
  exact⟨⟨q,L,c,x1,x2,b3⟩,rfl,⟨hm,hL⟩,hr,hc⟩
end
section
open Go Go.ChangeShapes Go.WideShapes Go.ChangeAt Go.RowKit
theorem kN{H:Type}{d:DataW H}{l:List (DataW H)}(h:d∈l):Rows.uptoBulk d<=Rows.uptoBulkAll l:=by
 induction l with
 | nil=>cases h
 | cons x r ih=>
  simp only [Rows.uptoBulkAll]
  cases o4.1 h with
  | inl e=>subst e;omega
  | inr e=>have:=ih e;omega
theorem qP{H:Type}{d:DataW H}{l:List (DataW H)}(hk:Rows.uptoSmall H l=true)(h:d∈l):Rows.uptoBulk d<=1048576:=k6 (kN h) (of_decide_eq_true hk)
end
end Go.Proofs.Ytliflleaeimngaa
