/-
  Parts of the proof.
-/
import Derived.Test.YtliflleaeimngaaFindProofNA0
import Derived.Test.YtliflleaeimngaaFindProofNB17
import Derived.Test.YtliflleaeimngaaFindProofNB5
import Derived.Test.YtliflleaeimngaaFindProofNB7
import Derived.Test.YtliflleaeimngaaFindProofNB2
import Derived.Test.YtliflleaeimngaaRows
import Derived.ProofKit
import Derived.LaidMore
import Derived.OpenShut
import Derived.Stop.Joined
import Derived.Laws.IdiomArrays
import Derived.Lib.LaidU8
import Derived.Lib.LaidTab
import Derived.ChangeOld
import Derived.Deep.Slices
import Derived.ChangeSame
import Derived.SizedLaws
import Derived.SevenTiedAt
import Derived.Deep.CondSized
set_option linter.unusedSimpArgs false
set_option maxRecDepth 100000
set_option maxHeartbeats 8000000
namespace Go.Proofs.Ytliflleaeimngaa
open Go Go.RowKit
section
set_option linter.unusedSimpArgs false
attribute [local go_sem] Oper.semAt_some kE gS
abbrev tpA:Array Value:=#[.int .i64 2,.int .i64 1,.int .i64 3,.int .i64 0,.int .i64 0,.int .i64 0,.int .u64 0,.int .u64 0,.int .u64 0,.int .u64 0,.int .i64 1,.int .i64 0,.int .i64 0,.int .i64 0,.int .i64 0,.int .i64 0,.int .u64 0,.int .u64 8589934592,.int .u64 0,.int .u64 0,.int .i64 11,.int .i64 0,.int .i64 0,.int .i64 0,.int .i64 0,.int .i64 0,.int .u64 0,.int .u64 0,.int .u64 0,.int .u64 0,.int .i64 11,.int .i64 0,.int .i64 0,.int .i64 0,.int .i64 0,.int .i64 0,.int .u64 0,.int .u64 0,.int .u64 0,.int .u64 0]
theorem rZ{w:World}{g:Nat}(h:w.heap[g]?=some (.cells tpA 47 (0,0))):LI w (some ⟨g,10,none⟩) twN:=gM h fun j i hi m v hm=>by
 have hj:j<2:=(f7.1 hi).1
 obtain⟨a0,a1,a2,a3⟩:=uE
 obtain⟨n0,n1,n2,n3⟩:=tZ
 match j,hj,hi with
 | 0,_,hi=>cases hi;refine dM (P:=fun m v=>tpA[10+0*10+m]?=some v) hm ?_ ?_ ?_ ?_ ?_ ?_ ?_ ?_ ?_ ?_ <;> simp [a0,a1,a2,a3,n0,n1,n2,n3]
 | 1,_,hi=>cases hi;refine dM (P:=fun m v=>tpA[10+1*10+m]?=some v) hm ?_ ?_ ?_ ?_ ?_ ?_ ?_ ?_ ?_ ?_ <;> simp [a0,a1,a2,a3,n0,n1,n2,n3]
theorem qJ{w4:World}{g3 xb:Nat}(G:w4.heap[g3]?=some (.cells lpA 47 (0,0)))(X:w4.heap[xb]?=some (.cells #[.slice (some ⟨g3,0,none⟩) 4 4,.int .i64 0,.int .i64 0,.bool false] 24 (0,0)))(hne:g3≠xb) :
  ((((((((((((w4.setCell ⟨xb,0,none⟩ (.slice (some ⟨g3,10,none⟩) 1 3)).setCell ⟨g3,20,none⟩ (.int .i64 11)).setCell ⟨g3,21,none⟩ (.int .i64 0)).setCell ⟨g3,22,none⟩ (.int .i64 0)).setCell ⟨g3,23,none⟩ (.int .i64 0)).setCell ⟨g3,24,none⟩ (.int .i64 0)).setCell ⟨g3,25,none⟩ (.int .i64 0)).setCell ⟨g3,26,none⟩ (.int .u64 0)).setCell ⟨g3,27,none⟩ (.int .u64 0)).setCell ⟨g3,28,none⟩ (.int .u64 0)).setCell ⟨g3,29,none⟩ (.int .u64 0)).setCell ⟨xb,0,none⟩ (.slice (some ⟨g3,10,none⟩) 2 3)).heap[g3]?=some (.cells tpA 47 (0,0))/\((((((((((((w4.setCell ⟨xb,0,none⟩ (.slice (some ⟨g3,10,none⟩) 1 3)).setCell ⟨g3,20,none⟩ (.int .i64 11)).setCell ⟨g3,21,none⟩ (.int .i64 0)).setCell ⟨g3,22,none⟩ (.int .i64 0)).setCell ⟨g3,23,none⟩ (.int .i64 0)).setCell ⟨g3,24,none⟩ (.int .i64 0)).setCell ⟨g3,25,none⟩ (.int .i64 0)).setCell ⟨g3,26,none⟩ (.int .u64 0)).setCell ⟨g3,27,none⟩ (.int .u64 0)).setCell ⟨g3,28,none⟩ (.int .u64 0)).setCell ⟨g3,29,none⟩ (.int .u64 0)).setCell ⟨xb,0,none⟩ (.slice (some ⟨g3,10,none⟩) 2 3)).heap[xb]?=some (.cells #[.slice (some ⟨g3,10,none⟩) 2 3,.int .i64 0,.int .i64 0,.bool false] 24 (0,0))/\∀ (w:World) (n:Nat),Below n w w4->n<=g3->n<=xb->Below n w ((((((((((((w4.setCell ⟨xb,0,none⟩ (.slice (some ⟨g3,10,none⟩) 1 3)).setCell ⟨g3,20,none⟩ (.int .i64 11)).setCell ⟨g3,21,none⟩ (.int .i64 0)).setCell ⟨g3,22,none⟩ (.int .i64 0)).setCell ⟨g3,23,none⟩ (.int .i64 0)).setCell ⟨g3,24,none⟩ (.int .i64 0)).setCell ⟨g3,25,none⟩ (.int .i64 0)).setCell ⟨g3,26,none⟩ (.int .u64 0)).setCell ⟨g3,27,none⟩ (.int .u64 0)).setCell ⟨g3,28,none⟩ (.int .u64 0)).setCell ⟨g3,29,none⟩ (.int .u64 0)).setCell ⟨xb,0,none⟩ (.slice (some ⟨g3,10,none⟩) 2 3)):=by
 refine⟨(Below.heap_setCell _ _ _ _ hne).trans (aG (aG (aG (aG (aG (aG (aG (aG (aG (aG ((Below.heap_setCell _ _ _ _ hne).trans G) 20 _) 21 _) 22 _) 23 _) 24 _) 25 _) 26 _) 27 _) 28 _) 29 _),?_,fun w n h h1 h2=>?_⟩
 ·refine aG (cur:=#[.slice (some ⟨g3,10,none⟩) 1 3,.int .i64 0,.int .i64 0,.bool false]) ?_ 0 _
  repeat (refine(Below.heap_setCell _ _ _ _ (Ne.symm hne)).trans ?_)
  exact aG X 0 _
 ·exact(((((((((((((h.setCell (p:=⟨xb,0,none⟩) (by exact h2) _).setCell (p:=⟨g3,20,none⟩) (by exact h1) _).setCell (p:=⟨g3,21,none⟩) (by exact h1) _).setCell (p:=⟨g3,22,none⟩) (by exact h1) _).setCell (p:=⟨g3,23,none⟩) (by exact h1) _).setCell (p:=⟨g3,24,none⟩) (by exact h1) _).setCell (p:=⟨g3,25,none⟩) (by exact h1) _).setCell (p:=⟨g3,26,none⟩) (by exact h1) _).setCell (p:=⟨g3,27,none⟩) (by exact h1) _).setCell (p:=⟨g3,28,none⟩) (by exact h1) _).setCell (p:=⟨g3,29,none⟩) (by exact h1) _).setCell (p:=⟨xb,0,none⟩) (by exact h2) _))
theorem rM(w:World):Calls Try.prog 5 #[] w fun e w'=>e=.returned (.bool true)/\wBl w w':=by
 go_enter Try.func5,Try.ntmps5
 go_upto_region 2 with first
  |(go_at_call 14;(with_reducible refine(pC _).mono ?_);rintro e w1 ⟨g,rfl,h11,h12,h13⟩;have G1:=aD h11;have B1:=aD h13;have LC:Hid (Calls Try.prog 7 #[.agg #[.slice (some ⟨g,0,none⟩) 4 4,.int .i64 0,.int .i64 0,.bool false],.string ⟨#[97,97,98]⟩,.int .i64 0] w1 fun e w'=>(∃ n ok st,e=.returned (.tuple #[.int .i64 n,.bool ok,.int .i64 st,.int .i64 0])/\LgS smN [97,97,98] 0 n ok)/\wBl w1 w'):=jU (p:=⟨some ⟨g,0,none⟩,smN,4,0,0,false⟩) ⟨(by decide:(4:Nat)<=9223372036854775807),uA G1.o⟩ ⟨#[97,97,98]⟩ 0 (oL (by rw [sI]) (tC _ _) (by decide) (by decide)) (by decide);clear h11 h12 h13)
  |(go_at_call 7;(with_reducible refine(LC.o).mono ?_);rintro e w2 ⟨⟨n,ok,st,rfl,h21⟩,h22⟩;have B2:=aD (aF B1.o h22 lz9);have K2:=aD (uB h21);clear h21 h22)
 obtain⟨hn,hok⟩:=K2.o
 subst hn
 subst hok
 clear LC K2 G1
 go_upto_region 3 with (go_at_call 14;(with_reducible refine(pC _).mono ?_);rintro e w3 ⟨g3,rfl,h11,h12,h13⟩;have G3:=aD h11;have B3:=aD (aF B2.o h13 lz9);have hwg:=k6 B2.o.size h12;clear h11 h12 h13)
 have BA:wBl w3 (w3.alloc (.cells #[.slice (some ⟨g3,0,none⟩) 4 4,.int .i64 0,.int .i64 0,.bool false] 24)):=bz9
 have G4:=aD ((BA.block _ (aC G3.o)).trans G3.o)
 have X4:Hid ((w3.alloc (.cells #[.slice (some ⟨g3,0,none⟩) 4 4,.int .i64 0,.int .i64 0,.bool false] 24)).heap[w3.heap.size]?=some (.cells #[.slice (some ⟨g3,0,none⟩) 4 4,.int .i64 0,.int .i64 0,.bool false] 24 (0,0))):=aE w3 _
 have B4:=aD (aF B3.o BA lz9)
 have hgx:=aC G3.o
 have hwx:=B3.o.size
 clear BA B3 G3
 generalize (w3.alloc (.cells #[.slice (some ⟨g3,0,none⟩) 4 4,.int .i64 0,.int .i64 0,.bool false] 24))=w4 at G4 X4 B4 ⊢
 obtain⟨xb,hxb⟩:∃ xb,w3.heap.size=xb:=⟨_,rfl⟩
 rw [hxb] at X4 hgx hwx ⊢
 clear hxb
 have x0:=aA X4.o (i:=0) rfl
 have x1:=aA X4.o (i:=1) rfl
 have x2:=aA X4.o (i:=2) rfl
 have x3:=aA X4.o (i:=3) rfl
 have f0:=aI X4.o 0
 have hne:g3≠xb:=by omega
 have hne':xb≠g3:=by omega
 have lg4:=aC G4.o
 have lx4:=aC X4.o
 have d20:=aA G4.o (i:=20) rfl
 have e20:=aI G4.o 20
 have d21:=aA G4.o (i:=21) rfl
 have e21:=aI G4.o 21
 have d22:=aA G4.o (i:=22) rfl
 have e22:=aI G4.o 22
 have d23:=aA G4.o (i:=23) rfl
 have e23:=aI G4.o 23
 have d24:=aA G4.o (i:=24) rfl
 have e24:=aI G4.o 24
 have d25:=aA G4.o (i:=25) rfl
 have e25:=aI G4.o 25
 have d26:=aA G4.o (i:=26) rfl
 have e26:=aI G4.o 26
 have d27:=aA G4.o (i:=27) rfl
 have e27:=aI G4.o 27
 have d28:=aA G4.o (i:=28) rfl
 have e28:=aI G4.o 28
 have d29:=aA G4.o (i:=29) rfl
 have e29:=aI G4.o 29
 go_upto_region 5 with fail
 have TS:=aD (qJ G4.o X4.o hne)
 clear d20 d21 d22 d23 d24 d25 d26 d27 d28 d29 e20 e21 e22 e23 e24 e25 e26 e27 e28 e29 x0 x1 x2 x3 f0
 generalize ((((((((((((w4.setCell ⟨xb,0,none⟩ (.slice (some ⟨g3,10,none⟩) 1 3)).setCell ⟨g3,20,none⟩ (.int .i64 11)).setCell ⟨g3,21,none⟩ (.int .i64 0)).setCell ⟨g3,22,none⟩ (.int .i64 0)).setCell ⟨g3,23,none⟩ (.int .i64 0)).setCell ⟨g3,24,none⟩ (.int .i64 0)).setCell ⟨g3,25,none⟩ (.int .i64 0)).setCell ⟨g3,26,none⟩ (.int .u64 0)).setCell ⟨g3,27,none⟩ (.int .u64 0)).setCell ⟨g3,28,none⟩ (.int .u64 0)).setCell ⟨g3,29,none⟩ (.int .u64 0)).setCell ⟨xb,0,none⟩ (.slice (some ⟨g3,10,none⟩) 2 3))=V at TS ⊢
 have BZ:=aD (TS.o.2.2 w w.heap.size B4.o hwg hwx)
 have BA:wBl V (V.alloc (.cells #[.int .i64 11,.int .i64 0,.int .i64 0,.int .i64 0,.int .i64 0,.int .i64 0,.int .u64 0,.int .u64 0,.int .u64 0,.int .u64 0] 47)):=bz9
 have G5:=aD ((BA.block _ (aC TS.o.1)).trans TS.o.1)
 have X5:=aD ((BA.block _ (aC TS.o.2.1)).trans TS.o.2.1)
 have B5:=aD (aF BZ.o BA lz9)
 clear BA TS BZ B4 X4 G4 lg4 lx4
 generalize (V.alloc (.cells #[.int .i64 11,.int .i64 0,.int .i64 0,.int .i64 0,.int .i64 0,.int .i64 0,.int .u64 0,.int .u64 0,.int .u64 0,.int .u64 0] 47))=w5 at G5 X5 B5 ⊢
 have x0:=aA X5.o (i:=0) rfl
 have x1:=aA X5.o (i:=1) rfl
 have x2:=aA X5.o (i:=2) rfl
 have x3:=aA X5.o (i:=3) rfl
 have FC:Hid (Calls Try.prog 12 #[.agg #[.slice (some ⟨g3,10,none⟩) 2 3,.int .i64 0,.int .i64 0,.bool false],.string ⟨#[98,97,98]⟩,.int .i64 0] w5 fun e w'=>(∃ F T ok st,e=.returned (.tuple #[.agg #[.int .i64 F,.int .i64 T],.bool ok,.int .i64 st,.int .i64 0])/\cV twN [98,97,98] 0 3 ok F T)/\wBl w5 w'):=kD (p:=⟨some ⟨g3,10,none⟩,twN,3,0,0,false⟩) ⟨(by decide:(2:Nat)<=9223372036854775807),rZ G5.o⟩ ⟨#[98,97,98]⟩ 0 (oL (by rw [oS]) (pJ _ _) (by decide) (by decide)) (by decide)
 go_upto_region 6 with (go_at_call 12;(with_reducible refine(FC.o).mono ?_);rintro e w6 ⟨⟨F,T,ok,st6,rfl,h61⟩,h62⟩;have K6:=aD (uC h61);have B6:=aD (aF B5.o h62 lz9);have G6:=aD ((h62.block _ (aC G5.o)).trans G5.o);have X6:=aD ((h62.block _ (aC X5.o)).trans X5.o);clear h61 h62)
 obtain⟨hF,hT,hok⟩:=K6.o
 subst hF
 subst hT
 subst hok
 clear K6 FC x0 x1 x2 x3
 have BA:wBl w6 (w6.alloc (.cells #[.int .i64 1,.int .i64 2] 37)):=bz9
 have G7:=aD ((BA.block _ (aC G6.o)).trans G6.o)
 have X7:=aD ((BA.block _ (aC X6.o)).trans X6.o)
 have S7:Hid ((w6.alloc (.cells #[.int .i64 1,.int .i64 2] 37)).heap[w6.heap.size]?=some (.cells #[.int .i64 1,.int .i64 2] 37 (0,0))):=aE w6 _
 have B7:=aD (aF B6.o BA lz9)
 clear BA G6 X6 B6
 generalize (w6.alloc (.cells #[.int .i64 1,.int .i64 2] 37))=w7 at G7 X7 S7 B7 ⊢
 have x0:=aA X7.o (i:=0) rfl
 have x1:=aA X7.o (i:=1) rfl
 have x2:=aA X7.o (i:=2) rfl
 have x3:=aA X7.o (i:=3) rfl
 have FC:Hid (Calls Try.prog 12 #[.agg #[.slice (some ⟨g3,10,none⟩) 2 3,.int .i64 0,.int .i64 0,.bool false],.string ⟨#[98,97,98]⟩,.int .i64 2] w7 fun e w'=>(∃ F T ok st,e=.returned (.tuple #[.agg #[.int .i64 F,.int .i64 T],.bool ok,.int .i64 st,.int .i64 0])/\cV twN [98,97,98] 2 3 ok F T)/\wBl w7 w'):=kD (p:=⟨some ⟨g3,10,none⟩,twN,3,0,0,false⟩) ⟨(by decide:(2:Nat)<=9223372036854775807),rZ G7.o⟩ ⟨#[98,97,98]⟩ 2 (oL (by rw [oS]) (pJ _ _) (by decide) (by decide)) (by decide)
 go_upto_region 7 with (go_at_call 12;(with_reducible refine(FC.o).mono ?_);rintro e w8 ⟨⟨F,T,ok,st8,rfl,h61⟩,h62⟩;have K8:=aD (tD h61);have B8:=aD (aF B7.o h62 lz9);have S8:=aD ((h62.block _ (aC S7.o)).trans S7.o);clear h61 h62)
 obtain⟨hF,hT,hok⟩:=K8.o
 subst hF
 subst hT
 subst hok
 clear K8 FC x0 x1 x2 x3
 have s0:=aA S8.o (i:=0) rfl
 have s1:=aA S8.o (i:=1) rfl
 have ls:=aC S8.o
 go_wp2
 go_ret
 exact⟨rfl,B8.o.alloc (by exact B8.o.size) _⟩
end
section
set_option linter.unusedSimpArgs false
set_option linter.unusedVariables false
attribute [local go_sem] Oper.semAt_some kE gS
theorem uD(p:Pg)(q:Option Addr)(c:Nat):∀ (L:List Ins) (k:Nat),fbI ⟨q,p.L,c,p.g,p.k,p.f⟩ k L=fbI p k L
 | [],k=>rfl
 | x :: r,k=>by
  unfold fbI
  have e:bK ⟨q,p.L,c,p.g,p.k,p.f⟩ k x=bK p k x:=by unfold bK;rfl
  rw [e,uD p q c r (k+1)]
theorem uG(p:Pg)(q:Option Addr)(c:Nat):rtE ⟨q,p.L,c,p.g,p.k,p.f⟩=rtE p:=by
 unfold rtE
 dsimp only
 rw [uD]
theorem tA(p:Pg)(q:Option Addr)(c:Nat):cB ⟨q,p.L,c,p.g,p.k,p.f⟩=cB p:=by unfold cB;rfl
theorem sB(p:Pg)(q:Option Addr)(c n:Nat)(pl:Int):wrM ⟨q,p.L,c,p.g,p.k,p.f⟩ n pl=wrM p n pl:=by
 unfold wrM
 rw [uG,tA]
theorem rX{a b:Int}(hb:0<b)(h:a*b<=4611686018427387904):tmM a b=a*b:=by
 unfold tmM
 split
 ·rename_i h1
  rcases h1 with rfl | rfl
  ·simp
  ·omega
 ·split
  ·rename_i h2
   have:=(Int.le_ediv_iff_mul_le hb).2 h
   omega
  ·rfl
theorem tJ{m a n:Nat}{st:Int}(h:SB m a (n+1) n st)(hm:m<=40000)(h0:0<m)(hn:n<=100000000)(ha:a<=n):0<=st/\st<=tmM (tmM 4 m) ((n:Int)-a+1):=by
 obtain⟨h1,h2⟩:=h (by omega) hm
 have e:((n+1-a:Nat):Int)=(n:Int)-a+1:=by omega
 rw [e] at h2
 have hb:(m:Int)*((n:Int)-a+1)<=40000*100000001:=Int.mul_le_mul (by omega) (by omega) (by omega) (by omega)
 have hp:0<=(m:Int)*((n:Int)-a+1):=Int.mul_nonneg (by omega) (by omega)
 rw [rX (a:=4) (by omega) (by omega),rX (by omega) (by rw [Int.mul_assoc];omega),Int.mul_assoc]
 exact⟨h1,by omega⟩
theorem pO{w:World}{p:Pg}(h:PgI w p)(hb:p.L.length*80+160<=140737488355328)(hqc:p.q=none->p.c=0)(s:ByteArray)(hs:s.size<=100000000)(a:Int):Calls Try.prog 4 #[.agg #[.slice p.q p.L.length p.c,.int .i64 p.g,.int .i64 p.k,.bool p.f],.string s,.int .i64 a] w fun e w'=>e=.returned (.bool true)/\wBl w w':=by
 have B1:Hid (wBl w (w.alloc (.cells #[.slice p.q p.L.length p.c,.int .i64 p.g,.int .i64 p.k,.bool p.f] 24))):=bz9
 have X1:Hid ((w.alloc (.cells #[.slice p.q p.L.length p.c,.int .i64 p.g,.int .i64 p.k,.bool p.f] 24)).heap[w.heap.size]?=some (.cells #[.slice p.q p.L.length p.c,.int .i64 p.g,.int .i64 p.k,.bool p.f] 24 (0,0))):=aE w _
 have H:=aD h
 have LN:=aD (fun (V:World) (hV:wBl w V)=>rF (h.kept hV) hb hqc)
 have HB:=aD hb
 have HL:=aD h.len
 have HSZ:=aD hs
 clear h hb hqc hs
 go_enter Try.func4,Try.ntmps4
 go_upto_region 1 with fail
 generalize (w.alloc (.cells #[.slice p.q p.L.length p.c,.int .i64 p.g,.int .i64 p.k,.bool p.f] 24))=w1 at B1 X1 ⊢
 go_upto_region 2 with (go_at_call 5;(with_reducible refine(rM _).mono ?_);rintro e w2 ⟨rfl,h2⟩;have B2:=aD (aF B1.o h2 lz9);have X2:=aD ((h2.block _ (aC X1.o)).trans X1.o);clear h2)
 have p0:=aA X2.o (i:=0) rfl
 have p1:=aA X2.o (i:=1) rfl
 have p2:=aA X2.o (i:=2) rfl
 have p3:=aA X2.o (i:=3) rfl
 go_upto_region 3 with (go_at_call 6;(with_reducible refine(LN.o _ B2.o).mono ?_);rintro e w3 ⟨g,c,rfl,hO,h2⟩;have O3:=aD hO;have B3:=aD (aF B2.o h2 lz9);have X3:=aD ((h2.block _ (aC X2.o)).trans X2.o);clear h2 hO)
 clear p0 p1 p2 p3 LN X1 X2
 have BA:wBl w3 (w3.alloc (.cells #[.slice (some ⟨g,0,none⟩) p.L.length c,.int .i64 p.g,.int .i64 p.k,.bool p.f] 24)):=bz9
 have X4:=aD ((BA.block _ (aC X3.o)).trans X3.o)
 have Q4:Hid ((w3.alloc (.cells #[.slice (some ⟨g,0,none⟩) p.L.length c,.int .i64 p.g,.int .i64 p.k,.bool p.f] 24)).heap[w3.heap.size]?=some (.cells #[.slice (some ⟨g,0,none⟩) p.L.length c,.int .i64 p.g,.int .i64 p.k,.bool p.f] 24 (0,0))):=aE w3 _
 have O4:=aD (cD O3.o BA)
 have B4:=aD (aF B3.o BA lz9)
 clear BA O3 X3
 obtain⟨qb,hqb⟩:∃ qb,w3.heap.size=qb:=⟨_,rfl⟩
 rw [hqb] at Q4 ⊢
 clear hqb
 generalize (w3.alloc (.cells #[.slice (some ⟨g,0,none⟩) p.L.length c,.int .i64 p.g,.int .i64 p.k,.bool p.f] 24))=w4 at X4 Q4 O4 B4 ⊢
 have HQ:=aD (pA HL.o O4.o)
 have q0:=aA Q4.o (i:=0) rfl
 have q1:=aA Q4.o (i:=1) rfl
 have q2:=aA Q4.o (i:=2) rfl
 have q3:=aA Q4.o (i:=3) rfl
 by_cases hz:wrM p s.size a=0
 case neg=>
  have LB:Hid (Calls Try.prog 12 #[.agg #[.slice (some ⟨g,0,none⟩) p.L.length c,.int .i64 p.g,.int .i64 p.k,.bool p.f],.string s,.int .i64 a] w4 fun e w'=>e=.returned (.tuple #[.agg #[.int .i64 0,.int .i64 0],.bool false,.int .i64 0,.int .i64 (wrM p s.size a)])/\wBl w4 w'):=aD (by
   have h:=pP HQ.o s a (by rw [sB];exact hz)
   rw [sB] at h
   exact h)
  have RF:=aD (fun (V:World) (hV:wBl w V)=>eV (H.o.kept hV) s a)
  obtain⟨v,hv⟩:∃ v,wrM p s.size a=v:=⟨_,rfl⟩
  rw [hv] at LB RF hz
  have z0:(v != 0)=true:=by simp [hz]
  clear hv hz
  go_upto_region 4 with (go_at_call 12;(with_reducible refine(LB.o).mono ?_);rintro e w5 ⟨rfl,h2⟩;have O5:=aD (cD O4.o h2);have B5:=aD (aF B4.o h2 lz9);have X5:=aD ((h2.block _ (aC X4.o)).trans X4.o);have Q5:=aD ((h2.block _ (aC Q4.o)).trans Q4.o);clear h2)
  clear q0 q1 q2 q3 LB HQ
  have BA:wBl w5 (w5.alloc (.cells #[.int .i64 0,.int .i64 0] 37)):=bz9
  have X6:=aD ((BA.block _ (aC X5.o)).trans X5.o)
  have Q6:=aD ((BA.block _ (aC Q5.o)).trans Q5.o)
  have Y6:Hid ((w5.alloc (.cells #[.int .i64 0,.int .i64 0] 37)).heap[w5.heap.size]?=some (.cells #[.int .i64 0,.int .i64 0] 37 (0,0))):=aE w5 _
  have O6:=aD (cD O5.o BA)
  have B6:=aD (aF B5.o BA lz9)
  clear BA
  generalize (w5.alloc (.cells #[.int .i64 0,.int .i64 0] 37))=w6 at X6 Q6 Y6 O6 B6 ⊢
  have p0:=aA X6.o (i:=0) rfl
  have p1:=aA X6.o (i:=1) rfl
  have p2:=aA X6.o (i:=2) rfl
  have p3:=aA X6.o (i:=3) rfl
  have q0:=aA Q6.o (i:=0) rfl
  have q1:=aA Q6.o (i:=1) rfl
  have q2:=aA Q6.o (i:=2) rfl
  have q3:=aA Q6.o (i:=3) rfl
  have BK:=aD (kH (H.o.kept B6.o) O6.o HB.o)
  go_upto_region 5 with (go_at_call 8;(with_reducible refine(BK.o).mono ?_);rintro e w7 ⟨rfl,h2⟩;have B7:=aD (aF B6.o h2 lz9);have X7:=aD ((h2.block _ (aC X6.o)).trans X6.o);have Y7:=aD ((h2.block _ (aC Y6.o)).trans Y6.o);clear h2)
  clear p0 p1 p2 p3 q0 q1 q2 q3 BK
  have p0:=aA X7.o (i:=0) rfl
  have p1:=aA X7.o (i:=1) rfl
  have p2:=aA X7.o (i:=2) rfl
  have p3:=aA X7.o (i:=3) rfl
  go_upto_region 6 with (go_at_call 9;(with_reducible refine(RF.o _ B7.o).mono ?_);rintro e w8 ⟨rfl,h2⟩;have B8:=aD (aF B7.o h2 lz9);have Y8:=aD ((h2.block _ (aC Y7.o)).trans Y7.o);clear h2)
  clear p0 p1 p2 p3 RF
  have y0:=aA Y8.o (i:=0) rfl
  have y1:=aA Y8.o (i:=1) rfl
  go_wp2
  go_ret
  exact⟨rfl,B8.o⟩
 case pos=>
  obtain⟨hr,hf,ha0,ha1⟩:=fK hz
  obtain⟨a,rfl⟩:∃ b:Nat,a=(b:Int):=⟨a.toNat,by omega⟩
  have hal:a<=s.size:=by omega
  have GG:=aD (eZ hr)
  have LO:Hid (Calls Try.prog 12 #[.agg #[.slice (some ⟨g,0,none⟩) p.L.length c,.int .i64 p.g,.int .i64 p.k,.bool p.f],.string s,.int .i64 (a:Int)] w4 fun e w'=>(∃ F T ok st,e=.returned (.tuple #[.agg #[.int .i64 F,.int .i64 T],.bool ok,.int .i64 st,.int .i64 0])/\cV p.L (sL s) a s.size ok F T/\SB p.L.length a (s.size+1) s.size st)/\wBl w4 w'):=aD (pN HQ.o s a (by rw [sB];exact hz) (by have:=HSZ.o;omega))
  have RF:=aD (fun (V:World) (hV:wBl w V)=>eV (H.o.kept hV) s (a:Int))
  rw [hz] at RF
  have DF:=aD (fun (V:World) (hV:wBl w V)=>rT (H.o.kept hV) hr hf s HSZ.o a hal)
  have NB:=aD (fun (V:World)=>nZ (w:=V) (p:=p) ((s.size:Int)-(a:Int)) (by omega) (by have:=HSZ.o;omega) GG.o.len)
  have hwn:IntKind.wrap .i64 ((s.size:Int)-(a:Int))=(s.size:Int)-(a:Int):=wrap_small _ (by omega) (by have:=HSZ.o;omega)
  clear hz hr hf ha0 ha1
  go_upto_region 4 with (go_at_call 12;(with_reducible refine(LO.o).mono ?_);rintro e w5 ⟨⟨F,T,ok,st,rfl,h1,h3⟩,h2⟩;have S5:=aD h1;have N5:=aD (tJ h3 GG.o.len GG.o.pos HSZ.o hal);have O5:=aD (cD O4.o h2);have B5:=aD (aF B4.o h2 lz9);have X5:=aD ((h2.block _ (aC X4.o)).trans X4.o);have Q5:=aD ((h2.block _ (aC Q4.o)).trans Q4.o);clear h1 h2 h3)
  clear q0 q1 q2 q3 LO HQ
  obtain⟨R,hR⟩:∃ R,tmM (tmM 4 (p.L.length:Int)) ((s.size:Int)-(a:Int)+1)=R:=⟨_,rfl⟩
  rw [hR] at N5 NB
  clear hR
  obtain⟨n0,n1⟩:=N5.o
  clear N5
  have BA:wBl w5 (w5.alloc (.cells #[.int .i64 F,.int .i64 T] 37)):=bz9
  have X6:=aD ((BA.block _ (aC X5.o)).trans X5.o)
  have Q6:=aD ((BA.block _ (aC Q5.o)).trans Q5.o)
  have Y6:Hid ((w5.alloc (.cells #[.int .i64 F,.int .i64 T] 37)).heap[w5.heap.size]?=some (.cells #[.int .i64 F,.int .i64 T] 37 (0,0))):=aE w5 _
  have O6:=aD (cD O5.o BA)
  have B6:=aD (aF B5.o BA lz9)
  clear BA
  generalize (w5.alloc (.cells #[.int .i64 F,.int .i64 T] 37))=w6 at X6 Q6 Y6 O6 B6 ⊢
  have p0:=aA X6.o (i:=0) rfl
  have p1:=aA X6.o (i:=1) rfl
  have p2:=aA X6.o (i:=2) rfl
  have p3:=aA X6.o (i:=3) rfl
  have q0:=aA Q6.o (i:=0) rfl
  have q1:=aA Q6.o (i:=1) rfl
  have q2:=aA Q6.o (i:=2) rfl
  have q3:=aA Q6.o (i:=3) rfl
  have BK:=aD (kH (H.o.kept B6.o) O6.o HB.o)
  go_upto_region 5 with (go_at_call 8;(with_reducible refine(BK.o).mono ?_);rintro e w7 ⟨rfl,h2⟩;have B7:=aD (aF B6.o h2 lz9);have X7:=aD ((h2.block _ (aC X6.o)).trans X6.o);have Y7:=aD ((h2.block _ (aC Y6.o)).trans Y6.o);clear h2)
  clear p0 p1 p2 p3 q0 q1 q2 q3 BK
  have p0:=aA X7.o (i:=0) rfl
  have p1:=aA X7.o (i:=1) rfl
  have p2:=aA X7.o (i:=2) rfl
  have p3:=aA X7.o (i:=3) rfl
  go_upto_region 6 with (go_at_call 9;(with_reducible refine(RF.o _ B7.o).mono ?_);rintro e w8 ⟨rfl,h2⟩;have B8:=aD (aF B7.o h2 lz9);have X8:=aD ((h2.block _ (aC X7.o)).trans X7.o);have Y8:=aD ((h2.block _ (aC Y7.o)).trans Y7.o);clear h2)
  clear p0 p1 p2 p3 RF
  have p0:=aA X8.o (i:=0) rfl
  have p1:=aA X8.o (i:=1) rfl
  have p2:=aA X8.o (i:=2) rfl
  have p3:=aA X8.o (i:=3) rfl
  go_upto_region 11 with (go_at_call 13;(with_reducible refine(DF.o _ B8.o).mono ?_);rintro e w9 ⟨⟨F',T',ok',rfl,h1⟩,h2⟩;obtain⟨e1,e2,e3⟩:=pR S5.o h1;subst e1;subst e2;subst e3;have B9:=aD (aF B8.o h2 lz9);have X9:=aD ((h2.block _ (aC X8.o)).trans X8.o);have Y9:=aD ((h2.block _ (aC Y8.o)).trans Y8.o);clear h1 h2)
  clear p0 p1 p2 p3 DF
  have BA:wBl w9 (w9.alloc (.cells #[.int .i64 F,.int .i64 T] 37)):=bz9
  have X10:=aD ((BA.block _ (aC X9.o)).trans X9.o)
  have Y10:=aD ((BA.block _ (aC Y9.o)).trans Y9.o)
  have Z10:Hid ((w9.alloc (.cells #[.int .i64 F,.int .i64 T] 37)).heap[w9.heap.size]?=some (.cells #[.int .i64 F,.int .i64 T] 37 (0,0))):=aE w9 _
  have B10:=aD (aF B9.o BA lz9)
  clear BA
  generalize (w9.alloc (.cells #[.int .i64 F,.int .i64 T] 37))=wa at X10 Y10 Z10 B10 ⊢
  have p0:=aA X10.o (i:=0) rfl
  have p1:=aA X10.o (i:=1) rfl
  have p2:=aA X10.o (i:=2) rfl
  have p3:=aA X10.o (i:=3) rfl
  have y0:=aA Y10.o (i:=0) rfl
  have y1:=aA Y10.o (i:=1) rfl
  have z0:=aA Z10.o (i:=0) rfl
  have z1:=aA Z10.o (i:=1) rfl
  go_wp2_with (go_at_call 11;(with_reducible refine(NB.o _).mono ?_);rintro e wb ⟨rfl,h2⟩;have B11:=aD (aF B10.o h2 lz9);clear h2)
  go_ret
  exact⟨rfl,B11.o⟩
end
section
open Go Go.ChangeShapes Go.WideShapes Go.ChangeAt Go.RowKit
theorem rY:Try.prog.cellsOf 3=1:=by kernel_rfl
theorem sP:Try.prog.cellsOf 4=1:=by kernel_rfl
theorem tV:Try.prog.cellsOf 43=1:=by kernel_rfl
theorem tW:Try.prog.cellsOf 45=4:=by kernel_rfl
theorem sO:Try.prog.cellsOf 47=10:=by kernel_rfl
theorem rD:Try.prog.cellsOf 22=1:=by kernel_rfl
theorem sN:Try.prog.cellsOf 24=4:=by kernel_rfl
theorem tE:Try.prog.bytesOf 47=80:=by kernel_rfl
theorem tH:Try.prog.underlying 45=some (.array 4 43):=by kernel_rfl
theorem cZ{x:Int}(h:(Lit.int .u64 x).wf=true):0<=x/\x<18446744073709551616:=by
 simp [Lit.wf,IntKind.min,IntKind.max,IntKind.signed,IntKind.bits] at h
 omega
theorem pY{w:World}{g o:Nat}{v:Value}(h:w.cell? ⟨g,o,none⟩=some v):g<w.heap.size:=by
 rcases j6 g w.heap.size with h' | h'
 ·exact h'
 ·have:w.heap[g]?=none:=Array.getElem?_eq_none h'
  simp [World.cell?,this] at h
theorem nW{H:Type}{enc:TypeId×Value->H}{W:World}{fuel:Nat}{c0 c1 c2 c3:Value}{x:DataW H×List MemPlace}(hf:DataW.trod enc Try.prog W 0 (fun _=>true) true fuel 45 [c0,c1,c2,c3]=some x) :
  ∃ s:bG,c0=.int .u64 (aB s 0)/\c1=.int .u64 (aB s 1)/\c2=.int .u64 (aB s 2)/\c3=.int .u64 (aB s 3):=by
 obtain⟨y0,y1,y2,y3,m,hx,hy0,hy1,hy2,hy3⟩:=trod_array4 tH tV hf
 obtain⟨x0,e0,_,w0⟩:=DataW.trod_int Try.underlying43 hy0
 obtain⟨x1,e1,_,w1⟩:=DataW.trod_int Try.underlying43 hy1
 obtain⟨x2,e2,_,w2⟩:=DataW.trod_int Try.underlying43 hy2
 obtain⟨x3,e3,_,w3⟩:=DataW.trod_int Try.underlying43 hy3
 simp at e0 e1 e2 e3
 subst e0 e1 e2 e3
 have r0:=cZ w0
 have r1:=cZ w1
 have r2:=cZ w2
 have r3:=cZ w3
 obtain⟨s,g0,g1,g2,g3⟩:=oK x0 x1 x2 x3 r0.1 r0.2 r1.1 r1.2 r2.1 r2.2 r3.1 r3.2
 exact⟨s,by rw [g0],by rw [g1],by rw [g2],by rw [g3]⟩
theorem nY{H:Type}{enc:TypeId×Value->H}{W:World}{fuel:Nat}{cs:List Value}{x:DataW H×List MemPlace}(hl:cs.length=10)(hf:DataW.trod enc Try.prog W 0 (fun _=>true) true fuel 47 cs=some x):∃ i:Ins,cs=inC i:=by
 obtain⟨xs,k,hk,hxy,_,hxl,hf⟩:=DataW.trod_struct Try.underlying47 hf
 clear hxy
 match xs,hxl,cs,hl,hf with
 | [y0,y1,y2,y3,y4,y5,y6],_,[v0,v1,v2,v3,v4,v5,v6,v7,v8,v9],_,hf=>
  have F0:=hf 0 _ rfl
  have F1:=hf 1 _ rfl
  have F2:=hf 2 _ rfl
  have F3:=hf 3 _ rfl
  have F4:=hf 4 _ rfl
  have F5:=hf 5 _ rfl
  have F6:=hf 6 _ rfl
  simp [rY,tW] at F0 F1 F2 F3 F4 F5 F6
  obtain⟨x0,e0,_,w0⟩:=DataW.trod_int Try.underlying3 F0
  obtain⟨x1,e1,_,w1⟩:=DataW.trod_int Try.underlying3 F1
  obtain⟨x2,e2,_,w2⟩:=DataW.trod_int Try.underlying3 F2
  obtain⟨x3,e3,_,w3⟩:=DataW.trod_int Try.underlying3 F3
  obtain⟨x4,e4,_,w4⟩:=DataW.trod_int Try.underlying3 F4
  obtain⟨x5,e5,_,w5⟩:=DataW.trod_int Try.underlying3 F5
  obtain⟨s,g0,g1,g2,g3⟩:=nW F6
  cases e0;cases e1;cases e2;cases e3;cases e4;cases e5
  subst g0 g1 g2 g3
  exact⟨⟨x0,x1,x2,x3,x4,x5,s⟩,rfl⟩
theorem jR{H:Type}{enc:TypeId×Value->H}{W:World}{fuel:Nat}{v:Value}{d:DataW H}{p:List MemPlace}(hf:DataW.trod enc Try.prog W 0 (fun _=>true) true fuel 22 [v]=some (d,p))
  (hw:∀ n∈d.weights Try.prog 22,n<=reachBytes):∃ (q:Option Addr) (L:List Ins) (c:Nat),v=.slice q L.length c/\LI W q L/\L.length*80<=reachBytes/\L.length<=9223372036854775807/\(q=none->c=0):=by
 have hR:reachBytes=140737488351232:=by decide
 rcases Deep.open_slice Try.underlying22 hf with⟨h1,h2⟩ | ⟨a,len,cap,m,n,D,Pl,h1,_,hlc,hcap,hm,h2,hx⟩
 ·cases h1
  exact⟨none,[],0,rfl,fun j i h=>by simp at h,by simp,by simp,fun _=>rfl⟩
 ·cases h1
  rw [if_pos rfl] at hm
  subst hm
  have hde:d=.slice ((List.range len).map D) ((List.range (m-len)).map fun j=>D (len+j)):=(Prod.mk.inj h2).1
  have h3:=hw ((len+(m-len))*80) (by rw [hde];simp [DataW.weights,Try.underlying22,tE])
  have each:∀ i,i<len->∃ x:Ins,∀ j v,(inC x)[j]?=some v->W.cell? (a.add (i*10+j))=some v:=by
   intro i hi
   obtain⟨cs',g1,g2⟩:=hx i (by omega)
   rw [sO] at g1
   obtain⟨_,hlen,hcell⟩:=World.cells?_some g1
   obtain⟨x,rfl⟩:=nY hlen g2
   refine⟨x,fun j v hj=>?_⟩
   have hjl:j<10:=by have:=(f7.1 hj).1;rw [cK] at this;exact this
   have:=hcell j hjl
   rw [Deep.add_add] at this
   rw [this]
   exact hj
  by_cases hl:len=0
  ·subst hl
   exact⟨some a,[],m,rfl,fun j i h=>by simp at h,by simp,by simp,fun h=>by cases h⟩
  ·have:Inhabited Ins:=⟨⟨0,0,0,0,0,0,0⟩⟩
   obtain⟨q,hq⟩:=Deep.choose_lt each
   obtain⟨b,off,spot⟩:=a
   have c0:=hq 0 (by omega) 0 _ rfl
   have hs:spot=none:=by
    cases spot with
    | none=>rfl
    | some k=>
     exfalso
     unfold Addr.add World.cell? at c0
     simp at c0
     split at c0 <;> simp_all
   subst hs
   have hadd:∀ j,(⟨b,off,none⟩:Addr).add j=⟨b,off+j,none⟩:=fun j=>by unfold Addr.add;split <;> simp_all
   have hb:b<W.heap.size:=by
    rw [hadd] at c0
    exact pY c0
   refine⟨some ⟨b,off,none⟩,(List.range len).map q,m,by simp,fun j i hi=>⟨b,off,rfl,hb,?_⟩,by simp;omega,by simp;omega,fun h=>by cases h⟩
   have hil:j<len:=by have:=(f7.1 hi).1;simpa using this
   have hqi:q j=i:=by simpa [hil] using hi
   have hh:=hq j hil
   rw [hqi] at hh
   simp only [hadd] at hh
   simp only [<- Nat.add_assoc] at hh
   exact hh
theorem nX{H:Type}{enc:TypeId×Value->H}{W:World}{base:Nat}{v:Value}{d:DataW H}{p:List MemPlace}(hok:Value.okWide Try.prog W .any base 24 v)
  (h:DataW.Trod enc Try.prog W 0 (fun _=>true) true 24 v d p) (hw:∀ n∈d.weights Try.prog 24,n<=reachBytes):∃ x:Pg,v=.agg #[.slice x.q x.L.length x.c,.int .i64 x.g,.int .i64 x.k,.bool x.f]/\PgI W x/\x.L.length*80<=reachBytes/\(x.q=none->x.c=0):=by
 obtain⟨cs,rfl,hsz⟩:=okWide_struct Try.underlying24 hok
 rw [sN] at hsz
 obtain⟨l⟩:=cs
 obtain⟨fuel,hf⟩:=h
 obtain⟨xs,k,hk,hxy,_,hxl,hf⟩:=DataW.trod_struct Try.underlying24 hf
 have hD:d=.agg (xs.map (·.1)):=(Prod.mk.inj hxy).1
 rw [hD] at hw
 simp only [DataW.weights,Try.underlying24] at hw
 clear hD hxy
 match xs,hxl,l,hsz,hf,hw with
 | [y0,y1,y2,y3],_,[v0,v1,v2,v3],_,hf,hw=>
  have F0:=hf 0 _ rfl
  have F1:=hf 1 _ rfl
  have F2:=hf 2 _ rfl
  have F3:=hf 3 _ rfl
  simp [Value.cells,rY,sP,rD] at F0 F1 F2 F3
  obtain⟨x1,e1,_,w1⟩:=DataW.trod_int Try.underlying3 F1
  obtain⟨x2,e2,_,w2⟩:=DataW.trod_int Try.underlying3 F2
  obtain⟨b3,e3,_⟩:=DataW.trod_bool Try.underlying4 F3
  obtain⟨d0,p0⟩:=y0
  obtain⟨q,L,c,rfl,hL,hr,hm,hc⟩:=jR F0 (fun n hn=>hw n (DataW.weights_mem_each (j:=0) (t:=22) rfl rfl n hn))
  cases e1;cases e2;cases e3
  exact⟨⟨q,L,c,x1,x2,b3⟩,rfl,⟨hm,hL⟩,hr,hc⟩
end
section
open Go Go.ChangeShapes Go.WideShapes Go.ChangeAt Go.RowKit
theorem jX{H:Type}{d:DataW H}{l:List (DataW H)}(h:d∈l):Rows.uptoBulk d<=Rows.uptoBulkAll l:=by
 induction l with
 | nil=>cases h
 | cons x r ih=>
  simp only [Rows.uptoBulkAll]
  cases o5.1 h with
  | inl e=>subst e;omega
  | inr e=>have:=ih e;omega
theorem pZ{H:Type}{d:DataW H}{l:List (DataW H)}(hk:Rows.uptoSmall H l=true)(h:d∈l):Rows.uptoBulk d<=1048576:=k6 (jX h) (of_decide_eq_true hk)
end
end Go.Proofs.Ytliflleaeimngaa
